/- Contracts of fractions: valid or not, by the model and by the program. -/
import Derived.Test.YtdehcddjkcpnfaaGB
import Derived.Test.YtdehcddjkcpnfaaGJ
namespace Go.Proofs.Ytdehcddjkcpnfaa
open Go.RowKit

def ROkEnd (g : Bool) (xs ds : List Int) (e : Ending) : Prop := ∃ b, e = .returned (.bool b) ∧ RatOkIs g xs ds b
theorem rok_no {g : Bool} {xs ds : List Int} (h : ¬ ROk g xs ds) : ROkEnd g xs ds (.returned (.bool false)) := ⟨false, rfl, by unfold RatOkIs; simp [h]⟩
theorem rok_mk {g : Bool} {xs ds r : List Int} {b : Bool} (k1 : BOk g xs) (k2 : Ok ds) (hd : 0 < val ds) (hx : xs.length ≤ 24) (hy : ds.length ≤ 24) (h : GcdIs (val xs) (val ds) r) (hb : decide (r = [1]) = b) : ROkEnd g xs ds (.returned (.bool b)) := by
  refine ⟨b, rfl, ?_⟩
  unfold RatOkIs
  rw [← hb, decide_eq_true_iff, gcd_one h]
  exact ⟨fun h => ⟨k1, k2, hd, h, hx, hy⟩, fun h => h.2.2.2.1⟩
theorem one_cell {w : World} {A : Option Addr} {xs : List Int} (hn : xs.length = 1) (hr : Reads w A (xs.map (.int .i64))) : ∃ g o x, A = some ⟨g, o, none⟩ ∧ w.cell? ⟨g, o, none⟩ = some (.int .i64 x) ∧ xs = [x] := by
  obtain ⟨x, rfl⟩ : ∃ x, xs = [x] := List.length_eq_one_iff.1 hn
  obtain ⟨g, o, rfl, _, hc⟩ := hr.at_ (by simp)
  refine ⟨g, o, x, rfl, ?_, rfl⟩
  have := hc 0 (by simp)
  simpa using this
end Go.Proofs.Ytdehcddjkcpnfaa
namespace Go.Proofs.Ytdehcddjkcpnfaa
open Go.RowKit

/-- What a function that hands back a fraction ends in. -/
def RatEnd (Q : Bool → List Int → List Int → Prop) (w w' : World) (e : Ending) : Prop :=
  ∃ g r v d u, e = .returned (.agg #[.bool g, v, u]) ∧ Q g r d ∧ ResI w w' v r ∧ ResI w w' u d ∧ Apart u v ∧ Below w.heap.size w w'
theorem ratEnd_zero {Q : Bool → List Int → List Int → Prop} {w w' : World} (h : Q false [] []) (hb : Below w.heap.size w w') : RatEnd Q w w' (.returned (.agg #[.bool false, .slice none 0 0, .slice none 0 0])) :=
  ⟨false, [], _, [], _, rfl, h, ⟨by simp, World.ownsRow_nil _ _ _ _⟩, ⟨by simp, World.ownsRow_nil _ _ _ _⟩, (fun k hk => by simp [Value.ownBlock] at hk), hb⟩
theorem ratEnd_store {Q : Bool → List Int → List Int → Prop} {w W : World} {gb : Nat} {cs : Array Value} {s : Bool} {r ds : List Int} {A B : Option Addr} {N c M d base1 base2 : Nat}
    (hbx : Box W gb 35 cs) (hg : w.heap.size ≤ gb) (hb : Below w.heap.size w W) (hQ : Q s r ds) (hr : r.length = N) (hd : ds.length = M) (hN : N ≤ 4194304) (hM : M ≤ 4194304)
    (o1 : W.ownsRow base1 3 1 (.slice A N c) N (r.map (.int .i64))) (b1 : w.heap.size ≤ base1) (o2 : W.ownsRow base2 3 1 (.slice B M d) M (ds.map (.int .i64))) (b2 : w.heap.size ≤ base2) (ap : Apart (.slice B M d) (.slice A N c)) :
    RatEnd Q w (((W.setCell ⟨gb, 0, none⟩ (.bool s)).setCell ⟨gb, 1, none⟩ (.slice A N c)).setCell ⟨gb, 2, none⟩ (.slice B M d)) (.returned (.agg #[.bool s, .slice A N c, .slice B M d])) := by
  subst hr hd
  exact ⟨s, r, _, ds, _, rfl, hQ, ⟨hN, own_base (own_store3 o1 hbx (by decide) _ _ _) b1⟩, ⟨hM, own_base (own_store3 o2 hbx (by decide) _ _ _) b2⟩, ap, below_store3 hb hg _ _ _⟩
theorem RatEnd.imp {Q Q' : Bool → List Int → List Int → Prop} {w w' : World} {e : Ending} (h : RatEnd Q w w' e) (hq : ∀ g r d, Q g r d → Q' g r d) : RatEnd Q' w w' e := by
  obtain ⟨g, r, v, d, u, he, hQ, h⟩ := h
  exact ⟨g, r, v, d, u, he, hq _ _ _ hQ, h⟩
/-! A literal of no elements, appended to: what it leaves alone. -/
theorem lit_kept {w : World} {base : Nat} {E : TypeId} {size n : Nat} {v : Value} {xs : List Value} {k : Nat} (o : w.ownsRow base E size v n xs) : v.ownBlock = none ∨ v.ownBlock ≠ (Value.slice (some ⟨w.heap.size, 0, none⟩) 0 k).ownBlock := by
  cases hv : v.ownBlock with
  | none => exact .inl rfl
  | some j =>
    refine .inr fun e => ?_
    have := (o.lt j hv).2
    simp [Value.ownBlock] at e
    omega
theorem lit_ne {w : World} {g k : Nat} (h : g < w.heap.size) : some g ≠ (Value.slice (some ⟨w.heap.size, 0, none⟩) 0 k).ownBlock := by
  intro e
  simp [Value.ownBlock] at e
  omega
theorem lit_low {w : World} {b k : Nat} (h : b ≤ w.heap.size) : ∀ j, (Value.slice (some ⟨w.heap.size, 0, none⟩) 0 k).ownBlock = some j → b ≤ j := by
  intro j e
  simp [Value.ownBlock] at e
  omega

theorem trimmed_canon {xs : List Int} {m : Nat} (h : Canon xs) (t : Trimmed xs m) : m = xs.length := by
  obtain ⟨hc, hv⟩ := t.canon h.1
  have e := canon_unique hc h hv
  have : (xs.take m).length = m := by have := t.1; simp; omega
  rw [← this, e]
theorem made_same {q r : List Int} (h : Ok q) (hm : ∃ l, Canon l ∧ val l = val q ∧ r = cap l) : q = r := by
  obtain ⟨l, hc, hv, hr⟩ := hm
  obtain rfl := canon_unique hc h.1 hv
  rw [hr, (hc.ok h.2).2]
theorem lowN_mk {neg : Bool} {xs ys q p : List Int} {G : Int} (hy : 0 < val ys) (hG : G = (Int.gcd (val xs) (val ys) : Int)) (hq : Ok q) (hp : Ok p) (ex : val xs = val q * G) (ey : val ys = val p * G) : RLow (bval neg xs) (val ys) (sgn neg q) q p := by
  have h0 : 0 < G := by rw [hG]; exact gcd_pos_of hy
  have hp0 := val_nonneg hp.1.1
  have hpp : 0 < val p := by
    rcases Int.lt_or_le 0 (val p) with h | h
    · exact h
    · have : val p = 0 := by omega
      rw [this] at ey; omega
  refine ⟨by omega, sgn_bok _ hq, hp, hpp, gcd_reduced hG h0 ex ey, ?_⟩
  rw [sgn_bval _ hq.1]
  have e : val q * val ys = val xs * val p := by rw [ex, ey, Int.mul_assoc, Int.mul_comm G]
  cases neg <;> simp [bval, Int.neg_mul, e]
theorem lowN_one {neg : Bool} {xs ys : List Int} (hx : Ok xs) (hk : Ok ys) (hy : 0 < val ys) (h : Int.gcd (val xs) (val ys) = 1) : RLow (bval neg xs) (val ys) (sgn neg xs) xs ys :=
  lowN_mk hy (G := 1) (by rw [h]; rfl) hx hk (by omega) (by omega)
theorem lowN_div {neg : Bool} {xs ys G q r p s : List Int} (hy : 0 < val ys) (hG : GcdIs (val xs) (val ys) G) (hq : DivIs (val xs) (val G) q r) (hp : DivIs (val ys) (val G) p s) (lq : q.length ≤ 60) (lp : p.length ≤ 60) :
    RLow (bval neg xs) (val ys) (sgn neg q) q p :=
  lowN_mk hy hG.2 ⟨hq.1, lq⟩ ⟨hp.1, lp⟩ (div_exact hq (by rw [hG.2]; exact Int.gcd_dvd_left _ _)) (div_exact hp (by rw [hG.2]; exact Int.gcd_dvd_right _ _))
theorem gcd_len {a : Int} {ys G : List Int} (hy : 0 < val ys) (h : GcdIs a (val ys) G) (k : Ok ys) : G.length ≤ 60 := by
  refine short_of h.1 ?_
  rw [h.2]
  have h1 : (Int.gcd a (val ys) : Int) ≤ val ys := Int.le_of_dvd hy (Int.gcd_dvd_right _ _)
  have h2 := val_lt k.1.1
  have h3 := pw_mono k.2
  omega
theorem gcd_of_one {a : Int} {ys : List Int} (h : ys = [1]) : Int.gcd a (val ys) = 1 := by subst h; simp [val]
end Go.Proofs.Ytdehcddjkcpnfaa
namespace Go.Proofs.Ytdehcddjkcpnfaa
open Go.RowKit

theorem make_of_low {g1 g2 : Bool} {xs ys : List Int} {g : Bool} {l d : List Int} (k1 : BOk g1 xs) (k2 : BOk g2 ys) (h : RIs True (bval (g1 != g2) xs) (val ys) g l d) : RatMakeIs g1 xs g2 ys g l d := by
  by_cases hz : val ys = 0
  · rcases h with ⟨_, ⟨hD, _⟩, _⟩ | ⟨_, rfl, rfl, rfl⟩
    · exact absurd hz hD
    · exact rIs_zero (by cases g2 <;> simp [bval, hz])
  · refine rIs_prop (rIs_eq h hz (by cases g2 <;> simp [bval, hz]) ?_) trivial ⟨k1, k2⟩
    cases g1 <;> cases g2 <;> simp [bval, Int.neg_mul, Int.mul_neg]
end Go.Proofs.Ytdehcddjkcpnfaa
namespace Go.Proofs.Ytdehcddjkcpnfaa
open Go.RowKit

section
variable {g : Bool} {l d : List Int}
theorem ROk.nr (h : ROk g l d) : InR l := h.1.1.1.1
theorem ROk.dr (h : ROk g l d) : InR d := h.2.1.1.1
theorem ROk.nb (h : ROk g l d) : 0 ≤ val l ∧ val l < pw 24 := h.bd.1
theorem ROk.db (h : ROk g l d) : 0 ≤ val d ∧ val d < pw 24 := ⟨Int.le_of_lt h.bd.2.1, h.bd.2.2⟩
/-- A valid fraction or the zero value. -/
def GRat (g : Bool) (l d : List Int) : Prop := ROk g l d ∨ (g = false ∧ l = [] ∧ d = [])
theorem GRat.bok (h : GRat g l d) : BOk g l := by
  rcases h with h | ⟨rfl, rfl, rfl⟩
  · exact h.1
  · exact ⟨⟨⟨fun z hz => (by cases hz), (by decide)⟩, (by decide)⟩, fun e => by cases e⟩
theorem GRat.dok (h : GRat g l d) : Ok d := by
  rcases h with h | ⟨rfl, rfl, rfl⟩
  · exact h.2.1
  · exact ⟨⟨fun z hz => (by cases hz), (by decide)⟩, (by decide)⟩
theorem GRat.short (h : GRat g l d) : Short l d := by
  rcases h with h | ⟨rfl, rfl, rfl⟩
  · exact h.2.2.2.2
  · exact ⟨by decide, by decide⟩
theorem GRat.nr (h : GRat g l d) : InR l := h.bok.1.1.1
theorem GRat.dr (h : GRat g l d) : InR d := h.dok.1.1
theorem GRat.nb (h : GRat g l d) : 0 ≤ val l ∧ val l < pw 24 := by
  rcases h with h | ⟨rfl, rfl, rfl⟩
  · exact h.nb
  · exact ⟨by simp [val], by simp only [val]; exact pw_pos 24⟩
theorem GRat.db (h : GRat g l d) : 0 ≤ val d ∧ val d < pw 24 := by
  rcases h with h | ⟨rfl, rfl, rfl⟩
  · exact h.db
  · exact ⟨by simp [val], by simp only [val]; exact pw_pos 24⟩
theorem GRat.nbd (h : GRat g l d) : -pw 24 < bval g l ∧ bval g l < pw 24 := bval_bd h.nb.1 h.nb.2
end
theorem GRat.two {g1 g2 : Bool} {l1 d1 l2 d2 : List Int} (k1 : GRat g1 l1 d1) (k2 : GRat g2 l2 d2) : (ROk g1 l1 d1 ∧ ROk g2 l2 d2) ∨ val d1 * val d2 = 0 := by
  rcases k1 with k1 | ⟨rfl, rfl, rfl⟩
  · rcases k2 with k2 | ⟨rfl, rfl, rfl⟩
    · exact .inl ⟨k1, k2⟩
    · exact .inr (by simp [val])
  · exact .inr (by simp [val])
theorem gr_fin {P : Prop} {N D : Int} {g : Bool} {l d : List Int} (h : RIs True N D g l d) (hp : P ∨ D = 0) : RIs P N D g l d := by
  rcases hp with hp | hD
  · exact rIs_prop h trivial hp
  · rcases h with ⟨_, ⟨h0, _⟩, _⟩ | ⟨_, z⟩
    · exact absurd hD h0
    · exact .inr ⟨fun ⟨_, _, _, _, k, _⟩ => k.1 hD, z⟩
theorem prod_ok {a b : Int} {l : List Int} (hc : Canon l) (hv : val l = a * b) (ha : 0 ≤ a ∧ a < pw 24) (hb : 0 ≤ b ∧ b < pw 24) : Ok l ∧ val l = a * b := by
  have p24 := pw_pos 24
  obtain ⟨m0, m1⟩ := mul_bd24 (show -pw 24 < a by omega) ha.2 (show -pw 24 < b by omega) hb.2
  have hl : l.length ≤ 48 := short_of hc (by rw [hv]; exact m1)
  exact ⟨⟨hc, by omega⟩, hv⟩
theorem low_mul_fin {g1 g2 t : Bool} {xs es ys fs la lb : List Int} {g : Bool} {l d : List Int} (k1 : GRat g1 xs es) (k2 : GRat g2 ys fs) (ht : (g1 != g2) = !t) (ha : Ok la ∧ val la = val xs * val ys) (hb : Ok lb ∧ val lb = val es * val fs) (h : RIs True (bval (!t) la) (val lb) g l d) : RatMulIs g1 xs es g2 ys fs g l d := by
  rw [← ht, hb.2] at h
  have e : bval (g1 != g2) la = bval g1 xs * bval g2 ys := by cases g1 <;> cases g2 <;> simp [bval, ha.2, Int.neg_mul, Int.mul_neg]
  rw [e] at h
  exact gr_fin h (k1.two k2)
theorem low_div_fin {g1 g2 t : Bool} {xs es ys fs la lb : List Int} {g : Bool} {l d : List Int} (k1 : ROk g1 xs es) (k2 : ROk g2 ys fs) (ht : (g1 != g2) = !t) (ha : Ok la ∧ val la = val xs * val fs) (hb : Ok lb ∧ val lb = val es * val ys) (h : RIs True (bval (!t) la) (val lb) g l d) : RatDivIs g1 xs es g2 ys fs g l d := by
  rw [← ht, hb.2] at h
  have e : bval (g1 != g2) la * (bval g2 ys * val es) = bval g1 xs * val fs * (val es * val ys) := by
    have h3 : val xs * val fs * (val ys * val es) = val xs * val fs * (val es * val ys) := by rw [Int.mul_comm (val ys)]
    cases g1 <;> cases g2 <;> simp [bval, ha.2, Int.neg_mul, Int.mul_neg, h3]
  have hd := k1.bd.2.1
  by_cases hz : val ys = 0
  · rw [hz, Int.mul_zero] at h
    rcases h with ⟨_, ⟨hD, _⟩, _⟩ | ⟨_, rfl, rfl, rfl⟩
    · exact absurd rfl hD
    · refine rIs_zero ?_
      have : bval g2 ys = 0 := by cases g2 <;> simp [bval, hz]
      rw [this, Int.zero_mul]
  · have hb2 : bval g2 ys ≠ 0 := by cases g2 <;> simp [bval, hz]
    exact rIs_prop (rIs_eq h (Int.mul_ne_zero (by omega) hz) (Int.mul_ne_zero hb2 (by omega)) e) trivial ⟨k1, k2⟩
end Go.Proofs.Ytdehcddjkcpnfaa
