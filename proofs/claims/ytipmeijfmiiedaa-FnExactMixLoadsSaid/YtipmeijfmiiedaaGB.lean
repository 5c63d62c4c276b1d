/- Contracts of the model's big integers. -/
import Derived.Test.YtipmeijfmiiedaaGA
import Derived.Test.YtipmeijfmiiedaaGN
import Derived.Test.YtipmeijfmiiedaaGJ
import Derived.Lib.SmallJoins
import Derived.Deep.DeepCutAuto
namespace Go.Proofs.Ytipmeijfmiiedaa
set_option maxRecDepth 100000
open Go.RowKit

/-- There is room for what a slice holds. -/
def Room (A : Option Addr) (n c : Nat) : Prop := n ≤ c ∧ (A = none → c = 0)
theorem room_own {w : World} {base : Nat} {E : TypeId} {size n c : Nat} {A : Option Addr} {xs : List Value} (h : w.ownsRow base E size (.slice A n c) n xs) : Room A n c := by
  refine ⟨(own_cap h).1, ?_⟩
  rintro rfl
  rcases h.2 with ⟨hv, _⟩ | ⟨g, cap, cur, hv, _⟩
  · cases hv; rfl
  · cases hv
/-- What a cut list reads as. -/
theorem CapEnd.reads {w : World} {A : Option Addr} {c : Nat} {xs : List Int} {e : Ending} (h : CapEnd xs A c e) (hr : InR xs) (ho : Reads w A (xs.map (.int .i64))) :
    ∃ l m B d, e = .returned (.slice B m d) ∧ Canon l ∧ val l = val xs ∧ (cap l).length = m ∧ m ≤ 60 ∧ Reads w B ((cap l).map (.int .i64)) := by
  obtain ⟨m, ht, h⟩ := h
  obtain ⟨hc, hv⟩ := ht.canon hr
  have hlm : (xs.take m).length = m := by have := ht.1; simp; omega
  rcases h with ⟨hm, rfl⟩ | ⟨hm, rfl⟩
  · have e : cap (xs.take m) = [] := by unfold cap; rw [if_pos (by omega)]
    exact ⟨xs.take m, 0, none, 0, rfl, hc, hv, by rw [e]; rfl, by omega, by rw [e]; exact .inl rfl⟩
  · have e : cap (xs.take m) = xs.take m := by unfold cap; rw [if_neg (by omega)]
    refine ⟨xs.take m, m, A, c, rfl, hc, hv, by rw [e, hlm], hm, ?_⟩
    rw [e]
    rcases ho with h0 | ⟨b, o, rfl, hb, hcs⟩
    · left; rw [List.map_eq_nil_iff] at h0; subst h0; simp
    · refine .inr ⟨b, o, rfl, hb, fun j hj => ?_⟩
      have := hcs j (by simp at hj ⊢; omega)
      rw [this]; simp

/-- A sign and limbs made to a big integer. -/
def MakeEnd (neg : Bool) (t : Int) (w w' : World) (e : Ending) : Prop := ∃ r v, e = .returned (.agg #[.bool (sgn neg r), v]) ∧ (∃ l, Canon l ∧ val l = t ∧ r = cap l) ∧ ResI w w' v r ∧ Below w.heap.size w w'
end Go.Proofs.Ytipmeijfmiiedaa
namespace Go.Proofs.Ytipmeijfmiiedaa
set_option maxRecDepth 100000
open Go.RowKit Go.ChangeShapes Go.WideShapes Go.Deep

theorem InI.len {w : World} {A : Option Addr} {n : Nat} {xs : List Int} (h : InI w A n xs) : xs.length = n := h.1
theorem InI.le {w : World} {A : Option Addr} {n : Nat} {xs : List Int} (h : InI w A n xs) : n ≤ 1048576 := h.2.1
theorem InI.rd {w : World} {A : Option Addr} {n : Nat} {xs : List Int} (h : InI w A n xs) : Reads w A (xs.map (.int .i64)) := h.2.2.1
theorem InI.bd {w : World} {A : Option Addr} {n : Nat} {xs : List Int} (h : InI w A n xs) : ∀ z ∈ xs, -9223372036854775808 ≤ z ∧ z ≤ 9223372036854775807 := h.2.2.2
theorem InI.own {w w1 : World} {A B : Option Addr} {n c base : Nat} {xs : List Int} (h : InI w A n xs) (o : w1.ownsRow base 3 1 (.slice B n c) n (xs.map (.int .i64))) : InI w1 B n xs := ⟨h.1, h.2.1, Reads.of_own o, h.2.2.2⟩
theorem ne_own {w : World} {g base : Nat} {t E : TypeId} {cs : Array Value} {size n : Nat} {v : Value} {xs : List Value} (h : Box w g t cs) (o : w.ownsRow base E size v n xs) (hne : E ≠ t := by decide) : some g ≠ v.ownBlock := by
  rcases o.2 with ⟨rfl, _⟩ | ⟨g', cap, cur, rfl, _, hg, _⟩
  · simp [Value.ownBlock]
  · intro he
    have e : g = g' := by simpa [Value.ownBlock] using he
    subst e
    unfold Box at h
    rw [h] at hg
    injection hg with hg
    injection hg with _ ht
    exact hne ht.symm
theorem own_box {w : World} {g base : Nat} {t E : TypeId} {cs : Array Value} {size n : Nat} {v : Value} {xs : List Value} (o : w.ownsRow base E size v n xs) (h : Box w g t cs) (i : Nat) (u : Value) (hne : E ≠ t := by decide) : (w.setCell ⟨g, i, none⟩ u).ownsRow base E size v n xs := by
  have hk := ne_own h o hne
  refine ⟨o.1, ?_⟩
  rcases o.2 with h | ⟨g', cap, cur, rfl, h2, h3, h4⟩
  · exact .inl h
  · refine .inr ⟨g', cap, cur, rfl, h2, (Below.heap_setCell w _ u g' ?_).trans h3, h4⟩
    intro e
    exact hk (by simp [Value.ownBlock, e])
/-! For the regions that draw: a cell of a box that is known, in whatever form the world has; matched with reducible transparency alone. -/
theorem cellS {w : World} {g i : Nat} {t : TypeId} {cs : Array Value} {v : Value} (h : Hid (Box w g t cs)) (hv : Hid (cs[i]? = some v)) : w.cell? ⟨g, i, none⟩ = some v := (h.out.cell i).trans hv.out
theorem hAlloc {w : World} {g : Nat} {t : TypeId} {cs : Array Value} (h : Hid (Box w g t cs)) (o : Obj) : Hid (Box (w.alloc o) g t cs) := Lib.hid (h.out.alloc o)
theorem hDrew {w : World} {g : Nat} {t : TypeId} {cs : Array Value} (h : Hid (Box w g t cs)) : Hid (Box w.drew g t cs) := Lib.hid h.out.drew
theorem hFar {w : World} {g : Nat} {t : TypeId} {cs : Array Value} (h : Hid (Box w g t cs)) {p : Addr} (hp : g ≠ p.block) (u : Value) : Hid (Box (w.setCell p u) g t cs) := Lib.hid (h.out.far hp u)
theorem own_drew {w : World} {base : Nat} {E : TypeId} {size n : Nat} {v : Value} {xs : List Value} (h : w.ownsRow base E size v n xs) : w.drew.ownsRow base E size v n xs := h
section
variable {P : Program} {H : Type} {enc : TypeId × Value → H} {w : World} {sp : Nat → Bool} {hd : Bool}
theorem ints_cell {t e : TypeId} {v : Value} {fuel : Nat} {x : DataW H × List MemPlace} (ht : P.underlying t = some (.slice e)) (he : P.underlying e = some (.int .i64)) (hc : P.cellsOf e = 1)
    (h : DataW.trod enc P w 0 sp hd fuel t [v] = some x) : ∃ A len cap xs, v = .slice A len cap ∧ IsInts w A len xs := by
  have h' := h
  rcases Go.ChangeShapes.open_ints ht he hc h with ⟨hcs, _⟩ | ⟨a, l, c, ss, hcs, _⟩
  · obtain rfl : v = .slice none 0 0 := by simpa using hcs
    obtain ⟨xs, hx⟩ := isInts_of ht he hc (⟨fuel, by simpa [Value.cells] using h'⟩ : DataW.Trod enc P w 0 sp hd t (Value.slice none 0 0) x.1 x.2)
    exact ⟨_, _, _, xs, rfl, hx⟩
  · obtain rfl : v = .slice (some a) l c := by simpa using hcs
    obtain ⟨xs, hx⟩ := isInts_of ht he hc (⟨fuel, by simpa [Value.cells] using h'⟩ : DataW.Trod enc P w 0 sp hd t (Value.slice (some a) l c) x.1 x.2)
    exact ⟨_, _, _, xs, rfl, hx⟩
theorem open_big {r : Reach} {b0 : Nat} {t e : TypeId} {f0 f1 : Field} {v : Value} {d : DataW H} {p : List MemPlace} (hs : P.underlying t = some (.struct #[f0, f1])) (hone : oneCellFields P #[f0, f1] = true) (hC : P.cellsOf t = 2)
    (hb : P.underlying f0.type = some .bool) (hsl : P.underlying f1.type = some (.slice e)) (he : P.underlying e = some (.int .i64)) (hc : P.cellsOf e = 1)
    (hv : Value.okWide P w r b0 t v) (h : DataW.Trod enc P w 0 sp hd t v d p) : ∃ g A len cap xs, v = .agg #[.bool g, .slice A len cap] ∧ IsInts w A len xs := by
  obtain ⟨v0, v1, y0, y1, n, rfl, _, _, t0, t1⟩ := Joins.open_agg2 hs hone hC hv h
  obtain ⟨b, hb', _⟩ := DataW.trod_bool hb t0
  obtain rfl : v0 = .bool b := by simpa using hb'
  obtain ⟨A, len, cap, xs, rfl, hx⟩ := ints_cell hsl he hc t1
  exact ⟨b, A, len, cap, xs, rfl, hx⟩
end
end Go.Proofs.Ytipmeijfmiiedaa
namespace Go.Proofs.Ytipmeijfmiiedaa
set_option maxRecDepth 100000

theorem ok_cap_of {l r : List Int} (hr : r = cap l) (h : l.length ≤ 60) : r = l := by rw [hr]; unfold cap; rw [if_neg (by omega)]
theorem bval_abs {g : Bool} {l : List Int} (h : BOk g l) : val l = ((bval g l).natAbs : Int) := by
  have := h.nonneg
  cases g <;> simp [bval] <;> omega
theorem bok_unique {g g' : Bool} {l l' : List Int} (h : BOk g l) (h' : BOk g' l') (e : bval g l = bval g' l') : g = g' ∧ l = l' := by
  have hl : l = l' := canon_unique h.1.1 h'.1.1 (by rw [bval_abs h, bval_abs h', e])
  subst hl
  refine ⟨?_, rfl⟩
  cases g <;> cases g'
  · rfl
  · have := h'.pos; simp [bval] at e; omega
  · have := h.pos; simp [bval] at e; omega
  · rfl
/-- N / D in lowest terms, of whatever length. -/
def RLow (N D : Int) (g : Bool) (l d : List Int) : Prop := D ≠ 0 ∧ BOk g l ∧ Ok d ∧ 0 < val d ∧ Int.gcd (val l) (val d) = 1 ∧ bval g l * D = N * val d
def Short (l d : List Int) : Prop := l.length ≤ 24 ∧ d.length ≤ 24
/-- A valid fraction. -/
def ROk (g : Bool) (l d : List Int) : Prop := BOk g l ∧ Ok d ∧ 0 < val d ∧ Int.gcd (val l) (val d) = 1 ∧ Short l d
/-- What an operation gives: N / D where P holds and there is room, else the zero value. -/
def RIs (P : Prop) (N D : Int) (g : Bool) (l d : List Int) : Prop :=
  (P ∧ RLow N D g l d ∧ Short l d) ∨ (¬ (P ∧ ∃ g l d, RLow N D g l d ∧ Short l d) ∧ g = false ∧ l = [] ∧ d = [])
theorem dvd_antisymm_pos {a b : Int} (ha : 0 < a) (hb : 0 < b) (h : a ∣ b) (k : b ∣ a) : a = b := by
  have h1 := Int.le_of_dvd hb h
  have h2 := Int.le_of_dvd ha k
  omega
theorem gcd_bval {g : Bool} {l d : List Int} : Int.gcd (bval g l) (val d) = Int.gcd (val l) (val d) := by
  cases g <;> simp [bval]
theorem cross_dvd {n d n' d' : Int} (h : Int.gcd n d = 1) (e : n * d' = n' * d) : d ∣ d' := by
  have h1 : d ∣ n * d' := ⟨n', by rw [e, Int.mul_comm]⟩
  have h2 : d.natAbs ∣ n.natAbs * d'.natAbs := by rw [← Int.natAbs_mul]; exact Int.natAbs_dvd_natAbs.2 h1
  have h3 : Nat.Coprime d.natAbs n.natAbs := by unfold Nat.Coprime; rw [Nat.gcd_comm]; exact h
  exact Int.natAbs_dvd_natAbs.1 (h3.dvd_of_dvd_mul_left h2)
theorem rlow_unique {N D : Int} {g g' : Bool} {l l' d d' : List Int} (h : RLow N D g l d) (h' : RLow N D g' l' d') : g = g' ∧ l = l' ∧ d = d' := by
  obtain ⟨hD, h1, h2, h3, h4, h5⟩ := h
  obtain ⟨_, k1, k2, k3, k4, k5⟩ := h'
  have e : bval g l * val d' = bval g' l' * val d := by
    refine Int.eq_of_mul_eq_mul_right hD ?_
    have e1 : bval g l * val d' * D = bval g l * D * val d' := by rw [Int.mul_assoc, Int.mul_comm (val d'), ← Int.mul_assoc]
    have e2 : bval g' l' * val d * D = bval g' l' * D * val d := by rw [Int.mul_assoc, Int.mul_comm (val d), ← Int.mul_assoc]
    rw [e1, e2, h5, k5, Int.mul_assoc, Int.mul_assoc, Int.mul_comm (val d)]
  have hd : val d = val d' := dvd_antisymm_pos h3 k3 (cross_dvd (by rw [gcd_bval]; exact h4) e) (cross_dvd (by rw [gcd_bval]; exact k4) e.symm)
  have hdd := canon_unique h2.1 k2.1 hd
  subst hdd
  have hb := Int.eq_of_mul_eq_mul_right (by omega) e
  obtain ⟨rfl, rfl⟩ := bok_unique h1 k1 hb
  exact ⟨rfl, rfl, rfl⟩
theorem rIs_unique {P : Prop} {N D : Int} {g g' : Bool} {l l' d d' : List Int} (h : RIs P N D g l d) (h' : RIs P N D g' l' d') : g = g' ∧ l = l' ∧ d = d' := by
  rcases h with ⟨hp, h, hs⟩ | ⟨hn, rfl, rfl, rfl⟩ <;> rcases h' with ⟨hp', h', hs'⟩ | ⟨hn', rfl, rfl, rfl⟩
  · exact rlow_unique h h'
  · exact absurd ⟨hp, _, _, _, h, hs⟩ hn'
  · exact absurd ⟨hp', _, _, _, h', hs'⟩ hn
  · exact ⟨rfl, rfl, rfl⟩
theorem rIs_yes {P : Prop} {N D : Int} {g : Bool} {l d : List Int} (hp : P) (h : RLow N D g l d) (hs : Short l d) : RIs P N D g l d := .inl ⟨hp, h, hs⟩
theorem rIs_long {P : Prop} {N D : Int} {g : Bool} {l d : List Int} (h : RLow N D g l d) (hs : ¬ Short l d) : RIs P N D false [] [] :=
  .inr ⟨fun ⟨_, _, _, _, h', hs'⟩ => by obtain ⟨_, rfl, rfl⟩ := rlow_unique h h'; exact hs hs', rfl, rfl, rfl⟩
theorem rIs_no {P : Prop} {N D : Int} (h : ¬ P) : RIs P N D false [] [] := .inr ⟨fun k => h k.1, rfl, rfl, rfl⟩
theorem rIs_zero {P : Prop} {N D : Int} (h : D = 0) : RIs P N D false [] [] := .inr ⟨fun ⟨_, _, _, _, k, _⟩ => k.1 h, rfl, rfl, rfl⟩
theorem rIs_prop {P Q : Prop} {N D : Int} {g : Bool} {l d : List Int} (h : RIs P N D g l d) (hp : P) (hq : Q) : RIs Q N D g l d := by
  rcases h with ⟨_, h⟩ | ⟨hn, h⟩
  · exact .inl ⟨hq, h⟩
  · exact .inr ⟨fun k => hn ⟨hp, k.2⟩, h⟩
theorem rlow_eq {N D N' D' : Int} {g : Bool} {l d : List Int} (h : RLow N D g l d) (hD : D' ≠ 0) (e : N * D' = N' * D) : RLow N' D' g l d := by
  obtain ⟨h0, h1, h2, h3, h4, h5⟩ := h
  refine ⟨hD, h1, h2, h3, h4, ?_⟩
  refine Int.eq_of_mul_eq_mul_right h0 ?_
  have e1 : bval g l * D' * D = bval g l * D * D' := by rw [Int.mul_assoc, Int.mul_comm D', ← Int.mul_assoc]
  have e2 : N' * val d * D = N' * D * val d := by rw [Int.mul_assoc, Int.mul_comm (val d), ← Int.mul_assoc]
  rw [e1, h5, e2, ← e, Int.mul_assoc, Int.mul_comm (val d), ← Int.mul_assoc]
/-- The same fraction, told by another numerator and denominator. -/
theorem rIs_eq {P : Prop} {N D N' D' : Int} {g : Bool} {l d : List Int} (h : RIs P N D g l d) (hD : D ≠ 0) (hD' : D' ≠ 0) (e : N * D' = N' * D) : RIs P N' D' g l d := by
  rcases h with ⟨hp, h, hs⟩ | ⟨hn, h⟩
  · exact .inl ⟨hp, rlow_eq h hD' e, hs⟩
  · exact .inr ⟨fun ⟨hp, g, l, d, k, hs⟩ => hn ⟨hp, g, l, d, rlow_eq k hD e.symm, hs⟩, h⟩
theorem ROk.low {g : Bool} {l d : List Int} (h : ROk g l d) : RLow (bval g l) (val d) g l d := ⟨by have := h.2.2.1; omega, h.1, h.2.1, h.2.2.1, h.2.2.2.1, rfl⟩
theorem RLow.ok {N D : Int} {g : Bool} {l d : List Int} (h : RLow N D g l d) (hs : Short l d) : ROk g l d := ⟨h.2.1, h.2.2.1, h.2.2.2.1, h.2.2.2.2.1, hs⟩
theorem RIs.ok {P : Prop} {N D : Int} {g : Bool} {l d : List Int} (h : RIs P N D g l d) (hd : d ≠ []) : ROk g l d := by
  rcases h with ⟨_, h, hs⟩ | ⟨_, _, _, e⟩
  · exact h.ok hs
  · exact absurd e hd
theorem ROk.bd {g : Bool} {l d : List Int} (h : ROk g l d) : (0 ≤ val l ∧ val l < pw 24) ∧ 0 < val d ∧ val d < pw 24 := by
  have h1 := val_lt h.1.1.1.1
  have h2 := val_lt h.2.1.1.1
  have h3 := pw_mono h.2.2.2.2.1
  have h4 := pw_mono h.2.2.2.2.2
  exact ⟨⟨h.1.nonneg, by omega⟩, h.2.2.1, by omega⟩

/-- One limb, 1. -/
theorem one_canon : Canon [1] := ⟨InR.one (by omega) (by omega), by simp⟩
theorem one_of {l : List Int} (h : Canon l) (hv : val l = 1) : l = [1] := canon_unique h one_canon (by rw [hv]; rfl)
theorem gcd_one {a b : Int} {r : List Int} (h : GcdIs a b r) : r = [1] ↔ Int.gcd a b = 1 := by
  constructor
  · intro e; have := h.2; rw [e] at this; simp [val] at this; omega
  · intro e; exact one_of h.1 (by rw [h.2, e]; rfl)
theorem gcd_pos_of {a b : Int} (hb : 0 < b) : 0 < (Int.gcd a b : Int) := by
  have : 0 < Int.gcd a b := Int.gcd_pos_of_ne_zero_right a (by omega)
  omega
theorem div_exact {a G : Int} {q r : List Int} (h : DivIs a G q r) (hd : G ∣ a) : a = val q * G := by
  obtain ⟨hq, hr, e, hlt⟩ := h
  have h0 := val_nonneg hr.1
  have h1 : G ∣ val r := by
    have h2 : G ∣ val q * G := ⟨val q, Int.mul_comm _ _⟩
    have h3 : val r = a - val q * G := by omega
    rw [h3]; exact Int.dvd_sub hd h2
  have h4 : val r = 0 := by
    rcases Int.lt_or_le 0 (val r) with h5 | h5
    · have := Int.le_of_dvd h5 h1; omega
    · omega
  omega
theorem gcd_reduced {a b G x y : Int} (hG : G = (Int.gcd a b : Int)) (h0 : 0 < G) (ha : a = x * G) (hb : b = y * G) : Int.gcd x y = 1 := by
  have h1 : Int.gcd (x * G) (y * G) = Int.gcd x y * G.natAbs := Int.gcd_mul_right _ _ _
  rw [← ha, ← hb] at h1
  have h2 : G.natAbs = Int.gcd a b := by omega
  rw [h2] at h1
  have h3 : 0 < Int.gcd a b := by omega
  exact Nat.eq_of_mul_eq_mul_right h3 (by rw [← h1, Nat.one_mul])
theorem sgn_bval (b : Bool) {l : List Int} (h : Canon l) : bval (sgn b l) l = if b = true then - val l else val l := by
  cases b
  · simp [sgn, bval]
  · by_cases e : l = []
    · subst e; simp [sgn, bval, val]
    · simp [sgn, bval, e]
theorem sgn_bok (b : Bool) {l : List Int} (h : Ok l) : BOk (sgn b l) l := ⟨h, fun e => by unfold sgn at e; simp at e; exact e.2⟩
/-- Numerator and denominator over their greatest common divisor. -/
theorem low_mk {g1 g2 : Bool} {xs ys q p : List Int} {G : Int} (k1 : BOk g1 xs) (k2 : BOk g2 ys) (hy : 0 < val ys) (hG : G = (Int.gcd (val xs) (val ys) : Int)) (hq : Ok q) (hp : Ok p) (ex : val xs = val q * G) (ey : val ys = val p * G) :
    RLow (bval g1 xs) (bval g2 ys) (sgn (g1 != g2) q) q p := by
  have h0 : 0 < G := by rw [hG]; exact gcd_pos_of hy
  have hp0 := val_nonneg hp.1.1
  have hpp : 0 < val p := by
    rcases Int.lt_or_le 0 (val p) with h | h
    · exact h
    · have : val p = 0 := by omega
      rw [this] at ey; omega
  have hD : bval g2 ys ≠ 0 := by cases g2 <;> simp [bval] <;> omega
  refine ⟨hD, sgn_bok _ hq, hp, hpp, gcd_reduced hG h0 ex ey, ?_⟩
  rw [sgn_bval _ hq.1]
  have e : val q * val ys = val xs * val p := by rw [ex, ey, Int.mul_assoc, Int.mul_comm G]
  cases g1 <;> cases g2 <;> simp [bval, Int.neg_mul, Int.mul_neg, e]
/-- Nothing to divide by. -/
theorem low_mk1 {g1 g2 : Bool} {xs ys : List Int} (k1 : BOk g1 xs) (k2 : BOk g2 ys) (hy : 0 < val ys) (h : Int.gcd (val xs) (val ys) = 1) : RLow (bval g1 xs) (bval g2 ys) (sgn (g1 != g2) xs) xs ys :=
  low_mk k1 k2 hy (G := 1) (by rw [h]; rfl) k1.1 k2.1 (by omega) (by omega)
/-- The parts over their greatest common divisor, as a division gives them. -/
theorem low_div {g1 g2 : Bool} {xs ys G q r p s : List Int} (k1 : BOk g1 xs) (k2 : BOk g2 ys) (hy : 0 < val ys) (hG : GcdIs (val xs) (val ys) G) (hq : DivIs (val xs) (val G) q r) (hp : DivIs (val ys) (val G) p s) (lq : q.length ≤ 60) (lp : p.length ≤ 60) :
    RLow (bval g1 xs) (bval g2 ys) (sgn (g1 != g2) q) q p :=
  low_mk k1 k2 hy hG.2 ⟨hq.1, lq⟩ ⟨hp.1, lp⟩ (div_exact hq (by rw [hG.2]; exact Int.gcd_dvd_left _ _)) (div_exact hp (by rw [hG.2]; exact Int.gcd_dvd_right _ _))
theorem gcd_pos_list {a b : Int} {G : List Int} (hb : 0 < b) (h : GcdIs a b G) : 0 < val G := by rw [h.2]; exact gcd_pos_of hb

theorem bRep_small {t : Int} {g : Bool} {r : List Int} (h : BRep t g r) (h0 : -pw 60 < t) (h1 : t < pw 60) : BOk g r ∧ bval g r = t := by
  obtain ⟨l, hc, hv, hr, hg⟩ := id h
  have hl : l.length ≤ 60 := short_of hc (by rw [hv]; omega)
  exact bRep_ok h ⟨hc, hl⟩ hv
theorem bval_bd {g : Bool} {l : List Int} {B : Int} (h0 : 0 ≤ val l) (h : val l < B) : -B < bval g l ∧ bval g l < B := by
  cases g <;> simp [bval] <;> omega
theorem mul_bd {a b : Int} {j k : Nat} (a0 : -pw j < a) (a1 : a < pw j) (b0 : -pw k < b) (b1 : b < pw k) : -pw (j + k) < a * b ∧ a * b < pw (j + k) := by
  rw [pw_add]
  have hj := pw_pos j
  have hk := pw_pos k
  have h : (a * b).natAbs < (pw j * pw k).natAbs := by
    rw [Int.natAbs_mul, Int.natAbs_mul]
    exact Nat.mul_lt_mul'' (by omega) (by omega)
  have h2 := Int.mul_pos hj hk
  omega
theorem mul_bd24 {a b : Int} (a0 : -pw 24 < a) (a1 : a < pw 24) (b0 : -pw 24 < b) (b1 : b < pw 24) : -pw 48 < a * b ∧ a * b < pw 48 := mul_bd (j := 24) (k := 24) a0 a1 b0 b1
theorem ROk.nbd {g : Bool} {l d : List Int} (h : ROk g l d) : -pw 24 < bval g l ∧ bval g l < pw 24 := bval_bd h.bd.1.1 h.bd.1.2
theorem pw_le_60 {k : Nat} (h : k ≤ 60) : pw k ≤ pw 60 := pw_mono h
/-- Numerators over the product of both denominators. -/
def CrossIs (N : Int) (g : Bool) (r : List Int) : Prop := BOk g r ∧ bval g r = N ∧ -pw 48 < N ∧ N < pw 48
theorem cross_mk {g1 g2 h : Bool} {l1 d1 l2 d2 r : List Int} (k1 : ROk g1 l1 d1) (k2 : ROk g2 l2 d2) (q : BigIntMulIs g1 l1 false d2 h r) : CrossIs (bval g1 l1 * val d2) h r := by
  have hb := k1.nbd
  have hd := k2.bd.2
  obtain ⟨m0, m1⟩ := mul_bd24 hb.1 hb.2 (show -pw 24 < val d2 by have := pw_pos 24; omega) hd.2
  rcases q with ⟨_, q⟩ | ⟨q, _⟩
  · have e : bval false d2 = val d2 := rfl
    rw [e] at q
    have h60 := pw_le_60 (show 48 ≤ 60 by omega)
    obtain ⟨a, b⟩ := bRep_small q (by omega) (by omega)
    exact ⟨a, b, m0, m1⟩
  · exact absurd ⟨k1.1, k2.2.1, fun e => by cases e⟩ q
theorem nums_mk {g1 g2 h : Bool} {l1 d1 l2 d2 r : List Int} (k1 : ROk g1 l1 d1) (k2 : ROk g2 l2 d2) (q : BigIntMulIs g1 l1 g2 l2 h r) : CrossIs (bval g1 l1 * bval g2 l2) h r := by
  have hb := k1.nbd
  have hd := k2.nbd
  obtain ⟨m0, m1⟩ := mul_bd24 hb.1 hb.2 hd.1 hd.2
  rcases q with ⟨_, q⟩ | ⟨q, _⟩
  · have h60 := pw_le_60 (show 48 ≤ 60 by omega)
    obtain ⟨a, b⟩ := bRep_small q (by omega) (by omega)
    exact ⟨a, b, m0, m1⟩
  · exact absurd ⟨k1.1, k2.1⟩ q
theorem dens_mk {g1 g2 : Bool} {l1 d1 l2 d2 r : List Int} (k1 : ROk g1 l1 d1) (k2 : ROk g2 l2 d2) (q : NatMulIs d1 d2 r) : Ok r ∧ val r = val d1 * val d2 ∧ 0 < val r := by
  have b1 := k1.bd.2
  have b2 := k2.bd.2
  have hp := Int.mul_pos b1.1 b2.1
  have p24 := pw_pos 24
  obtain ⟨m0, m1⟩ := mul_bd24 (show -pw 24 < val d1 by omega) b1.2 (show -pw 24 < val d2 by omega) b2.2
  obtain ⟨l, hc, hv, hr⟩ := bin_cap q ⟨k1.2.1, k2.2.1⟩
  have hl : l.length ≤ 48 := short_of hc (by rw [hv]; exact m1)
  have e := ok_cap_of hr (by omega)
  subst e
  exact ⟨⟨hc, by omega⟩, hv, by rw [hv]; exact hp⟩
theorem pw_double : pw 48 + pw 48 ≤ pw 60 := by decide
theorem sum_mk {N M : Int} {g1 g2 h : Bool} {a b r : List Int} (k1 : CrossIs N g1 a) (k2 : CrossIs M g2 b) (q : BigIntAddIs g1 a g2 b h r) : BOk h r ∧ bval h r = N + M := by
  have h2 := pw_double
  obtain ⟨a1, a2, a3, a4⟩ := k1
  obtain ⟨b1, b2, b3, b4⟩ := k2
  rcases q with ⟨_, q⟩ | ⟨q, _⟩
  · rw [a2, b2] at q
    exact bRep_small q (by omega) (by omega)
  · exact absurd ⟨a1, b1⟩ q
theorem diff_mk {N M : Int} {g1 g2 h : Bool} {a b r : List Int} (k1 : CrossIs N g1 a) (k2 : CrossIs M g2 b) (q : BigIntSubIs g1 a g2 b h r) : BOk h r ∧ bval h r = N - M := by
  have h2 := pw_double
  obtain ⟨a1, a2, a3, a4⟩ := k1
  obtain ⟨b1, b2, b3, b4⟩ := k2
  rcases q with ⟨_, q⟩ | ⟨q, _⟩
  · rw [a2, b2] at q
    exact bRep_small q (by omega) (by omega)
  · exact absurd ⟨a1, b1⟩ q

/-! What each function gives. -/
def RatOkIs (g : Bool) (l d : List Int) (b : Bool) : Prop := b = true ↔ ROk g l d
theorem ratOk_unique {g : Bool} {l d : List Int} {b b' : Bool} (h : RatOkIs g l d b) (h' : RatOkIs g l d b') : b = b' := by
  unfold RatOkIs at h h'
  rw [Bool.eq_iff_iff, h, h']
section
variable {g1 g2 : Bool} {l1 d1 l2 d2 : List Int} {g g' : Bool} {l d l' d' : List Int}
def RatMakeIs (g1 : Bool) (xs : List Int) (g2 : Bool) (ys : List Int) (g : Bool) (l d : List Int) : Prop := RIs (BOk g1 xs ∧ BOk g2 ys) (bval g1 xs) (bval g2 ys) g l d
theorem ratMake_unique (h : RatMakeIs g1 l1 g2 l2 g l d) (h' : RatMakeIs g1 l1 g2 l2 g' l' d') : g = g' ∧ l = l' ∧ d = d' := rIs_unique h h'
def RatOfIs (n m : Int) (g : Bool) (l d : List Int) : Prop := RIs True n m g l d
theorem ratOf_unique {n m : Int} (h : RatOfIs n m g l d) (h' : RatOfIs n m g' l' d') : g = g' ∧ l = l' ∧ d = d' := rIs_unique h h'
def RatFromIntIs (n : Int) (g : Bool) (l d : List Int) : Prop := RIs True n 1 g l d
theorem ratFromInt_unique {n : Int} (h : RatFromIntIs n g l d) (h' : RatFromIntIs n g' l' d') : g = g' ∧ l = l' ∧ d = d' := rIs_unique h h'
def RatAddIs (g1 : Bool) (l1 d1 : List Int) (g2 : Bool) (l2 d2 : List Int) (g : Bool) (l d : List Int) : Prop := RIs (ROk g1 l1 d1 ∧ ROk g2 l2 d2) (bval g1 l1 * val d2 + bval g2 l2 * val d1) (val d1 * val d2) g l d
def RatSubIs (g1 : Bool) (l1 d1 : List Int) (g2 : Bool) (l2 d2 : List Int) (g : Bool) (l d : List Int) : Prop := RIs (ROk g1 l1 d1 ∧ ROk g2 l2 d2) (bval g1 l1 * val d2 - bval g2 l2 * val d1) (val d1 * val d2) g l d
def RatMulIs (g1 : Bool) (l1 d1 : List Int) (g2 : Bool) (l2 d2 : List Int) (g : Bool) (l d : List Int) : Prop := RIs (ROk g1 l1 d1 ∧ ROk g2 l2 d2) (bval g1 l1 * bval g2 l2) (val d1 * val d2) g l d
def RatDivIs (g1 : Bool) (l1 d1 : List Int) (g2 : Bool) (l2 d2 : List Int) (g : Bool) (l d : List Int) : Prop := RIs (ROk g1 l1 d1 ∧ ROk g2 l2 d2) (bval g1 l1 * val d2) (bval g2 l2 * val d1) g l d
theorem ratAdd_unique (h : RatAddIs g1 l1 d1 g2 l2 d2 g l d) (h' : RatAddIs g1 l1 d1 g2 l2 d2 g' l' d') : g = g' ∧ l = l' ∧ d = d' := rIs_unique h h'
theorem ratSub_unique (h : RatSubIs g1 l1 d1 g2 l2 d2 g l d) (h' : RatSubIs g1 l1 d1 g2 l2 d2 g' l' d') : g = g' ∧ l = l' ∧ d = d' := rIs_unique h h'
theorem ratMul_unique (h : RatMulIs g1 l1 d1 g2 l2 d2 g l d) (h' : RatMulIs g1 l1 d1 g2 l2 d2 g' l' d') : g = g' ∧ l = l' ∧ d = d' := rIs_unique h h'
theorem ratDiv_unique (h : RatDivIs g1 l1 d1 g2 l2 d2 g l d) (h' : RatDivIs g1 l1 d1 g2 l2 d2 g' l' d') : g = g' ∧ l = l' ∧ d = d' := rIs_unique h h'
def RatNegIs (g1 : Bool) (l1 d1 : List Int) (g : Bool) (l d : List Int) : Prop := RIs (ROk g1 l1 d1) (- bval g1 l1) (val d1) g l d
theorem ratNeg_unique (h : RatNegIs g1 l1 d1 g l d) (h' : RatNegIs g1 l1 d1 g' l' d') : g = g' ∧ l = l' ∧ d = d' := rIs_unique h h'
/-- One of two, told by C; the zero value where one of them is not valid. -/
def PickIs (P C : Prop) (g1 : Bool) (l1 d1 : List Int) (g2 : Bool) (l2 d2 : List Int) (g : Bool) (l d : List Int) : Prop :=
  (P ∧ C ∧ g = g1 ∧ l = l1 ∧ d = d1) ∨ (P ∧ ¬ C ∧ g = g2 ∧ l = l2 ∧ d = d2) ∨ (¬ P ∧ g = false ∧ l = [] ∧ d = [])
theorem pick_unique {P C : Prop} (h : PickIs P C g1 l1 d1 g2 l2 d2 g l d) (h' : PickIs P C g1 l1 d1 g2 l2 d2 g' l' d') : g = g' ∧ l = l' ∧ d = d' := by
  rcases h with ⟨p, c, rfl, rfl, rfl⟩ | ⟨p, c, rfl, rfl, rfl⟩ | ⟨p, rfl, rfl, rfl⟩ <;> rcases h' with ⟨p', c', rfl, rfl, rfl⟩ | ⟨p', c', rfl, rfl, rfl⟩ | ⟨p', rfl, rfl, rfl⟩
  all_goals first
    | exact ⟨rfl, rfl, rfl⟩
    | exact absurd c c'
    | exact absurd c' c
    | exact absurd p p'
    | exact absurd p' p
def RatMinIs (g1 : Bool) (l1 d1 : List Int) (g2 : Bool) (l2 d2 : List Int) (g : Bool) (l d : List Int) : Prop := PickIs (ROk g1 l1 d1 ∧ ROk g2 l2 d2) (bval g1 l1 * val d2 ≤ bval g2 l2 * val d1) g1 l1 d1 g2 l2 d2 g l d
def RatMaxIs (g1 : Bool) (l1 d1 : List Int) (g2 : Bool) (l2 d2 : List Int) (g : Bool) (l d : List Int) : Prop := PickIs (ROk g1 l1 d1 ∧ ROk g2 l2 d2) (bval g2 l2 * val d1 ≤ bval g1 l1 * val d2) g1 l1 d1 g2 l2 d2 g l d
theorem ratMin_unique (h : RatMinIs g1 l1 d1 g2 l2 d2 g l d) (h' : RatMinIs g1 l1 d1 g2 l2 d2 g' l' d') : g = g' ∧ l = l' ∧ d = d' := pick_unique h h'
theorem ratMax_unique (h : RatMaxIs g1 l1 d1 g2 l2 d2 g l d) (h' : RatMaxIs g1 l1 d1 g2 l2 d2 g' l' d') : g = g' ∧ l = l' ∧ d = d' := pick_unique h h'
end
def RatCmpIs (g1 : Bool) (l1 d1 : List Int) (g2 : Bool) (l2 d2 : List Int) (r : Int) : Prop :=
  ((ROk g1 l1 d1 ∧ ROk g2 l2 d2) ∧ r = cmpV (bval g1 l1 * val d2) (bval g2 l2 * val d1)) ∨ (¬ (ROk g1 l1 d1 ∧ ROk g2 l2 d2) ∧ r = 0)
theorem ratCmp_unique {g1 g2 : Bool} {l1 d1 l2 d2 : List Int} {r r' : Int} (k : RatCmpIs g1 l1 d1 g2 l2 d2 r) (k' : RatCmpIs g1 l1 d1 g2 l2 d2 r') : r = r' := by
  rcases k with ⟨hp, rfl⟩ | ⟨hp, rfl⟩ <;> rcases k' with ⟨hp', rfl⟩ | ⟨hp', rfl⟩
  · rfl
  · exact absurd hp hp'
  · exact absurd hp' hp
  · rfl
def RatSignIs (g : Bool) (l d : List Int) (r : Int) : Prop := (ROk g l d ∧ r = sg g l.length) ∨ (¬ ROk g l d ∧ r = 0)
theorem ratSign_unique {g : Bool} {l d : List Int} {r r' : Int} (k : RatSignIs g l d r) (k' : RatSignIs g l d r') : r = r' := by
  rcases k with ⟨hp, rfl⟩ | ⟨hp, rfl⟩ <;> rcases k' with ⟨hp', rfl⟩ | ⟨hp', rfl⟩
  · rfl
  · exact absurd hp hp'
  · exact absurd hp' hp
  · rfl
def RatEqualIs (g1 : Bool) (l1 d1 : List Int) (g2 : Bool) (l2 d2 : List Int) (b : Bool) : Prop := b = true ↔ g1 = g2 ∧ l1 = l2 ∧ d1 = d2
theorem ratEqual_unique {g1 g2 : Bool} {l1 d1 l2 d2 : List Int} {b b' : Bool} (h : RatEqualIs g1 l1 d1 g2 l2 d2 b) (h' : RatEqualIs g1 l1 d1 g2 l2 d2 b') : b = b' := by
  unfold RatEqualIs at h h'
  rw [Bool.eq_iff_iff, h, h']
/-- The negative of a valid fraction. -/
theorem rneg_mk {g : Bool} {l d : List Int} (h : ROk g l d) : RatNegIs g l d (sgn (!g) l) l d := by
  refine .inl ⟨h, ⟨by have := h.2.2.1; omega, sgn_bok _ h.1.1, h.2.1, h.2.2.1, h.2.2.2.1, ?_⟩, h.2.2.2.2⟩
  rw [sgn_bval _ h.1.1.1]
  cases g <;> simp [bval]
theorem rfrom_mk {n : Int} {g : Bool} {r : List Int} (h : BigIntOfIs n g r) (h0 : -9223372036854775808 ≤ n) (h1 : n ≤ 9223372036854775807) : RatFromIntIs n g r [1] := by
  have hp : pw 60 > 9223372036854775808 := by decide
  have hp3 : pw 3 > 9223372036854775808 := by decide
  obtain ⟨a, b⟩ := bRep_small h (by omega) (by omega)
  have hl : r.length ≤ 3 := short_of a.1.1 (by rw [bval_abs a, b]; omega)
  exact .inl ⟨trivial, ⟨by omega, a, ⟨one_canon, by simp⟩, by decide, by simp [val], by rw [b]; simp [val]⟩, by omega, by simp⟩
/-- A sum of whole numbers. -/
theorem add_whole {g1 g2 : Bool} {l1 d1 l2 d2 : List Int} {N : Int} {g : Bool} {l d : List Int} (k1 : ROk g1 l1 d1) (k2 : ROk g2 l2 d2) (e1 : d1 = [1]) (e2 : d2 = [1]) (hN : N = bval g1 l1 + bval g2 l2) (h : RIs True N 1 g l d) : RatAddIs g1 l1 d1 g2 l2 d2 g l d := by
  subst e1 e2 hN
  have e : val [1] = 1 := by simp [val]
  unfold RatAddIs
  rw [e, Int.mul_one, Int.mul_one, Int.mul_one]
  exact rIs_prop h trivial ⟨k1, k2⟩
theorem sub_of_add {g1 g2 : Bool} {l1 d1 l2 d2 : List Int} {g h : Bool} {l d r : List Int} (k2 : ROk g2 l2 d2) (q : RatAddIs g1 l1 d1 h r d2 g l d) (k : ROk h r d2) (e : bval h r = - bval g2 l2) : RatSubIs g1 l1 d1 g2 l2 d2 g l d := by
  unfold RatSubIs
  unfold RatAddIs at q
  rw [e, Int.neg_mul, ← Int.sub_eq_add_neg] at q
  rcases q with ⟨⟨p1, _⟩, q⟩ | ⟨q, z⟩
  · exact .inl ⟨⟨p1, k2⟩, q⟩
  · exact .inr ⟨fun ⟨⟨p1, _⟩, x⟩ => q ⟨⟨p1, k⟩, x⟩, z⟩
end Go.Proofs.Ytipmeijfmiiedaa
namespace Go.Proofs.Ytipmeijfmiiedaa
set_option maxRecDepth 100000
open Go.RowKit

theorem Box.at' {w : World} {g : Nat} {t : TypeId} {cs : Array Value} (h : g = w.heap.size) : Box (w.alloc (.cells cs t)) g t cs := by subst h; exact Box.new _ _ _
theorem own_store3 {w : World} {g base : Nat} {t E : TypeId} {cs : Array Value} {size n : Nat} {v : Value} {xs : List Value} (o : w.ownsRow base E size v n xs) (h : Box w g t cs) (hne : E ≠ t) (u0 u1 u2 : Value) :
    (((w.setCell ⟨g, 0, none⟩ u0).setCell ⟨g, 1, none⟩ u1).setCell ⟨g, 2, none⟩ u2).ownsRow base E size v n xs :=
  own_box (own_box (own_box o h 0 u0 hne) (h.set_ 0 u0) 1 u1 hne) ((h.set_ 0 u0).set_ 1 u1) 2 u2 hne
theorem own_store2 {w : World} {g base : Nat} {t E : TypeId} {cs : Array Value} {size n : Nat} {v : Value} {xs : List Value} (o : w.ownsRow base E size v n xs) (h : Box w g t cs) (hne : E ≠ t) (u0 u1 : Value) :
    ((w.setCell ⟨g, 0, none⟩ u0).setCell ⟨g, 1, none⟩ u1).ownsRow base E size v n xs :=
  own_box (own_box o h 0 u0 hne) (h.set_ 0 u0) 1 u1 hne
theorem below_store3 {w W : World} {g : Nat} (hb : Below w.heap.size w W) (hg : w.heap.size ≤ g) (u0 u1 u2 : Value) : Below w.heap.size w (((W.setCell ⟨g, 0, none⟩ u0).setCell ⟨g, 1, none⟩ u1).setCell ⟨g, 2, none⟩ u2) := ((hb.setCell hg _).setCell hg _).setCell hg _
theorem apart_older' {w w1 : World} {base : Nat} {E E' : TypeId} {s s' n n' : Nat} {v u : Value} {xs ys : List Value} (h : w.ownsRow base E s v n xs) (k : w1.ownsRow w.heap.size E' s' u n' ys) : Apart u v := fun j hj hv => by
  have h1 := (h.lt j hv).2
  have h2 := (k.lt j hj).1
  omega

def ToRatEnd (g : Bool) (n : Nat) (xs : List Int) (m : Nat) (ds : List Int) (w w' : World) (e : Ending) : Prop :=
  ∃ v u, e = .returned (.agg #[.bool g, v, u]) ∧ w'.ownsRow w.heap.size 3 1 v n (xs.map (.int .i64)) ∧ w'.ownsRow w.heap.size 3 1 u m (ds.map (.int .i64)) ∧ Apart u v ∧ Below w.heap.size w w'


def MarkREnd (base1 base2 : Nat) (A : Option Addr) (n c : Nat) (B : Option Addr) (m d K : Nat) (w w' : World) (e : Ending) : Prop :=
  ∃ w1, e = .returned (.int .i64 ((K + n + m : Nat) : Int)) ∧ w1.ownsRow base1 3 1 (.slice A n c) n (marks markI K n) ∧ w.grownBy w1 (Value.slice A n c).ownBlock ∧
    w'.ownsRow base2 3 1 (.slice B m d) m (marks markI (K + n) m) ∧ w1.grownBy w' (Value.slice B m d).ownBlock


end Go.Proofs.Ytipmeijfmiiedaa
namespace Go.Proofs.Ytipmeijfmiiedaa
set_option maxRecDepth 100000
open Go.RowKit Go.ChangeShapes Go.WideShapes Go.Deep Go.Joins

section
variable {P : Program} {H : Type} {enc : TypeId × Value → H} {w : World} {sp : Nat → Bool} {hd : Bool}
theorem open_rat {r : Reach} {b0 : Nat} {t e : TypeId} {f0 f1 k0 k1 : Field} {v : Value} {d : DataW H} {p : List MemPlace} (hs : P.underlying t = some (.struct #[f0, f1])) (ho0 : f0.offset = 0) (ho1 : f1.offset = 2) (hC : P.cellsOf t = 3)
    (hsb : P.underlying f0.type = some (.struct #[k0, k1])) (hone : oneCellFields P #[k0, k1] = true) (hCb : P.cellsOf f0.type = 2) (hc1 : P.cellsOf f1.type = 1)
    (hb : P.underlying k0.type = some .bool) (hsl : P.underlying k1.type = some (.slice e)) (hsl1 : P.underlying f1.type = some (.slice e)) (he : P.underlying e = some (.int .i64)) (hc : P.cellsOf e = 1)
    (hv : Value.okWide P w r b0 t v) (h : DataW.Trod enc P w 0 sp hd t v d p) :
    ∃ g A len cap xs B lenb capb ys, v = .agg #[.bool g, .slice A len cap, .slice B lenb capb] ∧ IsInts w A len xs ∧ IsInts w B lenb ys := by
  obtain ⟨cs, rfl, hsz⟩ := okWide_struct hs hv
  obtain ⟨c0, c1, c2, rfl⟩ := array3 (hsz.trans hC)
  obtain ⟨fuel, hf⟩ := h
  obtain ⟨y0, y1, n, hx, _, h0, h1⟩ := trod_struct2 hs hf
  rw [ho0, hCb] at h0
  rw [ho1, hc1] at h1
  have h0' : DataW.trod enc P w 0 sp hd n f0.type [c0, c1] = some y0 := by simpa [Value.cells] using h0
  have h1' : DataW.trod enc P w 0 sp hd n f1.type [c2] = some y1 := by simpa [Value.cells] using h1
  obtain ⟨z0, z1, m, hz, _, g0, g1⟩ := trod_struct2 hsb h0'
  obtain ⟨o0, q0⟩ := hone_of hone 0 k0 rfl
  obtain ⟨o1, q1⟩ := hone_of hone 1 k1 rfl
  have g0' : DataW.trod enc P w 0 sp hd m k0.type [c0] = some z0 := by simpa [o0, q0] using g0
  have g1' : DataW.trod enc P w 0 sp hd m k1.type [c1] = some z1 := by simpa [o1, q1] using g1
  obtain ⟨b, hb', _⟩ := DataW.trod_bool hb g0'
  obtain rfl : c0 = .bool b := by simpa using hb'
  obtain ⟨A, len, cap, xs, rfl, hA⟩ := ints_cell hsl he hc g1'
  obtain ⟨B, lenb, capb, ys, rfl, hB⟩ := ints_cell hsl1 he hc h1'
  exact ⟨b, A, len, cap, xs, B, lenb, capb, ys, rfl, hA, hB⟩
end
end Go.Proofs.Ytipmeijfmiiedaa
