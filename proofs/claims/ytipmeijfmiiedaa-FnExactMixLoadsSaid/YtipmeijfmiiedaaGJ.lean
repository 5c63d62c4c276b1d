/- Contract of the program's one limb of a long division. -/
import Derived.Test.YtipmeijfmiiedaaGI
import Derived.Deep.DeepCutAuto
import Derived.Test.YtipmeijfmiiedaaGA
import Derived.Deep.LoopGhost
import Derived.Test.YtipmeijfmiiedaaGN
namespace Go.Proofs.Ytipmeijfmiiedaa
set_option maxRecDepth 100000
open Go.RowKit

/-- What a limb of the quotient ends in. -/
def LimbEnd (g N c : Nat) (P X ds : List Int) (base : Nat) (w w' : World) (e : Ending) : Prop :=
  ∃ q X', e = .returned (.int .i64 q) ∧ 0 ≤ q ∧ q ≤ 999999999 ∧ X'.length = X.length ∧ InR X' ∧ val X' = val X - q * val ds ∧ val X' < val ds ∧ w'.ownsRow base 3 1 (.slice (some ⟨g, 0, none⟩) N c) N ((P ++ X').map (.int .i64)) ∧ w.grownBy w' (some g)
/-- The window under subtraction. -/
def LessMem (g N c : Nat) (P X ds : List Int) (n base : Nat) (G : Int) (w wr : World) (i : Nat) (cy : Int) (X' : List Int) : Prop :=
  LessAt (val X) G ds i cy X' ∧ X'.length = X.length ∧ ZeroFrom X' (n + 1) ∧ wr.ownsRow base 3 1 (.slice (some ⟨g, 0, none⟩) N c) N ((P ++ X').map (.int .i64)) ∧ w.grownBy wr (some g)
/-- The window being corrected. -/
def TopMem (g N c : Nat) (P X ds : List Int) (n base : Nat) (w wr : World) (q t : Int) (X' : List Int) : Prop :=
  TopAt n (val X - q * val ds) t X' ∧ val X < (q + 1) * val ds ∧ X'.length = X.length ∧ wr.ownsRow base 3 1 (.slice (some ⟨g, 0, none⟩) N c) N ((P ++ X').map (.int .i64)) ∧ w.grownBy wr (some g)
theorem floor_tdiv (S : Int) : (S - S % 1000000000).tdiv 1000000000 = S / 1000000000 := by
  have h := Int.mul_ediv_add_emod S 1000000000
  have e : S - S % 1000000000 = S / 1000000000 * 1000000000 := by omega
  rw [e, Int.mul_tdiv_cancel _ (by decide)]
theorem grownBy_drewN (w : World) (n : Nat) (row : Option Nat) : w.grownBy (w.drewN n) row := ⟨rfl, rfl, rfl, Nat.le_refl _, fun _ _ _ => rfl⟩
theorem drop_get {l r : List Int} {n : Nat} (h : l.drop n = r.drop n) (hl : n < l.length) (hr : n < r.length) : l[n] = r[n] := by
  rw [List.drop_eq_getElem_cons hl, List.drop_eq_getElem_cons hr] at h
  exact (List.cons.inj h).1
theorem getD_set_self (l : List Int) (n : Nat) (v : Int) (h : n < l.length) : (l.set n v).getD n 0 = v := by
  rw [List.getD_eq_getElem?_getD, List.getElem?_set_self h]; rfl

theorem zeroFrom_drop {l r : List Int} {n : Nat} (h : l.drop n = r.drop n) (hz : ZeroFrom r (n + 1)) : ZeroFrom l (n + 1) := by
  intro j hj hle
  have hlen : l.length - n = r.length - n := by rw [← List.length_drop, ← List.length_drop, h]
  have h2 : l.drop j = r.drop j := by
    rw [show j = n + (j - n) by omega, ← List.drop_drop, ← List.drop_drop, h]
  rw [drop_get h2 hj (by omega)]
  exact hz j (by omega) hle
theorem TopMem.next {g N c m base : Nat} {P X ds X1 X2 : List Int} {w wi w1 : World} {q tt cz : Int} (HT : TopAt (m + 1) (val X - q * val ds) tt X1) (zl : X2.length = X1.length) (zr : InR (X2.take (m + 1))) (zv : val X2 + pw (m + 1) * cz = val X1 + val ds)
    (zd : X2.drop (m + 1) = X1.drop (m + 1)) (hl : X1.length = X.length) (hup : val X < (q - 1 + 1) * val ds) (zo : w1.ownsRow base 3 1 (.slice (some ⟨g, 0, none⟩) N c) N ((P ++ X2).map (.int .i64))) (zg : wi.grownBy w1 (some g)) (hg : w.grownBy wi (some g)) :
    TopMem g N c P X ds (m + 1) base w (w1.setCell ⟨g, P.length + (m + 1), none⟩ (.int .i64 (tt + cz))) (q - 1) (tt + cz) (X2.set (m + 1) (tt + cz)) := by
  obtain ⟨_, h2, h3, _, h5, h6⟩ := HT
  have hx : m + 1 < X2.length := by omega
  rw [List.getD_eq_getElem?_getD, List.getElem?_eq_getElem h5] at h6
  have h7 : X1[m + 1] = tt := h6
  have h8 := (drop_get zd hx h5).trans h7
  have h9 : InR ((X2.set (m + 1) (tt + cz)).take (m + 1)) := by rw [List.take_set_of_le (Nat.le_refl _)]; exact zr
  have ht := top_at h9 ((zeroFrom_drop zd h2).set (by omega) (tt + cz)) (by simpa using hx)
  have hv : val X2 + pw (m + 1) * (tt + cz - tt) = val X - (q - 1) * val ds := by grind
  rw [getD_set_self _ _ _ hx, val_set _ _ _ hx, h8, hv] at ht
  have hst := zo.stored (P.length + (m + 1)) (.int .i64 (tt + cz))
  rw [map_append_set] at hst
  exact ⟨ht, hup, by simp; omega, hst.1, grownBy_trans (grownBy_trans hg zg) hst.2⟩

end Go.Proofs.Ytipmeijfmiiedaa
namespace Go.Proofs.Ytipmeijfmiiedaa
set_option maxRecDepth 100000
open Go.RowKit

theorem top_pos {l : List Int} {m : Nat} (h : InR l) (hl : m < l.length) (hl2 : l.length ≤ m + 1) (hv : pw m ≤ val l) : 1 ≤ l[m] := by
  have h0 := h _ (List.getElem_mem hl)
  have h1 := val_split l m (by omega)
  have h2 := take_bd h m (by omega)
  have h3 := val_drop_at hl
  rw [List.drop_eq_nil_of_le hl2] at h3
  by_cases e : l[m] = 0
  · rw [h3, e] at h1; simp [val] at h1; omega
  · omega
/-- What a division ends in: quotient and remainder, in memory of their own. -/
def DivEnd (a b : Int) (B : Nat) (w w' : World) (e : Ending) : Prop := ∃ q v r u, e = .returned (.tuple #[v, u]) ∧ DivIs a b q r ∧ q.length ≤ B ∧ r.length ≤ B ∧ w'.ownsRow w.heap.size 3 1 v q.length (q.map (.int .i64)) ∧ w'.ownsRow w.heap.size 3 1 u r.length (r.map (.int .i64)) ∧ Apart u v ∧ Below w.heap.size w w'
theorem scale_bd {t : Int} (t1 : 1 ≤ t) (t2 : t ≤ 999999999) : 1 ≤ 1000000000 / (t + 1) ∧ 1000000000 / (t + 1) ≤ 500000000 ∧ (t + 1) * (1000000000 / (t + 1)) ≤ 1000000000 := by
  have h1 : 1000000000 / (t + 1) * (t + 1) ≤ 1000000000 := Int.ediv_mul_le _ (by omega)
  have h2 : 1 ≤ 1000000000 / (t + 1) := (Int.le_ediv_iff_mul_le (by omega)).2 (by omega)
  refine ⟨h2, ?_, by rw [Int.mul_comm]; exact h1⟩
  have h3 : 1000000000 / (t + 1) * 2 ≤ 1000000000 / (t + 1) * (t + 1) := Int.mul_le_mul_of_nonneg_left (by omega) (by omega)
  omega
/-- The scaled divisor has no more limbs. -/
theorem scaled_lt {ys : List Int} {m : Nat} {t s : Int} (h : InR ys) (hl : m < ys.length) (hl2 : ys.length = m + 1) (ht : t = ys[m]) (s1 : 1 ≤ s) (hs : (t + 1) * s ≤ 1000000000) : val ys * s < pw (m + 1) := by
  have h1 := val_split ys m (by omega)
  have h2 := take_bd h m (by omega)
  have h3 := val_drop_at hl
  rw [List.drop_eq_nil_of_le (show ys.length ≤ m + 1 by omega), ← ht] at h3
  simp only [val] at h3
  have h4 : val ys + 1 ≤ (t + 1) * pw m := by rw [Int.add_mul, Int.one_mul, Int.mul_comm t]; rw [h3] at h1; simp only [Int.mul_zero, Int.add_zero] at h1; omega
  have h5 : (val ys + 1) * s ≤ (t + 1) * pw m * s := Int.mul_le_mul_of_nonneg_right h4 (by omega)
  have h6 : (t + 1) * s * pw m ≤ 1000000000 * pw m := Int.mul_le_mul_of_nonneg_right hs (by have := pw_pos m; omega)
  have h7 : (t + 1) * pw m * s = (t + 1) * s * pw m := by grind
  rw [Int.add_mul, Int.one_mul] at h5
  rw [pw]; omega
/-- The start of a long division. -/
theorem LongAt.start {A s B : Int} {n1 m M : Nat} {R : List Int} (hR : R.length = n1 + 1) (hr : InR R) (hv : val R = A * s) (hM : M + m = n1) (hA : A < pw n1) (hB : pw m ≤ B) (s1 : 1 ≤ s) : LongAt (A * s) (B * s) (n1 + 1) M M (List.replicate M 0) R := by
  refine ⟨by simp, zeros_inR _, hR, hr, ?_, by rw [List.drop_eq_nil_of_le (by simp)]; simp [val, hv]⟩
  have h1 := val_split R M (by omega)
  have h2 := val_nonneg (hr.take M)
  have h3 : A * s < pw n1 * s := Int.mul_lt_mul_of_pos_right hA (by omega)
  have h4 : pw m * s ≤ B * s := Int.mul_le_mul_of_nonneg_right hB (by omega)
  have h5 : pw n1 * s = pw M * (pw m * s) := by rw [← hM, pw_add, Int.mul_assoc]
  have h6 : pw M * val (R.drop M) < pw M * (pw m * s) := by omega
  have h7 := Int.lt_of_mul_lt_mul_left h6 (by have := pw_pos M; omega)
  omega

theorem own_grown_none {w w' : World} {base : Nat} {E : TypeId} {size n : Nat} {v : Value} {xs : List Value} (h : w.ownsRow base E size v n xs) (hg : w.grownBy w' none) : w'.ownsRow base E size v n xs :=
  h.kept hg (by cases hv : v.ownBlock <;> simp)
theorem own_grown_ne {w w' : World} {base : Nat} {E : TypeId} {size n c g g' : Nat} {xs : List Value} (h : w.ownsRow base E size (.slice (some ⟨g, 0, none⟩) n c) n xs) (hg : w.grownBy w' (some g')) (hne : g ≠ g') : w'.ownsRow base E size (.slice (some ⟨g, 0, none⟩) n c) n xs :=
  h.kept hg (.inr (by simp [Value.ownBlock, hne]))
/-- A long division under way: what lies in memory. -/
def LongMem (base g1 g2 g3 n1 n2 M : Nat) (t D : Int) (ds : List Int) (wr : World) (k : Nat) (q r : List Int) : Prop :=
  LongAt t D (n1 + 1) M k q r ∧ wr.ownsRow base 3 1 (.slice (some ⟨g1, 0, none⟩) (n1 + 1) (n1 + 1)) (n1 + 1) (r.map (.int .i64)) ∧ wr.ownsRow base 3 1 (.slice (some ⟨g2, 0, none⟩) n2 (n2 + 1)) n2 (ds.map (.int .i64)) ∧ wr.ownsRow base 3 1 (.slice (some ⟨g3, 0, none⟩) M M) M (q.map (.int .i64))
end Go.Proofs.Ytipmeijfmiiedaa
namespace Go.Proofs.Ytipmeijfmiiedaa
set_option maxRecDepth 100000
open Go.RowKit

theorem DivEnd.gives {xs ys : List Int} {B : Nat} {w w' : World} {e : Ending} (h : DivEnd (val xs) (val ys) B w w' e) (k1 : Ok xs) (k2 : Ok ys) (hp : 0 < val ys) (hB : B ≤ 4194304) :
    ∃ r0 v0 r1 v1, e = .returned (.tuple #[v0, v1]) ∧ NatDivIs xs ys r0 r1 ∧ ResI w w' v0 r0 ∧ ResI w w' v1 r1 ∧ Apart v1 v0 ∧ Below w.heap.size w w' := by
  obtain ⟨q, v, r, u, he, hd, hq, hr, h1, h2, ha, hb⟩ := h
  exact ⟨q, v, r, u, he, .inl ⟨k1, k2, hp, hd⟩, ⟨by omega, h1⟩, ⟨by omega, h2⟩, ha, hb⟩
theorem natDiv_none {xs ys : List Int} (w : World) (h : ¬ (Ok xs ∧ Ok ys ∧ 0 < val ys)) :
    ∃ r0 v0 r1 v1, (Ending.returned (.tuple #[.slice none 0 0, .slice none 0 0])) = .returned (.tuple #[v0, v1]) ∧ NatDivIs xs ys r0 r1 ∧ ResI w w v0 r0 ∧ ResI w w v1 r1 ∧ Apart v1 v0 ∧ Below w.heap.size w w :=
  ⟨[], _, [], _, rfl, .inr ⟨h, rfl, rfl⟩, ⟨by simp, World.ownsRow_nil _ _ _ _⟩, ⟨by simp, World.ownsRow_nil _ _ _ _⟩, fun k hk => by simp [Value.ownBlock] at hk, Below.refl _ _⟩


theorem gcd_end (a : Int) (h : 0 ≤ a) : (Int.gcd a 0 : Int) = a := by rw [Int.gcd_zero_right]; omega

/-- Two numbers whose greatest common divisor is G, in memory. -/
def GcdMem (G : Nat) (A1 : Option Addr) (n1 : Nat) (xs : List Int) (A2 : Option Addr) (n2 : Nat) (ys : List Int) (wr : World) : Prop :=
  xs.length = n1 ∧ Canon xs ∧ Reads wr A1 (xs.map (.int .i64)) ∧ ys.length = n2 ∧ Canon ys ∧ Reads wr A2 (ys.map (.int .i64)) ∧ Int.gcd (val xs) (val ys) = G
theorem two_limbs {xs : List Int} (h : InR xs) (hl : xs.length ≤ 2) : 0 ≤ val xs ∧ val xs ≤ 999999999999999999 := by
  have h1 := val_lt h
  have h2 := pw_mono hl
  have h3 : pw 2 = 1000000000000000000 := by decide
  exact ⟨val_nonneg h, by omega⟩
theorem gcd_le_nat (a b : Int) (a0 : 0 ≤ a) (ha : a ≤ 999999999999999999) (b0 : 0 ≤ b) (hb : b ≤ 999999999999999999) : (Int.gcd a b : Int) ≤ 999999999999999999 := by
  by_cases e : b = 0
  · subst e; rw [gcd_end a a0]; exact ha
  · have h := Int.gcd_dvd_right a b
    have := Int.le_of_dvd (by omega) h
    omega
theorem natGcd_natOf {a b : Int} {r : List Int} (h : NatOfIs (Int.gcd a b : Int) r) : GcdIs a b r := ⟨h.1, by
  rw [h.2]; split
  · omega
  · rfl⟩
end Go.Proofs.Ytipmeijfmiiedaa
namespace Go.Proofs.Ytipmeijfmiiedaa
set_option maxRecDepth 100000
open Go.RowKit

/-- The model's long division down to place k: q the limbs of the quotient, r what is left. -/
def LongS (xs ys : List Int) (k : Nat) (q r : List Int) : Prop :=
  q.length = xs.length ∧ InR q ∧ (∀ j (h : j < q.length), j < k → q[j] = 0) ∧ val (q.drop k) * val ys + val r = val (xs.drop k) ∧ Canon r ∧ val r < val ys
theorem LongS.bring {xs ys q r : List Int} {i : Nat} {x : Int} (h : LongS xs ys (i + 1) q r) (hi : i < xs.length) (hx : x = xs[i]) (hxr : InR xs) : 0 ≤ x + 1000000000 * val r ∧ x + 1000000000 * val r < 1000000000 * val ys := by
  have h1 := hxr _ (List.getElem_mem hi)
  rw [← hx] at h1
  have h2 := val_nonneg h.2.2.2.2.1.1
  have h3 := h.2.2.2.2.2
  omega
theorem LongS.skip {xs ys q r r' : List Int} {i : Nat} {x : Int} (h : LongS xs ys (i + 1) q r) (hi : i < xs.length) (hx : x = xs[i]) (hr : Canon r') (hv : val r' = x + 1000000000 * val r) (hlt : val r' < val ys) : LongS xs ys i q r' := by
  obtain ⟨h1, h2, h3, h4, h5, h6⟩ := h
  refine ⟨h1, h2, fun j hj hk => h3 j hj (by omega), ?_, hr, hlt⟩
  rw [val_drop_at (show i < q.length by omega), val_drop_at hi, h3 i (by omega) (by omega), ← hx, hv, ← h4]
  grind
theorem LongS.take {xs ys q r r' : List Int} {i : Nat} {x d : Int} (h : LongS xs ys (i + 1) q r) (hi : i < xs.length) (hx : x = xs[i]) (hr : Canon r') (hv : val r' = x + 1000000000 * val r - val ys * d) (hlt : x + 1000000000 * val r < (d + 1) * val ys) (d0 : 0 ≤ d) (d1 : d ≤ 999999999) : LongS xs ys i (q.set i d) r' := by
  obtain ⟨h1, h2, h3, h4, h5, h6⟩ := h
  refine ⟨by simpa using h1, h2.set i d0 d1, fun j hj hk => by rw [List.getElem_set_ne (by omega)]; exact h3 j (by simpa using hj) (by omega), ?_, hr, ?_⟩
  · rw [val_drop_at (by simp; omega), List.getElem_set_self, List.drop_set_of_lt (by omega), val_drop_at hi, ← hx, hv, ← h4]
    grind
  · rw [hv, Int.mul_comm (val ys) d]; rw [Int.add_mul, Int.one_mul] at hlt; omega
theorem cons_val (x : Int) (r : List Int) : val (x :: r) = x + 1000000000 * val r := rfl

theorem own_over {w w' : World} {g : Nat} {E : TypeId} {size n : Nat} {v : Value} {xs : List Value} (h : w.ownsRow (g + 1) E size v n xs) (hg : w.grownBy w' (some g)) : w'.ownsRow (g + 1) E size v n xs := by
  refine h.kept hg ?_
  cases hv : v.ownBlock with
  | none => exact .inl rfl
  | some k => exact .inr (fun e => by cases e; have := (h.lt g hv).1; omega)
end Go.Proofs.Ytipmeijfmiiedaa
namespace Go.Proofs.Ytipmeijfmiiedaa
set_option maxRecDepth 100000
open Go.RowKit



/-- Two numbers whose greatest common divisor is G, in memory of the call's own. -/
def GcdOwn (G : Nat) (base : Nat) (A1 : Option Addr) (n1 c1 : Nat) (xs : List Int) (A2 : Option Addr) (n2 c2 : Nat) (ys : List Int) (wr : World) : Prop :=
  xs.length = n1 ∧ Canon xs ∧ wr.ownsRow base 3 1 (.slice A1 n1 c1) n1 (xs.map (.int .i64)) ∧ ys.length = n2 ∧ Canon ys ∧ wr.ownsRow base 3 1 (.slice A2 n2 c2) n2 (ys.map (.int .i64)) ∧ Int.gcd (val xs) (val ys) = G
theorem two_ok {xs : List Int} (h : Canon xs) (hl : xs.length ≤ 2) {v : Int} {b : Bool} (k : NatToIntIs xs v b) : v = val xs := by
  rcases k with ⟨_, _, _, h3⟩ | ⟨_, _, h3⟩
  · exact h3
  · exact absurd ⟨⟨h, by omega⟩, by have := two_limbs h.1 hl; omega⟩ h3
theorem two_bd {xs : List Int} (h : InR xs) : ∀ z ∈ xs, -9223372036854775808 ≤ z ∧ z ≤ 9223372036854775807 := fun z hz => by have := h z hz; omega

end Go.Proofs.Ytipmeijfmiiedaa
