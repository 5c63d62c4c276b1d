/- Contract of the program's one limb of a long division. -/
import Derived.Test.YtjjbgpgpacopjaaDoorIm6
import Derived.Deep.DeepCutAuto
namespace Go.Proofs.YtjjbgpgpacopjaaDoor
open Go.RowKit

/-- What a limb of the quotient ends in. -/
def LimbEnd (g N c : Nat) (P X ds : List Int) (base : Nat) (w w' : World) (e : Ending) : Prop :=
  ∃ q X', e = .returned (.int .i64 q) ∧ 0 ≤ q ∧ q ≤ 999999999 ∧ X'.length = X.length ∧ InR X' ∧ val X' = val X - q * val ds ∧ val X' < val ds ∧ w'.ownsRow base 3 1 (.slice (some ⟨g, 0, none⟩) N c) N ((P ++ X').map (.int .i64)) ∧ w.grownBy w' (some g)
/-- The window under subtraction. -/
def LessMem (g N c : Nat) (P X ds : List Int) (n base : Nat) (G : Int) (w wr : World) (i : Nat) (cy : Int) (X' : List Int) : Prop :=
  LessAt (val X) G ds i cy X' ∧ X'.length = X.length ∧ ZeroFrom X' (n + 1) ∧ wr.ownsRow base 3 1 (.slice (some ⟨g, 0, none⟩) N c) N ((P ++ X').map (.int .i64)) ∧ w.grownBy wr (some g)
/-- The window being corrected. -/
def TopMem (g N c : Nat) (P X ds : List Int) (n base : Nat) (w wr : World) (q t : Int) (X' : List Int) : Prop :=
  TopAt n (val X - q * val ds) t X' ∧ val X < (q + 1) * val ds ∧ X'.length = X.length ∧ wr.ownsRow base 3 1 (.slice (some ⟨g, 0, none⟩) N c) N ((P ++ X').map (.int .i64)) ∧ w.grownBy wr (some g)
theorem floor_tdiv (S : Int) : (S - S % 1000000000).tdiv 1000000000 = S / 1000000000 := by
  have h := Int.mul_ediv_add_emod S 1000000000
  have e : S - S % 1000000000 = S / 1000000000 * 1000000000 := by omega
  rw [e, Int.mul_tdiv_cancel _ (by decide)]
theorem grownBy_drewN (w : World) (n : Nat) (row : Option Nat) : w.grownBy (w.drewN n) row := ⟨rfl, rfl, rfl, Nat.le_refl _, fun _ _ _ => rfl⟩
theorem drop_get {l r : List Int} {n : Nat} (h : l.drop n = r.drop n) (hl : n < l.length) (hr : n < r.length) : l[n] = r[n] := by
  rw [List.drop_eq_getElem_cons hl, List.drop_eq_getElem_cons hr] at h
  exact (List.cons.inj h).1
theorem getD_set_self (l : List Int) (n : Nat) (v : Int) (h : n < l.length) : (l.set n v).getD n 0 = v := by
  rw [List.getD_eq_getElem?_getD, List.getElem?_set_self h]; rfl

theorem zeroFrom_drop {l r : List Int} {n : Nat} (h : l.drop n = r.drop n) (hz : ZeroFrom r (n + 1)) : ZeroFrom l (n + 1) := by
  intro j hj hle
  have hlen : l.length - n = r.length - n := by rw [← List.length_drop, ← List.length_drop, h]
  have h2 : l.drop j = r.drop j := by
    rw [show j = n + (j - n) by omega, ← List.drop_drop, ← List.drop_drop, h]
  rw [drop_get h2 hj (by omega)]
  exact hz j (by omega) hle
theorem TopMem.next {g N c m base : Nat} {P X ds X1 X2 : List Int} {w wi w1 : World} {q tt cz : Int} (HT : TopAt (m + 1) (val X - q * val ds) tt X1) (zl : X2.length = X1.length) (zr : InR (X2.take (m + 1))) (zv : val X2 + pw (m + 1) * cz = val X1 + val ds)
    (zd : X2.drop (m + 1) = X1.drop (m + 1)) (hl : X1.length = X.length) (hup : val X < (q - 1 + 1) * val ds) (zo : w1.ownsRow base 3 1 (.slice (some ⟨g, 0, none⟩) N c) N ((P ++ X2).map (.int .i64))) (zg : wi.grownBy w1 (some g)) (hg : w.grownBy wi (some g)) :
    TopMem g N c P X ds (m + 1) base w (w1.setCell ⟨g, P.length + (m + 1), none⟩ (.int .i64 (tt + cz))) (q - 1) (tt + cz) (X2.set (m + 1) (tt + cz)) := by
  obtain ⟨_, h2, h3, _, h5, h6⟩ := HT
  have hx : m + 1 < X2.length := by omega
  rw [List.getD_eq_getElem?_getD, List.getElem?_eq_getElem h5] at h6
  have h7 : X1[m + 1] = tt := h6
  have h8 := (drop_get zd hx h5).trans h7
  have h9 : InR ((X2.set (m + 1) (tt + cz)).take (m + 1)) := by rw [List.take_set_of_le (Nat.le_refl _)]; exact zr
  have ht := top_at h9 ((zeroFrom_drop zd h2).set (by omega) (tt + cz)) (by simpa using hx)
  have hv : val X2 + pw (m + 1) * (tt + cz - tt) = val X - (q - 1) * val ds := by grind
  rw [getD_set_self _ _ _ hx, val_set _ _ _ hx, h8, hv] at ht
  have hst := zo.stored (P.length + (m + 1)) (.int .i64 (tt + cz))
  rw [map_append_set] at hst
  exact ⟨ht, hup, by simp; omega, hst.1, grownBy_trans (grownBy_trans hg zg) hst.2⟩

end Go.Proofs.YtjjbgpgpacopjaaDoor
