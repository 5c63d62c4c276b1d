/- Contracts of the model's draws of fractions, vectors and matrices: small numbers, in memory of their own. -/
import Derived.Test.YthjbfdifeffilaaCur
import Derived.Test.YthjbfdifeffilaaAlg
import Derived.Test.YthjbfdifeffilaaGF
namespace Go.Proofs.Ythjbfdifeffilaa
set_option maxRecDepth 100000
open Go.RowKit

theorem gb_below {a b c : World} {row : Option Nat} (h : a.grownBy b row) (k : Below b.heap.size b c) : a.grownBy c row := grownBy_trans h (grownBy_of_below k row)
theorem gb_set {a b : World} {row : Option Nat} (h : a.grownBy b row) {p : Addr} (hp : a.heap.size ≤ p.block) (u : Value) : a.grownBy (b.setCell p u) row :=
  ⟨h.os, h.tape, h.output, Nat.le_trans h.size (by simp [World.setCell]), fun k hk hne => (Below.heap_setCell _ _ _ _ (by omega)).trans (h.block k hk hne)⟩
theorem gb_app {a b c : World} {row own : Option Nat} {o : Obj} (h : a.grownBy b row) (hg : (b.alloc o).grownBy c own) (ho : ∀ k, own = some k → a.heap.size ≤ k) : a.grownBy c row := by
  have h2 := grownBy_trans h (grownBy_alloc b o row)
  exact ⟨hg.os.trans h2.os, hg.tape.trans h2.tape, hg.output.trans h2.output, Nat.le_trans h2.size hg.size, fun k hk hne => (hg.block k (Nat.lt_of_lt_of_le hk h2.size) (fun e => by have := ho k e.symm; omega)).trans (h2.block k hk hne)⟩
theorem Cur.setCell {w : World} {B g : Nat} (h : Cur w B g) {p : Addr} (hp : g < p.block) (u : Value) : Cur (w.setCell p u) B g := by
  obtain ⟨A, n, c, i, x, hB, hcs, h0, h1, h2, h3, h4, h5⟩ := h
  exact ⟨A, n, c, i, x, hB, (Below.heap_setCell _ _ _ _ (by omega)).trans hcs, h0, h1, h2, h3, h4, h5.keep fun b hbB => Below.heap_setCell _ _ _ _ (by omega)⟩
theorem Cur.blk {w : World} {B g : Nat} (h : Cur w B g) : B ≤ g ∧ g < w.heap.size := by
  obtain ⟨A, n, c, i, x, hB, hcs, _⟩ := h
  exact ⟨hB, hcs.lt⟩
/-- A list that is younger than the cursor, over a draw. -/
theorem OwnV.drawn {w w' : World} {g base n : Nat} {V : Value} {L : List El} (h : OwnV w base V n L) (hg : w.grownBy w' (some g)) (hb : g < base) : OwnV w' base V n L :=
  h.dep fun k hk => hg.block k (h.lt k hk).2 (fun e => by have := (h.lt k hk).1; cases e; omega)
def OnceEnd (B g : Nat) (w : World) (e : Ending) (w' : World) : Prop := (∃ b : Bool, e = .returned (.bool b)) ∧ Cur w' B g ∧ w.grownBy w' (some g)
set_option maxHeartbeats 800000 in
theorem spec_once (m : Int) (B g : Nat) (w : World) (h1 : 1 ≤ m) (h2 : m ≤ 1000000000) (hc : Cur w B g) :
    Calls Try.prog 133 #[.pointer (some ⟨g, 0, none⟩), .int .i64 m] w (OnceEnd B g w) := by
  have Hc := Lib.hid hc
  clear hc
  go_enter Try.func133, Try.ntmps133
  go_wp2_with fail
  refine (spec_below m B g _ h1 h2 Hc.out).mono ?_
  rintro e w1 ⟨⟨x, rfl, hx0, hx1⟩, hc1, hg1⟩
  have HF : Hid (OnceEnd B g w (.returned (.bool (x == 0))) w1) := ⟨⟨_, rfl⟩, hc1, hg1⟩
  clear hc1 hg1
  go_wp2_with fail
  go_ret
  exact HF.out
def NumEnd (B g : Nat) (w : World) (e : Ending) (w' : World) : Prop := ∃ s l v d u, e = .returned (.agg #[.bool s, v, u]) ∧ Small 20 ⟨s, l, d⟩ ∧ ResI w w' v l ∧ ResI w w' u d ∧ Apart u v ∧ Cur w' B g ∧ w.grownBy w' (some g)
theorem num_end {B g : Nat} {w W W2 : World} {cs : Array Value} {s : Bool} {l d : List Int} {A D : Option Addr} {N c M e : Nat} (hbx : Box W2 w.heap.size 31 cs) (hsm : Small 20 ⟨s, l, d⟩) (hg : g < w.heap.size) (hc : Cur W2 B g) (hgb : w.grownBy W2 (some g)) (hs : w.heap.size ≤ W.heap.size)
    (o1 : ResI W W2 (.slice A N c) l) (o2 : ResI W W2 (.slice D M e) d) (ap : Apart (.slice D M e) (.slice A N c)) :
    NumEnd B g w (.returned (.agg #[.bool s, .slice A N c, .slice D M e])) (((W2.setCell ⟨w.heap.size, 0, none⟩ (.bool s)).setCell ⟨w.heap.size, 1, none⟩ (.slice A N c)).setCell ⟨w.heap.size, 2, none⟩ (.slice D M e)) :=
  ⟨s, l, _, d, _, rfl, hsm, ⟨o1.1, own_base (own_store3 o1.2 hbx (by decide) _ _ _) hs⟩, ⟨o2.1, own_base (own_store3 o2.2 hbx (by decide) _ _ _) hs⟩, ap,
    ((hc.setCell (by exact hg) _).setCell (by exact hg) _).setCell (by exact hg) _, gb_set (gb_set (gb_set hgb (Nat.le_refl _) _) (Nat.le_refl _) _) (Nat.le_refl _) _⟩
set_option maxHeartbeats 3200000 in
theorem spec_number (B g : Nat) (w : World) (hc : Cur w B g) :
    Calls Try.prog 100 #[.pointer (some ⟨g, 0, none⟩)] w (NumEnd B g w) := by
  obtain ⟨W0, hW0⟩ : ∃ W, W = (w.alloc (.cells #[.bool false, .slice none 0 0, .slice none 0 0] 31)) := ⟨_, rfl⟩
  have hs_0 : Hid (Box W0 (w.heap.size) 31 #[.bool false, .slice none 0 0, .slice none 0 0]) := by rw [hW0]; exact (Box.at' (by simp))
  have BW_0 : Hid (Below w.heap.size w W0) := by rw [hW0]; exact ((Below.refl w.heap.size w).alloc (by simp) _)
  have hsz0 : w.heap.size + 1 ≤ W0.heap.size := by rw [hW0]; simp
  have C0 := Lib.hid (hc.below BW_0.out)
  have hgw := hc.blk.2
  have hg1 : some w.heap.size ≠ some g := fun e => by cases e; omega
  have G0 : Hid (w.grownBy W0 (some g)) := grownBy_of_below BW_0.out _
  clear hc
  go_enter Try.func100, Try.ntmps100
  go_wp2_with fail
  rw [← hW0]
  clear hW0
  refine (spec_once 3 B g _ (by omega) (by omega) C0.out).mono ?_
  rintro e w1 ⟨⟨b, rfl⟩, hc1, hgb⟩
  have C1 := Lib.hid hc1
  have G1 := Lib.hid (grownBy_trans G0.out hgb)
  have hs_1 := Lib.hid (hs_0.out.grown hgb hg1)
  clear hc1 hgb
  cases b
  · go_wp2_with fail
    refine (spec_below 21 B g _ (by omega) (by omega) C1.out).mono ?_
    rintro e w2 ⟨⟨x, rfl, hx0, hx1⟩, hc2, hgb⟩
    have C2 := Lib.hid hc2
    have G2 := Lib.hid (grownBy_trans G1.out hgb)
    have hs_2 := Lib.hid (hs_1.out.grown hgb hg1)
    clear hc2 hgb
    go_wp2_with fail
    refine (spec_ratFromInt (x - 10) _ (by omega)).mono ?_
    rintro e w3 ⟨s, l, v, d, u, rfl, hq, q1, q2, hap, hb⟩
    obtain ⟨A2, c2, rfl⟩ := own_slice q1.2
    obtain ⟨B2, d2, rfl⟩ := own_slice q2.2
    have hs_3 := Lib.hid (hs_2.out.below hb hs_2.out.lt)
    have HF := Lib.hid (num_end (s := s) hs_3.out (small_of hq (by omega) (by omega)) hgw (C2.out.below hb) (gb_below G2.out hb) (Nat.le_of_lt hs_2.out.lt) q1 q2 hap)
    clear hq q1 q2 hap hb
    have ehs0 := hs_3.out.cell 0
    have ehs1 := hs_3.out.cell 1
    have ehs2 := hs_3.out.cell 2
    have fhs0 := hs_3.out.free 0
    have fhs1 := hs_3.out.free 1
    have fhs2 := hs_3.out.free 2
    simp at ehs0 ehs1 ehs2
    go_wp2_with fail
    refine bodyPost_ret (v := .agg #[.bool s, .slice A2 l.length c2, .slice B2 d.length d2]) (by simp [results, Try.results100, ehs0, ehs1, ehs2, go_sem]) rfl ?_
    exact HF.out
  · go_wp2_with fail
    refine (spec_below 41 B g _ (by omega) (by omega) C1.out).mono ?_
    rintro e w2 ⟨⟨x, rfl, hx0, hx1⟩, hc2, hgb⟩
    have C2 := Lib.hid hc2
    have G2 := Lib.hid (grownBy_trans G1.out hgb)
    have hs_2 := Lib.hid (hs_1.out.grown hgb hg1)
    clear hc2 hgb
    go_wp2_with fail
    refine (spec_below 6 B g _ (by omega) (by omega) C2.out).mono ?_
    rintro e w3 ⟨⟨y, rfl, hy0, hy1⟩, hc3, hgb⟩
    have C3 := Lib.hid hc3
    have G3 := Lib.hid (grownBy_trans G2.out hgb)
    have hs_3 := Lib.hid (hs_2.out.grown hgb hg1)
    clear hc3 hgb
    go_wp2_with fail
    refine (spec_ratOf (x - 20) (1 + y) _ (by omega) (by omega)).mono ?_
    rintro e w4 ⟨s, l, v, d, u, rfl, hq, q1, q2, hap, hb⟩
    obtain ⟨A2, c2, rfl⟩ := own_slice q1.2
    obtain ⟨B2, d2, rfl⟩ := own_slice q2.2
    have hs_4 := Lib.hid (hs_3.out.below hb hs_3.out.lt)
    have HF := Lib.hid (num_end (s := s) hs_4.out (small_of hq (by omega) (by omega)) hgw (C3.out.below hb) (gb_below G3.out hb) (Nat.le_of_lt hs_3.out.lt) q1 q2 hap)
    clear hq q1 q2 hap hb
    have ehs0 := hs_4.out.cell 0
    have ehs1 := hs_4.out.cell 1
    have ehs2 := hs_4.out.cell 2
    have fhs0 := hs_4.out.free 0
    have fhs1 := hs_4.out.free 1
    have fhs2 := hs_4.out.free 2
    simp at ehs0 ehs1 ehs2
    go_wp2_with fail
    refine bodyPost_ret (v := .agg #[.bool s, .slice A2 l.length c2, .slice B2 d.length d2]) (by simp [results, Try.results100, ehs0, ehs1, ehs2, go_sem]) rfl ?_
    exact HF.out
end Go.Proofs.Ythjbfdifeffilaa
