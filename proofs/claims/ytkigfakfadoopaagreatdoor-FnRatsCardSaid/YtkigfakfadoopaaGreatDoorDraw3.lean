/- A contract of the model's draw of one fraction. -/
import Derived.Test.YtkigfakfadoopaaGreatDoorDraw
namespace Go.Proofs.YtkigfakfadoopaaGreatDoor
set_option maxRecDepth 100000
open Go.RowKit

set_option maxHeartbeats 3200000 in
theorem spec_makeRat (A : Option Addr) (n c m : Nat) (w : World) (hn : n ≤ 1048576) (hm : m ≤ 1000000) (hby : BytesIn w w.heap.size A n) :
    Calls Tryz.prog 4 #[.slice A n c, .int .i64 (m : Int)] w fun e w' => RatEnd (fun g l d => Small 20 ⟨g, l, d⟩) w w' e := by
  obtain ⟨W0, hW0⟩ : ∃ W, W = (w.alloc (.cells #[.bool false, .slice none 0 0, .slice none 0 0] 27)) := ⟨_, rfl⟩
  have hs_0 : Hid (Box W0 (w.heap.size) 27 #[.bool false, .slice none 0 0, .slice none 0 0]) := by rw [hW0]; exact (Box.at' (by simp))
  have BW_0 : Hid (Below w.heap.size w W0) := by rw [hW0]; exact ((Below.refl w.heap.size w).alloc (by simp) _)
  have hsz0 : w.heap.size + 1 ≤ W0.heap.size := by rw [hW0]; simp
  have Hby := Lib.hid (hby.keep2 BW_0.out)
  have hlt0 := hs_0.out.lt
  clear hby
  go_enter Tryz.func4, Tryz.ntmps4
  go_wp2_with fail
  rw [← hW0]
  clear hW0
  refine (spec_new32 A n c m _ hn hm Hby.out).mono ?_
  rintro e w1 ⟨g, rfl, hg, hcur, hb⟩
  have C1 := Lib.hid hcur
  have hs_1 := Lib.hid (hs_0.out.below hb hs_0.out.lt)
  have BW_1 := Lib.hid (BW_0.out.trans (hb.mono BW_0.out.size))
  clear hb
  have hsz1 := BW_1.out.size
  clear hcur
  go_wp2_with fail
  refine (spec_number W0.heap.size g _ C1.out).mono ?_
  rintro e w2 ⟨s, l, v, d, u, rfl, hsm, q1, q2, hap, hc2, hgb⟩
  obtain ⟨A2, c2, rfl⟩ := own_slice q1.2
  obtain ⟨B2, d2, rfl⟩ := own_slice q2.2
  have hs_2 := Lib.hid (hs_1.out.grown hgb (fun e => by cases e; omega))
  have BW_2 := Lib.hid (BW_1.out.grown hgb hsz1 (fun k hk => by cases hk; omega))
  have HF := Lib.hid (ratEnd_store (Q := fun g l d => Small 20 ⟨g, l, d⟩) hs_2.out (Nat.le_refl _) BW_2.out hsm rfl rfl q1.1 q2.1 q1.2 hsz1 q2.2 hsz1 hap)
  clear hsm q1 q2 hap hc2 hgb
  have ehs0 := hs_2.out.cell 0
  have ehs1 := hs_2.out.cell 1
  have ehs2 := hs_2.out.cell 2
  have fhs0 := hs_2.out.free 0
  have fhs1 := hs_2.out.free 1
  have fhs2 := hs_2.out.free 2
  simp at ehs0 ehs1 ehs2
  go_wp2_with fail
  refine bodyPost_ret (v := .agg #[.bool s, .slice A2 l.length c2, .slice B2 d.length d2]) (by simp [results, Tryz.results4, ehs0, ehs1, ehs2, go_sem]) rfl ?_
  exact HF.out
/-- A fraction that is read: its two rows of limbs. -/
structure RIn (w : World) (r : RD) (A : Option Addr) (c : Nat) (B : Option Addr) (d : Nat) : Prop where
  i : InI w A r.xs.length r.xs
  ra : Room A r.xs.length c
  j : InI w B r.ds.length r.ds
  rb : Room B r.ds.length d
theorem RIn.below {w w' : World} {r : RD} {A B : Option Addr} {c d : Nat} (h : RIn w r A c B d) (hb : Below w.heap.size w w') : RIn w' r A c B d := ⟨h.i.below hb, h.ra, h.j.below hb, h.rb⟩
theorem rat_arg {w w' : World} {v u : Value} {r : RD} (h1 : ResI w w' v r.xs) (h2 : ResI w w' u r.ds) (hk : r.ok) : ∃ A c B d, v = .slice A r.xs.length c ∧ u = .slice B r.ds.length d ∧ RIn w' r A c B d := by
  obtain ⟨A, c, rfl⟩ := own_slice h1.2
  obtain ⟨B, d, rfl⟩ := own_slice h2.2
  have h24 := hk.2.2.2.2
  exact ⟨A, c, B, d, rfl, rfl, ⟨rfl, by have := h24.1; omega, Reads.of_own h1.2, limbs_bd hk.1.1.1.1⟩, room_own h1.2, ⟨rfl, by have := h24.2; omega, Reads.of_own h2.2, limbs_bd hk.2.1.1.1⟩, room_own h2.2⟩
end Go.Proofs.YtkigfakfadoopaaGreatDoor
