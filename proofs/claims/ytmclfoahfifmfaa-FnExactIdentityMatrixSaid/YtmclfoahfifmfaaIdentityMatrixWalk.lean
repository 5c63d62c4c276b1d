/- The walk of the law: for all arguments the law FnExactIdentityMatrix returns true: the program's IdentityMatrix answers as the model's; no condition on them. -/
import Derived.Test.YtmclfoahfifmfaaGV
import Derived.Test.YtmclfoahfifmfaaMatMem
import Derived.Test.YtmclfoahfifmfaaMatS3
import Derived.Test.YtmclfoahfifmfaaMatI3
import Derived.ProofKit
import Derived.OpenShut
import Derived.ShutString
import Derived.Lib.SmallJoins
namespace Go.Proofs.Ytmclfoahfifmfaa.fnExactIdentityMatrix
set_option maxRecDepth 100000
open Go.ChangeShapes Go.WideShapes Go.ChangeAt Go.RowKit Go.Joins Go.Deep
open Go.ChangeMaps (open_string shut_string)

set_option maxRecDepth 100000 in
set_option maxHeartbeats 16000000 in
theorem walk {w : World} (a0 : Int) (ha0 : (Lit.int .i64 a0).wf = true) :
    Calls Try.prog 6 #[.int .i64 a0] w fun e w' => e = .returned (.bool true) ∧ Below w.heap.size w w' := by
  have Ba0 := bounds_i64 ha0
  clear ha0
  have BW0 : Hid (Below w.heap.size w w) := Below.refl _ _
  go_enter Try.func6, Try.ntmps6
  go_wp2_with fail
  refine (spec_identityMatrix a0 _ Ba0).mono ?_
  rintro e w1 ⟨p1_0, q1_0, r1_0, v0, rfl, his, h0, hb⟩
  have BW1 := Lib.hid (BW0.out.trans (hb.mono BW0.out.size))
  have sz1 : Hid (w.heap.size ≤ w1.heap.size) := hb.size
  have IS := Lib.hid his
  clear his
  obtain ⟨hl, hf, Lw0, ho, hh⟩ := h0
  obtain ⟨N0, hN⟩ : ∃ N, N = r1_0.length := ⟨_, rfl⟩
  rw [← hN] at hl ho
  have HN0 : Hid (r1_0.length = N0) := hN.symm
  have hl0 := hl
  have Ftr1_0 := Lib.hid hf
  clear hN hl hf
  obtain ⟨Aw0, cw0, rfl⟩ := ho.slice
  have Uw0 := Lib.hid ho.lt
  have Rw0_1 := Lib.hid ho.holds
  have HHw0 := Lib.hid hh
  obtain ⟨mw0, hmw0⟩ : ∃ m, m = mtot Lw0 := ⟨_, rfl⟩
  have Mw0 : Hid (mw0 = N0 + tot r1_0) := Lib.hid (by have := mtot_has hh; have := HN0.out; omega)
  have Qw0 : Hid (mtot Lw0 = mw0) := hmw0.symm
  clear hmw0
  clear ho hh
  clear hb
  have BW2 := Lib.hid (BW1.out.alloc BW1.out.size (.cells #[.int .i64 p1_0, .int .i64 q1_0, .slice Aw0 N0 cw0] 25))
  have sz2 : Hid (w1.heap.size + 1 ≤ (w1.alloc (.cells #[.int .i64 p1_0, .int .i64 q1_0, .slice Aw0 N0 cw0] 25)).heap.size) := Lib.hid (by simp)
  have Rw0_2 := Lib.hid (Rw0_1.out.alloc (.cells #[.int .i64 p1_0, .int .i64 q1_0, .slice Aw0 N0 cw0] 25))
  have Xw0_2 := Lib.hid (Box.new w1 25 #[.int .i64 p1_0, .int .i64 q1_0, .slice Aw0 N0 cw0])
  go_wp2_with fail
  refine (impl_identityMatrix a0 _ Ba0).mono ?_
  rintro e w2 ⟨p2_0, q2_0, r2_0, v0, rfl, his, h0, hb⟩
  have BW3 := Lib.hid (BW2.out.trans (hb.mono BW2.out.size))
  have sz3 : Hid ((w1.alloc (.cells #[.int .i64 p1_0, .int .i64 q1_0, .slice Aw0 N0 cw0] 25)).heap.size ≤ w2.heap.size) := hb.size
  have Rw0_3 := Lib.hid (Rw0_2.out.below hb)
  have Xw0_3 := Lib.hid (Xw0_2.out.below hb Xw0_2.out.lt)
  obtain ⟨rfl, rfl, rfl⟩ := identityMatrix_unique IS.out his
  clear his
  obtain ⟨_, _, Lg0, ho, hh⟩ := h0
  rw [HN0.out] at ho
  obtain ⟨Ag0, cg0, rfl⟩ := ho.slice
  have Ug0 := Lib.hid ho.lt
  have Rg0_3 := Lib.hid ho.holds
  have HHg0 := Lib.hid hh
  obtain ⟨mg0, hmg0⟩ : ∃ m, m = mtot Lg0 := ⟨_, rfl⟩
  have Mg0 : Hid (mg0 = N0 + tot r1_0) := Lib.hid (by have := mtot_has hh; have := HN0.out; omega)
  have Qg0 : Hid (mtot Lg0 = mg0) := hmg0.symm
  clear hmg0
  clear ho hh
  clear hb
  have BW4 := Lib.hid (BW3.out.alloc BW3.out.size (.cells #[.int .i64 p1_0, .int .i64 q1_0, .slice Ag0 N0 cg0] 25))
  have sz4 : Hid (w2.heap.size + 1 ≤ (w2.alloc (.cells #[.int .i64 p1_0, .int .i64 q1_0, .slice Ag0 N0 cg0] 25)).heap.size) := Lib.hid (by simp)
  have Rw0_4 := Lib.hid (Rw0_3.out.alloc (.cells #[.int .i64 p1_0, .int .i64 q1_0, .slice Ag0 N0 cg0] 25))
  have Rg0_4 := Lib.hid (Rg0_3.out.alloc (.cells #[.int .i64 p1_0, .int .i64 q1_0, .slice Ag0 N0 cg0] 25))
  have Xw0_4 := Lib.hid (Xw0_3.out.alloc (.cells #[.int .i64 p1_0, .int .i64 q1_0, .slice Ag0 N0 cg0] 25))
  have Xg0_4 := Lib.hid (Box.new w2 25 #[.int .i64 p1_0, .int .i64 q1_0, .slice Ag0 N0 cg0])
  have ew00a : w2.cell? ⟨w1.heap.size, 0, none⟩ = some (.int .i64 p1_0) := Xw0_3.out.cell 0
  have ew01a : w2.cell? ⟨w1.heap.size, 1, none⟩ = some (.int .i64 q1_0) := Xw0_3.out.cell 1
  have ew02a : w2.cell? ⟨w1.heap.size, 2, none⟩ = some (.slice Aw0 N0 cw0) := Xw0_3.out.cell 2
  have ew00b : (w2.alloc (.cells #[.int .i64 p1_0, .int .i64 q1_0, .slice Ag0 N0 cg0] 25)).cell? ⟨w1.heap.size, 0, none⟩ = some (.int .i64 p1_0) := Xw0_4.out.cell 0
  have ew01b : (w2.alloc (.cells #[.int .i64 p1_0, .int .i64 q1_0, .slice Ag0 N0 cg0] 25)).cell? ⟨w1.heap.size, 1, none⟩ = some (.int .i64 q1_0) := Xw0_4.out.cell 1
  have ew02b : (w2.alloc (.cells #[.int .i64 p1_0, .int .i64 q1_0, .slice Ag0 N0 cg0] 25)).cell? ⟨w1.heap.size, 2, none⟩ = some (.slice Aw0 N0 cw0) := Xw0_4.out.cell 2
  have new00 : w2.heap.size ≠ w1.heap.size := (by have := Xw0_3.out.lt; omega)
  go_wp2_with fail
  clear ew00a ew01a ew02a ew00b ew01b ew02b new00
  refine (eqMatrix_same p1_0 q1_0 Ag0 Aw0 N0 cg0 cw0 r1_0 _ (vin Rg0_4 HHg0 (by omega) Ftr1_0) (vin Rw0_4 HHw0 (by omega) Ftr1_0)).mono ?_
  rintro e w3 ⟨rfl, hb⟩
  have BW5 := Lib.hid (BW4.out.trans (hb.mono BW4.out.size))
  have sz5 : Hid ((w2.alloc (.cells #[.int .i64 p1_0, .int .i64 q1_0, .slice Ag0 N0 cg0] 25)).heap.size ≤ w3.heap.size) := hb.size
  have Rw0_5 := Lib.hid (Rw0_4.out.below hb)
  have Rg0_5 := Lib.hid (Rg0_4.out.below hb)
  have Xw0_5 := Lib.hid (Xw0_4.out.below hb Xw0_4.out.lt)
  have Xg0_5 := Lib.hid (Xg0_4.out.below hb Xg0_4.out.lt)
  clear hb
  have eg00a : w3.cell? ⟨w2.heap.size, 0, none⟩ = some (.int .i64 p1_0) := Xg0_5.out.cell 0
  have eg01a : w3.cell? ⟨w2.heap.size, 1, none⟩ = some (.int .i64 q1_0) := Xg0_5.out.cell 1
  have eg02a : w3.cell? ⟨w2.heap.size, 2, none⟩ = some (.slice Ag0 N0 cg0) := Xg0_5.out.cell 2
  go_wp2_with fail
  clear eg00a eg01a eg02a
  refine (markMatrix_m _ p1_0 q1_0 Ag0 N0 cg0 (1) mg0 Lg0 r1_0 _ Qg0 (by have := Mg0.out; unfold maxLen; omega) (vnow Rg0_5) HHg0.out).mono ?_
  rintro e w4 ⟨rfl, ho, hW⟩
  have BW6 := Lib.hid (Wrote.below BW5.out hW (fun k hk => Nat.le_trans (Nat.le_trans sz1.out (Nat.le_of_succ_le sz2.out)) (Ug0.out k hk).1) (Nat.le_trans sz1.out (Nat.le_trans (Nat.le_of_succ_le sz2.out) (Nat.le_trans sz3.out (Nat.le_trans (Nat.le_of_succ_le sz4.out) sz5.out)))))
  have sz6 : Hid (w3.heap.size ≤ w4.heap.size) := hW.size
  have Rw0_6 := Lib.hid (Rw0_5.out.wrote hW (two_none Uw0 Ug0 (.inl (Nat.le_of_succ_le sz2.out))))
  have Xw0_6 := Lib.hid (Xw0_5.out.wroteV Rg0_5.out.now hW)
  have Xg0_6 := Lib.hid (Xg0_5.out.wroteV Rg0_5.out.now hW)
  have Rg0_6 := Lib.hid ho.holds_marked
  clear ho hW
  have eg00a : w4.cell? ⟨w2.heap.size, 0, none⟩ = some (.int .i64 p1_0) := Xg0_6.out.cell 0
  have eg01a : w4.cell? ⟨w2.heap.size, 1, none⟩ = some (.int .i64 q1_0) := Xg0_6.out.cell 1
  have eg02a : w4.cell? ⟨w2.heap.size, 2, none⟩ = some (.slice Ag0 N0 cg0) := Xg0_6.out.cell 2
  go_wp2_with fail
  clear eg00a eg01a eg02a
  refine (heldMatrix_m _ p1_0 q1_0 Ag0 N0 cg0 (1) mg0 Lg0 _ Qg0 (by have := Mg0.out; unfold maxLen; omega) (vnow Rg0_6)).mono ?_
  rintro e w5 ⟨rfl, hb⟩
  have BW7 := Lib.hid (BW6.out.trans (hb.mono BW6.out.size))
  have sz7 : Hid (w4.heap.size ≤ w5.heap.size) := hb.size
  have Rw0_7 := Lib.hid (Rw0_6.out.below hb)
  have Rg0_7 := Lib.hid (Rg0_6.out.below hb)
  have Xw0_7 := Lib.hid (Xw0_6.out.below hb Xw0_6.out.lt)
  have Xg0_7 := Lib.hid (Xg0_6.out.below hb Xg0_6.out.lt)
  clear hb
  go_wp2_with fail
  refine (impl_identityMatrix a0 _ Ba0).mono ?_
  rintro e w6 ⟨p3_0, q3_0, r3_0, v0, rfl, his, h0, hb⟩
  have BW8 := Lib.hid (BW7.out.trans (hb.mono BW7.out.size))
  have sz8 : Hid (w5.heap.size ≤ w6.heap.size) := hb.size
  have Rw0_8 := Lib.hid (Rw0_7.out.below hb)
  have Rg0_8 := Lib.hid (Rg0_7.out.below hb)
  have Xw0_8 := Lib.hid (Xw0_7.out.below hb Xw0_7.out.lt)
  have Xg0_8 := Lib.hid (Xg0_7.out.below hb Xg0_7.out.lt)
  obtain ⟨rfl, rfl, rfl⟩ := identityMatrix_unique IS.out his
  clear his
  obtain ⟨_, _, Lh0, ho, hh⟩ := h0
  rw [HN0.out] at ho
  obtain ⟨Ah0, ch0, rfl⟩ := ho.slice
  have Uh0 := Lib.hid ho.lt
  have Rh0_8 := Lib.hid ho.holds
  have HHh0 := Lib.hid hh
  obtain ⟨mh0, hmh0⟩ : ∃ m, m = mtot Lh0 := ⟨_, rfl⟩
  have Mh0 : Hid (mh0 = N0 + tot r1_0) := Lib.hid (by have := mtot_has hh; have := HN0.out; omega)
  have Qh0 : Hid (mtot Lh0 = mh0) := hmh0.symm
  clear hmh0
  clear ho hh
  clear hb
  have BW9 := Lib.hid (BW8.out.alloc BW8.out.size (.cells #[.int .i64 p1_0, .int .i64 q1_0, .slice Ah0 N0 ch0] 25))
  have sz9 : Hid (w6.heap.size + 1 ≤ (w6.alloc (.cells #[.int .i64 p1_0, .int .i64 q1_0, .slice Ah0 N0 ch0] 25)).heap.size) := Lib.hid (by simp)
  have Rw0_9 := Lib.hid (Rw0_8.out.alloc (.cells #[.int .i64 p1_0, .int .i64 q1_0, .slice Ah0 N0 ch0] 25))
  have Rg0_9 := Lib.hid (Rg0_8.out.alloc (.cells #[.int .i64 p1_0, .int .i64 q1_0, .slice Ah0 N0 ch0] 25))
  have Rh0_9 := Lib.hid (Rh0_8.out.alloc (.cells #[.int .i64 p1_0, .int .i64 q1_0, .slice Ah0 N0 ch0] 25))
  have Xw0_9 := Lib.hid (Xw0_8.out.alloc (.cells #[.int .i64 p1_0, .int .i64 q1_0, .slice Ah0 N0 ch0] 25))
  have Xg0_9 := Lib.hid (Xg0_8.out.alloc (.cells #[.int .i64 p1_0, .int .i64 q1_0, .slice Ah0 N0 ch0] 25))
  have Xh0_9 := Lib.hid (Box.new w6 25 #[.int .i64 p1_0, .int .i64 q1_0, .slice Ah0 N0 ch0])
  have ew00a : w6.cell? ⟨w1.heap.size, 0, none⟩ = some (.int .i64 p1_0) := Xw0_8.out.cell 0
  have ew01a : w6.cell? ⟨w1.heap.size, 1, none⟩ = some (.int .i64 q1_0) := Xw0_8.out.cell 1
  have ew02a : w6.cell? ⟨w1.heap.size, 2, none⟩ = some (.slice Aw0 N0 cw0) := Xw0_8.out.cell 2
  have ew00b : (w6.alloc (.cells #[.int .i64 p1_0, .int .i64 q1_0, .slice Ah0 N0 ch0] 25)).cell? ⟨w1.heap.size, 0, none⟩ = some (.int .i64 p1_0) := Xw0_9.out.cell 0
  have ew01b : (w6.alloc (.cells #[.int .i64 p1_0, .int .i64 q1_0, .slice Ah0 N0 ch0] 25)).cell? ⟨w1.heap.size, 1, none⟩ = some (.int .i64 q1_0) := Xw0_9.out.cell 1
  have ew02b : (w6.alloc (.cells #[.int .i64 p1_0, .int .i64 q1_0, .slice Ah0 N0 ch0] 25)).cell? ⟨w1.heap.size, 2, none⟩ = some (.slice Aw0 N0 cw0) := Xw0_9.out.cell 2
  have new00 : w6.heap.size ≠ w1.heap.size := (by have := Xw0_8.out.lt; omega)
  go_wp2_with fail
  clear ew00a ew01a ew02a ew00b ew01b ew02b new00
  refine (eqMatrix_same p1_0 q1_0 Ah0 Aw0 N0 ch0 cw0 r1_0 _ (vin Rh0_9 HHh0 (by omega) Ftr1_0) (vin Rw0_9 HHw0 (by omega) Ftr1_0)).mono ?_
  rintro e w7 ⟨rfl, hb⟩
  have BW10 := Lib.hid (BW9.out.trans (hb.mono BW9.out.size))
  have sz10 : Hid ((w6.alloc (.cells #[.int .i64 p1_0, .int .i64 q1_0, .slice Ah0 N0 ch0] 25)).heap.size ≤ w7.heap.size) := hb.size
  have Rw0_10 := Lib.hid (Rw0_9.out.below hb)
  have Rg0_10 := Lib.hid (Rg0_9.out.below hb)
  have Rh0_10 := Lib.hid (Rh0_9.out.below hb)
  have Xw0_10 := Lib.hid (Xw0_9.out.below hb Xw0_9.out.lt)
  have Xg0_10 := Lib.hid (Xg0_9.out.below hb Xg0_9.out.lt)
  have Xh0_10 := Lib.hid (Xh0_9.out.below hb Xh0_9.out.lt)
  clear hb
  clear Rw0_10 Uw0 Xw0_10
  clear Rh0_10 Uh0 Xh0_10
  have eg00a : w7.cell? ⟨w2.heap.size, 0, none⟩ = some (.int .i64 p1_0) := Xg0_10.out.cell 0
  have eg01a : w7.cell? ⟨w2.heap.size, 1, none⟩ = some (.int .i64 q1_0) := Xg0_10.out.cell 1
  have eg02a : w7.cell? ⟨w2.heap.size, 2, none⟩ = some (.slice Ag0 N0 cg0) := Xg0_10.out.cell 2
  go_wp2_with fail
  clear eg00a eg01a eg02a
  refine (heldMatrix_m _ p1_0 q1_0 Ag0 N0 cg0 (1) mg0 Lg0 _ Qg0 (by have := Mg0.out; unfold maxLen; omega) (vnow Rg0_10)).mono ?_
  rintro e w8 ⟨rfl, hb⟩
  have BW11 := Lib.hid (BW10.out.trans (hb.mono BW10.out.size))
  have sz11 : Hid (w7.heap.size ≤ w8.heap.size) := hb.size
  have Rg0_11 := Lib.hid (Rg0_10.out.below hb)
  have Xg0_11 := Lib.hid (Xg0_10.out.below hb Xg0_10.out.lt)
  clear hb
  clear Rg0_11 Ug0 Xg0_11
  go_wp2_with fail
  go_ret
  exact ⟨rfl, BW11.out⟩
end Go.Proofs.Ytmclfoahfifmfaa.fnExactIdentityMatrix
