/- The walk of the law: for all arguments the law FnExactParseRat returns true: the program's ParseRat answers as the model's; no condition on them. -/
import Derived.Test.YtjggdbakbhacjaaGV
import Derived.Test.YtjggdbakbhacjaaRatP10
import Derived.ProofKit
import Derived.OpenShut
import Derived.ShutString
import Derived.Lib.SmallJoins
import Derived.HandedShaped
namespace Go.Proofs.Ytjggdbakbhacjaa.fnExactParseRat
set_option maxRecDepth 100000
open Go.ChangeShapes Go.WideShapes Go.ChangeAt Go.RowKit Go.Joins Go.Deep
open Go.ChangeMaps (open_string shut_string)

set_option maxRecDepth 100000 in
set_option maxHeartbeats 16000000 in
theorem walk {w : World} (a0 : ByteArray) (_ha0 : a0.size ≤ maxLen) (hmx : MaxAt w) :
    Calls Try.prog 3 #[.string a0] w fun e w' => e = .returned (.bool true) ∧ Below w.heap.size w w' := by
  have HMX := Lib.hid hmx
  clear hmx
  have BW0 : Hid (Below w.heap.size w w) := Below.refl _ _
  by_cases biga0 : 1048576 < (a0.size : Int)
  · go_enter Try.func3, Try.ntmps3
    go_wp2_with fail
    go_ret
    exact ⟨rfl, BW0.out⟩
  go_enter Try.func3, Try.ntmps3
  go_wp2_with fail
  refine (spec_parseRat a0 _ (by omega)).mono ?_
  rintro e w1 ⟨g1_0, r1_0, v0, q1_0, u0, r1_1, rfl, his, h0, k0, ap0, hb⟩
  have BW1 := Lib.hid (BW0.out.trans (hb.mono BW0.out.size))
  have sz1 : Hid (w.heap.size ≤ w1.heap.size) := hb.size
  have IS := Lib.hid his
  clear his
  obtain ⟨hl, h0⟩ := h0
  obtain ⟨hm, k0⟩ := k0
  obtain ⟨N0, hN⟩ : ∃ N, N = r1_0.length := ⟨_, rfl⟩
  obtain ⟨M0, hM⟩ : ∃ M, M = q1_0.length := ⟨_, rfl⟩
  rw [← hN] at hl h0
  rw [← hM] at hm k0
  have HN0 : Hid (r1_0.length = N0) := hN.symm
  have HM0 : Hid (q1_0.length = M0) := hM.symm
  have hl0 := hl
  have hm0 := hm
  clear hN hM hl hm
  obtain ⟨Aw0, cw0, rfl⟩ := own_slice h0
  obtain ⟨Bw0, dw0, rfl⟩ := own_slice k0
  have ho : (ratEl g1_0 Aw0 N0 cw0 (r1_0.map (.int .i64)) Bw0 M0 dw0 (q1_0.map (.int .i64))).own w1 w.heap.size := ⟨h0, k0, ap0⟩
  have Uw0 := Lib.hid ho.lt
  have Rw0_1 := Lib.hid ho.holds
  clear ho h0 k0 ap0
  clear hb
  have BW2 := Lib.hid (BW1.out.alloc BW1.out.size (.cells #[.bool g1_0, .slice Aw0 N0 cw0, .slice Bw0 M0 dw0] 26))
  have sz2 : Hid (w1.heap.size + 1 ≤ (w1.alloc (.cells #[.bool g1_0, .slice Aw0 N0 cw0, .slice Bw0 M0 dw0] 26)).heap.size) := Lib.hid (by simp)
  have Rw0_2 := Lib.hid (Rw0_1.out.alloc (.cells #[.bool g1_0, .slice Aw0 N0 cw0, .slice Bw0 M0 dw0] 26))
  have Xw0_2 := Lib.hid (Box.new w1 26 #[.bool g1_0, .slice Aw0 N0 cw0, .slice Bw0 M0 dw0])
  go_wp2_with fail
  refine (impl_parseRat a0 _ (by omega) (HMX.out.below BW2.out HMX.out.pos)).mono ?_
  rintro e w2 ⟨g2_0, r2_0, v0, q2_0, u0, r2_1, rfl, his, h0, k0, ap0, hb⟩
  have BW3 := Lib.hid (BW2.out.trans (hb.mono BW2.out.size))
  have sz3 : Hid ((w1.alloc (.cells #[.bool g1_0, .slice Aw0 N0 cw0, .slice Bw0 M0 dw0] 26)).heap.size ≤ w2.heap.size) := hb.size
  have Rw0_3 := Lib.hid (Rw0_2.out.below hb)
  have Xw0_3 := Lib.hid (Xw0_2.out.below hb Xw0_2.out.lt)
  obtain ⟨rfl, rfl, rfl, rfl⟩ := parseRat_unique IS.out his
  clear his
  obtain ⟨_, h0⟩ := h0
  obtain ⟨_, k0⟩ := k0
  rw [HN0.out] at h0
  rw [HM0.out] at k0
  obtain ⟨Ag0, cg0, rfl⟩ := own_slice h0
  obtain ⟨Bg0, dg0, rfl⟩ := own_slice k0
  have ho : (ratEl g1_0 Ag0 N0 cg0 (r1_0.map (.int .i64)) Bg0 M0 dg0 (q1_0.map (.int .i64))).own w2 (w1.alloc (.cells #[.bool g1_0, .slice Aw0 N0 cw0, .slice Bw0 M0 dw0] 26)).heap.size := ⟨h0, k0, ap0⟩
  have Ug0 := Lib.hid ho.lt
  have Rg0_3 := Lib.hid ho.holds
  clear ho h0 k0 ap0
  clear hb
  have BW4 := Lib.hid (BW3.out.alloc BW3.out.size (.cells #[.bool g1_0, .slice Ag0 N0 cg0, .slice Bg0 M0 dg0] 26))
  have sz4 : Hid (w2.heap.size + 1 ≤ (w2.alloc (.cells #[.bool g1_0, .slice Ag0 N0 cg0, .slice Bg0 M0 dg0] 26)).heap.size) := Lib.hid (by simp)
  have Rw0_4 := Lib.hid (Rw0_3.out.alloc (.cells #[.bool g1_0, .slice Ag0 N0 cg0, .slice Bg0 M0 dg0] 26))
  have Rg0_4 := Lib.hid (Rg0_3.out.alloc (.cells #[.bool g1_0, .slice Ag0 N0 cg0, .slice Bg0 M0 dg0] 26))
  have Xw0_4 := Lib.hid (Xw0_3.out.alloc (.cells #[.bool g1_0, .slice Ag0 N0 cg0, .slice Bg0 M0 dg0] 26))
  have Xg0_4 := Lib.hid (Box.new w2 26 #[.bool g1_0, .slice Ag0 N0 cg0, .slice Bg0 M0 dg0])
  have ew00a : w2.cell? ⟨w1.heap.size, 0, none⟩ = some (.bool g1_0) := Xw0_3.out.cell 0
  have ew01a : w2.cell? ⟨w1.heap.size, 1, none⟩ = some (.slice Aw0 N0 cw0) := Xw0_3.out.cell 1
  have ew02a : w2.cell? ⟨w1.heap.size, 2, none⟩ = some (.slice Bw0 M0 dw0) := Xw0_3.out.cell 2
  have ew00b : (w2.alloc (.cells #[.bool g1_0, .slice Ag0 N0 cg0, .slice Bg0 M0 dg0] 26)).cell? ⟨w1.heap.size, 0, none⟩ = some (.bool g1_0) := Xw0_4.out.cell 0
  have ew01b : (w2.alloc (.cells #[.bool g1_0, .slice Ag0 N0 cg0, .slice Bg0 M0 dg0] 26)).cell? ⟨w1.heap.size, 1, none⟩ = some (.slice Aw0 N0 cw0) := Xw0_4.out.cell 1
  have ew02b : (w2.alloc (.cells #[.bool g1_0, .slice Ag0 N0 cg0, .slice Bg0 M0 dg0] 26)).cell? ⟨w1.heap.size, 2, none⟩ = some (.slice Bw0 M0 dw0) := Xw0_4.out.cell 2
  have new00 : w2.heap.size ≠ w1.heap.size := (by have := Xw0_3.out.lt; omega)
  go_wp2_with fail
  clear ew00a ew01a ew02a ew00b ew01b ew02b new00
  refine (eqRat_same g1_0 Ag0 Aw0 N0 cg0 cw0 r1_0 Bg0 Bw0 M0 dg0 dw0 q1_0 _ HN0.out (by unfold maxLen; omega) (Reads.of_own (row1 Rg0_4)) (Reads.of_own (row1 Rw0_4)) HM0.out (by unfold maxLen; omega) (Reads.of_own (row2 Rg0_4)) (Reads.of_own (row2 Rw0_4))).mono ?_
  rintro e w3 ⟨rfl, hb⟩
  have BW5 := Lib.hid (BW4.out.trans (hb.mono BW4.out.size))
  have sz5 : Hid ((w2.alloc (.cells #[.bool g1_0, .slice Ag0 N0 cg0, .slice Bg0 M0 dg0] 26)).heap.size ≤ w3.heap.size) := hb.size
  have Rw0_5 := Lib.hid (Rw0_4.out.below hb)
  have Rg0_5 := Lib.hid (Rg0_4.out.below hb)
  have Xw0_5 := Lib.hid (Xw0_4.out.below hb Xw0_4.out.lt)
  have Xg0_5 := Lib.hid (Xg0_4.out.below hb Xg0_4.out.lt)
  clear hb
  have eg00a : w3.cell? ⟨w2.heap.size, 0, none⟩ = some (.bool g1_0) := Xg0_5.out.cell 0
  have eg01a : w3.cell? ⟨w2.heap.size, 1, none⟩ = some (.slice Ag0 N0 cg0) := Xg0_5.out.cell 1
  have eg02a : w3.cell? ⟨w2.heap.size, 2, none⟩ = some (.slice Bg0 M0 dg0) := Xg0_5.out.cell 2
  go_wp2_with fail
  clear eg00a eg01a eg02a
  refine (markRat_el _ g1_0 Ag0 N0 cg0 _ Bg0 M0 dg0 _ (1) _ (by unfold maxLen; omega) (enow Rg0_5) (ints_are _) (ints_are _)).mono ?_
  rintro e w4 ⟨rfl, ho, hW⟩
  have BW6 := Lib.hid (Wrote.below BW5.out hW (fun k hk => Nat.le_trans (Nat.le_trans sz1.out (Nat.le_of_succ_le sz2.out)) (Ug0.out k hk).1) (Nat.le_trans sz1.out (Nat.le_trans (Nat.le_of_succ_le sz2.out) (Nat.le_trans sz3.out (Nat.le_trans (Nat.le_of_succ_le sz4.out) sz5.out)))))
  have sz6 : Hid (w3.heap.size ≤ w4.heap.size) := hW.size
  have Rw0_6 := Lib.hid (Rw0_5.out.wrote hW (two_none Uw0 Ug0 (.inl (Nat.le_of_succ_le sz2.out))))
  have Xw0_6 := Lib.hid (Xw0_5.out.wrote hW Ug0 (.inl (Nat.lt_of_lt_of_le (Nat.lt_of_succ_le sz2.out) (Nat.le_refl _))))
  have Xg0_6 := Lib.hid (Xg0_5.out.wrote hW Ug0 (.inr (Nat.le_refl _)))
  have Rg0_6 := Lib.hid (El.own.holds_foot (xs := (r1_0.map (.int .i64))) (ys := (q1_0.map (.int .i64))) ho)
  clear ho hW
  have eg00a : w4.cell? ⟨w2.heap.size, 0, none⟩ = some (.bool g1_0) := Xg0_6.out.cell 0
  have eg01a : w4.cell? ⟨w2.heap.size, 1, none⟩ = some (.slice Ag0 N0 cg0) := Xg0_6.out.cell 1
  have eg02a : w4.cell? ⟨w2.heap.size, 2, none⟩ = some (.slice Bg0 M0 dg0) := Xg0_6.out.cell 2
  go_wp2_with fail
  clear eg00a eg01a eg02a
  refine (heldRat_same g1_0 Ag0 N0 cg0 Bg0 M0 dg0 (1) _ (by unfold maxLen; omega) (Reads.of_own (row1 Rg0_6)) (Reads.of_own (row2 Rg0_6))).mono ?_
  rintro e w5 ⟨rfl, hb⟩
  have BW7 := Lib.hid (BW6.out.trans (hb.mono BW6.out.size))
  have sz7 : Hid (w4.heap.size ≤ w5.heap.size) := hb.size
  have Rw0_7 := Lib.hid (Rw0_6.out.below hb)
  have Rg0_7 := Lib.hid (Rg0_6.out.below hb)
  have Xw0_7 := Lib.hid (Xw0_6.out.below hb Xw0_6.out.lt)
  have Xg0_7 := Lib.hid (Xg0_6.out.below hb Xg0_6.out.lt)
  clear hb
  go_wp2_with fail
  refine (impl_parseRat a0 _ (by omega) (HMX.out.below BW7.out HMX.out.pos)).mono ?_
  rintro e w6 ⟨g3_0, r3_0, v0, q3_0, u0, r3_1, rfl, his, h0, k0, ap0, hb⟩
  have BW8 := Lib.hid (BW7.out.trans (hb.mono BW7.out.size))
  have sz8 : Hid (w5.heap.size ≤ w6.heap.size) := hb.size
  have Rw0_8 := Lib.hid (Rw0_7.out.below hb)
  have Rg0_8 := Lib.hid (Rg0_7.out.below hb)
  have Xw0_8 := Lib.hid (Xw0_7.out.below hb Xw0_7.out.lt)
  have Xg0_8 := Lib.hid (Xg0_7.out.below hb Xg0_7.out.lt)
  obtain ⟨rfl, rfl, rfl, rfl⟩ := parseRat_unique IS.out his
  clear his
  obtain ⟨_, h0⟩ := h0
  obtain ⟨_, k0⟩ := k0
  rw [HN0.out] at h0
  rw [HM0.out] at k0
  obtain ⟨Ah0, ch0, rfl⟩ := own_slice h0
  obtain ⟨Bh0, dh0, rfl⟩ := own_slice k0
  have ho : (ratEl g1_0 Ah0 N0 ch0 (r1_0.map (.int .i64)) Bh0 M0 dh0 (q1_0.map (.int .i64))).own w6 w5.heap.size := ⟨h0, k0, ap0⟩
  have Uh0 := Lib.hid ho.lt
  have Rh0_8 := Lib.hid ho.holds
  clear ho h0 k0 ap0
  clear hb
  have BW9 := Lib.hid (BW8.out.alloc BW8.out.size (.cells #[.bool g1_0, .slice Ah0 N0 ch0, .slice Bh0 M0 dh0] 26))
  have sz9 : Hid (w6.heap.size + 1 ≤ (w6.alloc (.cells #[.bool g1_0, .slice Ah0 N0 ch0, .slice Bh0 M0 dh0] 26)).heap.size) := Lib.hid (by simp)
  have Rw0_9 := Lib.hid (Rw0_8.out.alloc (.cells #[.bool g1_0, .slice Ah0 N0 ch0, .slice Bh0 M0 dh0] 26))
  have Rg0_9 := Lib.hid (Rg0_8.out.alloc (.cells #[.bool g1_0, .slice Ah0 N0 ch0, .slice Bh0 M0 dh0] 26))
  have Rh0_9 := Lib.hid (Rh0_8.out.alloc (.cells #[.bool g1_0, .slice Ah0 N0 ch0, .slice Bh0 M0 dh0] 26))
  have Xw0_9 := Lib.hid (Xw0_8.out.alloc (.cells #[.bool g1_0, .slice Ah0 N0 ch0, .slice Bh0 M0 dh0] 26))
  have Xg0_9 := Lib.hid (Xg0_8.out.alloc (.cells #[.bool g1_0, .slice Ah0 N0 ch0, .slice Bh0 M0 dh0] 26))
  have Xh0_9 := Lib.hid (Box.new w6 26 #[.bool g1_0, .slice Ah0 N0 ch0, .slice Bh0 M0 dh0])
  have ew00a : w6.cell? ⟨w1.heap.size, 0, none⟩ = some (.bool g1_0) := Xw0_8.out.cell 0
  have ew01a : w6.cell? ⟨w1.heap.size, 1, none⟩ = some (.slice Aw0 N0 cw0) := Xw0_8.out.cell 1
  have ew02a : w6.cell? ⟨w1.heap.size, 2, none⟩ = some (.slice Bw0 M0 dw0) := Xw0_8.out.cell 2
  have ew00b : (w6.alloc (.cells #[.bool g1_0, .slice Ah0 N0 ch0, .slice Bh0 M0 dh0] 26)).cell? ⟨w1.heap.size, 0, none⟩ = some (.bool g1_0) := Xw0_9.out.cell 0
  have ew01b : (w6.alloc (.cells #[.bool g1_0, .slice Ah0 N0 ch0, .slice Bh0 M0 dh0] 26)).cell? ⟨w1.heap.size, 1, none⟩ = some (.slice Aw0 N0 cw0) := Xw0_9.out.cell 1
  have ew02b : (w6.alloc (.cells #[.bool g1_0, .slice Ah0 N0 ch0, .slice Bh0 M0 dh0] 26)).cell? ⟨w1.heap.size, 2, none⟩ = some (.slice Bw0 M0 dw0) := Xw0_9.out.cell 2
  have new00 : w6.heap.size ≠ w1.heap.size := (by have := Xw0_8.out.lt; omega)
  go_wp2_with fail
  clear ew00a ew01a ew02a ew00b ew01b ew02b new00
  refine (eqRat_same g1_0 Ah0 Aw0 N0 ch0 cw0 r1_0 Bh0 Bw0 M0 dh0 dw0 q1_0 _ HN0.out (by unfold maxLen; omega) (Reads.of_own (row1 Rh0_9)) (Reads.of_own (row1 Rw0_9)) HM0.out (by unfold maxLen; omega) (Reads.of_own (row2 Rh0_9)) (Reads.of_own (row2 Rw0_9))).mono ?_
  rintro e w7 ⟨rfl, hb⟩
  have BW10 := Lib.hid (BW9.out.trans (hb.mono BW9.out.size))
  have sz10 : Hid ((w6.alloc (.cells #[.bool g1_0, .slice Ah0 N0 ch0, .slice Bh0 M0 dh0] 26)).heap.size ≤ w7.heap.size) := hb.size
  have Rw0_10 := Lib.hid (Rw0_9.out.below hb)
  have Rg0_10 := Lib.hid (Rg0_9.out.below hb)
  have Rh0_10 := Lib.hid (Rh0_9.out.below hb)
  have Xw0_10 := Lib.hid (Xw0_9.out.below hb Xw0_9.out.lt)
  have Xg0_10 := Lib.hid (Xg0_9.out.below hb Xg0_9.out.lt)
  have Xh0_10 := Lib.hid (Xh0_9.out.below hb Xh0_9.out.lt)
  clear hb
  clear Rw0_10 Uw0 Xw0_10
  clear Rh0_10 Uh0 Xh0_10
  have eg00a : w7.cell? ⟨w2.heap.size, 0, none⟩ = some (.bool g1_0) := Xg0_10.out.cell 0
  have eg01a : w7.cell? ⟨w2.heap.size, 1, none⟩ = some (.slice Ag0 N0 cg0) := Xg0_10.out.cell 1
  have eg02a : w7.cell? ⟨w2.heap.size, 2, none⟩ = some (.slice Bg0 M0 dg0) := Xg0_10.out.cell 2
  go_wp2_with fail
  clear eg00a eg01a eg02a
  refine (heldRat_same g1_0 Ag0 N0 cg0 Bg0 M0 dg0 (1) _ (by unfold maxLen; omega) (Reads.of_own (row1 Rg0_10)) (Reads.of_own (row2 Rg0_10))).mono ?_
  rintro e w8 ⟨rfl, hb⟩
  have BW11 := Lib.hid (BW10.out.trans (hb.mono BW10.out.size))
  have sz11 : Hid (w7.heap.size ≤ w8.heap.size) := hb.size
  have Rg0_11 := Lib.hid (Rg0_10.out.below hb)
  have Xg0_11 := Lib.hid (Xg0_10.out.below hb Xg0_10.out.lt)
  clear hb
  clear Rg0_11 Ug0 Xg0_11
  go_wp2_with fail
  go_ret
  exact ⟨rfl, BW11.out⟩
end Go.Proofs.Ytjggdbakbhacjaa.fnExactParseRat
