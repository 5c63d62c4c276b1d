/- The walk of the law: for all arguments the law FnExactRatFromInt returns true: the program's RatFromInt answers as the model's; no condition on them. -/
import Derived.Test.YtbfanjalinkmhaaRatLaw
import Derived.Test.YtbfanjalinkmhaaRatS6
import Derived.ProofKit
import Derived.OpenShut
import Derived.ShutString
import Derived.Lib.SmallJoins
namespace Go.Proofs.Ytbfanjalinkmhaa.fnExactRatFromInt
set_option maxRecDepth 100000
open Go.ChangeShapes Go.WideShapes Go.ChangeAt Go.RowKit Go.Joins Go.Deep
open Go.ChangeMaps (open_string shut_string)

set_option maxRecDepth 100000 in
set_option maxHeartbeats 16000000 in
theorem walk {w : World} (a0 : Int) (ha0 : (Lit.int .i64 a0).wf = true) :
    Calls Try.prog 6 #[.int .i64 a0] w fun e w' => e = .returned (.bool true) ∧ Below w.heap.size w w' := by
  have Ba0 := bounds_i64 ha0
  clear ha0
  have BW0 : Hid (Below w.heap.size w w) := Below.refl _ _
  go_enter Try.func6, Try.ntmps6
  go_wp2_with fail
  refine (spec_ratFromInt a0 _ Ba0).mono ?_
  rintro e w1 ⟨r1_00, r1_01, v1_01, r1_02, v1_02, rfl, his, ho01, ho02, hap10, hb⟩
  have BW1 := Lib.hid (BW0.out.trans (hb.mono BW0.out.size))
  have sz1 : w.heap.size ≤ w1.heap.size := hb.size
  clear hb
  have IS := Lib.hid his
  clear his
  obtain ⟨hl, ho01⟩ := ho01
  obtain ⟨N01, hN⟩ : ∃ N, N = r1_01.length := ⟨_, rfl⟩
  rw [← hN] at hl ho01
  have HN01 := Lib.hid hN.symm
  have hl01 := hl
  clear hN hl
  obtain ⟨hl, ho02⟩ := ho02
  obtain ⟨N02, hN⟩ : ∃ N, N = r1_02.length := ⟨_, rfl⟩
  rw [← hN] at hl ho02
  have HN02 := Lib.hid hN.symm
  have hl02 := hl
  clear hN hl
  obtain ⟨Aw0m, cw0m, rfl⟩ := own_slice ho01
  have Uw0m := Lib.hid (fun k (hk : (Value.slice Aw0m N01 cw0m).ownBlock = some k) => (ho01.lt k hk).2)
  have Ow0m_1 := Lib.hid ho01
  clear ho01
  obtain ⟨Aw0d, cw0d, rfl⟩ := own_slice ho02
  have Uw0d := Lib.hid (fun k (hk : (Value.slice Aw0d N02 cw0d).ownBlock = some k) => (ho02.lt k hk).2)
  have Ow0d_1 := Lib.hid ho02
  clear ho02
  have APw0d_w0m := Lib.hid hap10
  have APw0m_w0d := Lib.hid hap10.symm
  clear hap10
  have BW2 := Lib.hid (BW1.out.alloc BW1.out.size (.cells #[.bool r1_00, .slice Aw0m N01 cw0m, .slice Aw0d N02 cw0d] 31))
  have sz2 : w1.heap.size ≤ (w1.alloc (.cells #[.bool r1_00, .slice Aw0m N01 cw0m, .slice Aw0d N02 cw0d] 31)).heap.size := (by simp)
  have Ow0m_2 := Lib.hid (Ow0m_1.out.alloc (.cells #[.bool r1_00, .slice Aw0m N01 cw0m, .slice Aw0d N02 cw0d] 31))
  have Ow0d_2 := Lib.hid (Ow0d_1.out.alloc (.cells #[.bool r1_00, .slice Aw0m N01 cw0m, .slice Aw0d N02 cw0d] 31))
  have Xw0_2 := Lib.hid (Box.new w1 31 #[.bool r1_00, .slice Aw0m N01 cw0m, .slice Aw0d N02 cw0d])
  go_wp2_with fail
  refine (impl_ratFromInt a0 _ Ba0).mono ?_
  rintro e w2 ⟨r2_00, r2_01, v2_01, r2_02, v2_02, rfl, his, ho01, ho02, hap10, hb⟩
  have BW3 := Lib.hid (BW2.out.trans (hb.mono BW2.out.size))
  have sz3 : (w1.alloc (.cells #[.bool r1_00, .slice Aw0m N01 cw0m, .slice Aw0d N02 cw0d] 31)).heap.size ≤ w2.heap.size := hb.size
  have Ow0m_3 := Lib.hid (own_below Ow0m_2.out hb)
  have Ow0d_3 := Lib.hid (own_below Ow0d_2.out hb)
  have Xw0_3 := Lib.hid (Xw0_2.out.below hb Xw0_2.out.lt)
  clear hb
  obtain ⟨rfl, rfl, rfl⟩ := ratFromInt_unique IS.out his
  clear his
  replace ho01 := ho01.2
  rw [HN01.out] at ho01
  replace ho02 := ho02.2
  rw [HN02.out] at ho02
  obtain ⟨Ag0m, cg0m, rfl⟩ := own_slice ho01
  have Ug0m := Lib.hid (fun k (hk : (Value.slice Ag0m N01 cg0m).ownBlock = some k) => (ho01.lt k hk).2)
  have Og0m_3 := Lib.hid ho01
  clear ho01
  obtain ⟨Ag0d, cg0d, rfl⟩ := own_slice ho02
  have Ug0d := Lib.hid (fun k (hk : (Value.slice Ag0d N02 cg0d).ownBlock = some k) => (ho02.lt k hk).2)
  have Og0d_3 := Lib.hid ho02
  clear ho02
  have APg0d_g0m := Lib.hid hap10
  have APg0m_g0d := Lib.hid hap10.symm
  clear hap10
  have BW4 := Lib.hid (BW3.out.alloc BW3.out.size (.cells #[.bool r1_00, .slice Ag0m N01 cg0m, .slice Ag0d N02 cg0d] 31))
  have sz4 : w2.heap.size ≤ (w2.alloc (.cells #[.bool r1_00, .slice Ag0m N01 cg0m, .slice Ag0d N02 cg0d] 31)).heap.size := (by simp)
  have Ow0m_4 := Lib.hid (Ow0m_3.out.alloc (.cells #[.bool r1_00, .slice Ag0m N01 cg0m, .slice Ag0d N02 cg0d] 31))
  have Ow0d_4 := Lib.hid (Ow0d_3.out.alloc (.cells #[.bool r1_00, .slice Ag0m N01 cg0m, .slice Ag0d N02 cg0d] 31))
  have Og0m_4 := Lib.hid (Og0m_3.out.alloc (.cells #[.bool r1_00, .slice Ag0m N01 cg0m, .slice Ag0d N02 cg0d] 31))
  have Og0d_4 := Lib.hid (Og0d_3.out.alloc (.cells #[.bool r1_00, .slice Ag0m N01 cg0m, .slice Ag0d N02 cg0d] 31))
  have Xw0_4 := Lib.hid (Xw0_3.out.alloc (.cells #[.bool r1_00, .slice Ag0m N01 cg0m, .slice Ag0d N02 cg0d] 31))
  have Xg0_4 := Lib.hid (Box.new w2 31 #[.bool r1_00, .slice Ag0m N01 cg0m, .slice Ag0d N02 cg0d])
  have ew00a : w2.cell? ⟨w1.heap.size, 0, none⟩ = some (.bool r1_00) := Xw0_3.out.cell 0
  have ew01a : w2.cell? ⟨w1.heap.size, 1, none⟩ = some (.slice Aw0m N01 cw0m) := Xw0_3.out.cell 1
  have ew02a : w2.cell? ⟨w1.heap.size, 2, none⟩ = some (.slice Aw0d N02 cw0d) := Xw0_3.out.cell 2
  have ew00b : (w2.alloc (.cells #[.bool r1_00, .slice Ag0m N01 cg0m, .slice Ag0d N02 cg0d] 31)).cell? ⟨w1.heap.size, 0, none⟩ = some (.bool r1_00) := Xw0_4.out.cell 0
  have ew01b : (w2.alloc (.cells #[.bool r1_00, .slice Ag0m N01 cg0m, .slice Ag0d N02 cg0d] 31)).cell? ⟨w1.heap.size, 1, none⟩ = some (.slice Aw0m N01 cw0m) := Xw0_4.out.cell 1
  have ew02b : (w2.alloc (.cells #[.bool r1_00, .slice Ag0m N01 cg0m, .slice Ag0d N02 cg0d] 31)).cell? ⟨w1.heap.size, 2, none⟩ = some (.slice Aw0d N02 cw0d) := Xw0_4.out.cell 2
  have new00 : w2.heap.size ≠ w1.heap.size := (by have := Xw0_3.out.lt; omega)
  go_wp2_with fail
  clear ew00a ew01a ew02a ew00b ew01b ew02b new00
  refine (eqRat_same r1_00 Ag0m Aw0m N01 cg0m cw0m r1_01 Ag0d Aw0d N02 cg0d cw0d r1_02 _ HN01.out (by unfold maxLen; omega) (Reads.of_own Og0m_4.out) (Reads.of_own Ow0m_4.out) HN02.out (by unfold maxLen; omega) (Reads.of_own Og0d_4.out) (Reads.of_own Ow0d_4.out)).mono ?_
  rintro e w3 ⟨rfl, hb⟩
  have BW5 := Lib.hid (BW4.out.trans (hb.mono BW4.out.size))
  have sz5 : (w2.alloc (.cells #[.bool r1_00, .slice Ag0m N01 cg0m, .slice Ag0d N02 cg0d] 31)).heap.size ≤ w3.heap.size := hb.size
  have Ow0m_5 := Lib.hid (own_below Ow0m_4.out hb)
  have Ow0d_5 := Lib.hid (own_below Ow0d_4.out hb)
  have Og0m_5 := Lib.hid (own_below Og0m_4.out hb)
  have Og0d_5 := Lib.hid (own_below Og0d_4.out hb)
  have Xw0_5 := Lib.hid (Xw0_4.out.below hb Xw0_4.out.lt)
  have Xg0_5 := Lib.hid (Xg0_4.out.below hb Xg0_4.out.lt)
  clear hb
  have eg00a : w3.cell? ⟨w2.heap.size, 0, none⟩ = some (.bool r1_00) := Xg0_5.out.cell 0
  have eg01a : w3.cell? ⟨w2.heap.size, 1, none⟩ = some (.slice Ag0m N01 cg0m) := Xg0_5.out.cell 1
  have eg02a : w3.cell? ⟨w2.heap.size, 2, none⟩ = some (.slice Ag0d N02 cg0d) := Xg0_5.out.cell 2
  go_wp2_with fail
  clear eg00a eg01a eg02a
  refine (markRat_own r1_00 _ _ Ag0m N01 cg0m Ag0d N02 cg0d (1) _ _ _ (by unfold maxLen; omega) Og0m_5.out (ints_are _) Og0d_5.out (ints_are _) APg0d_g0m.out).mono ?_
  rintro e w5 ⟨w4, rfl, ho, hg, hoz, hgz⟩
  have BW6 := Lib.hid (below_marked BW5.out Og0m_5.out hg (by omega) (by omega))
  have sz6 : w3.heap.size ≤ w4.heap.size := hg.size
  have Ow0m_6 := Lib.hid (Ow0m_5.out.kept hg (own_apart Ow0m_5.out Uw0m.out Og0m_5.out Ug0m.out (.inl (by omega))))
  have Ow0d_6 := Lib.hid (Ow0d_5.out.kept hg (own_apart Ow0d_5.out Uw0d.out Og0m_5.out Ug0m.out (.inl (by omega))))
  have Og0d_6 := Lib.hid (Og0d_5.out.kept hg (apart_of APg0d_g0m.out))
  have Xw0_6 := Lib.hid (Xw0_5.out.grown hg (ne_own Xw0_5.out Og0m_5.out))
  have Xg0_6 := Lib.hid (Xg0_5.out.grown hg (ne_own Xg0_5.out Og0m_5.out))
  have Og0m_6 := Lib.hid ho
  clear ho hg
  have BW7 := Lib.hid (below_marked BW6.out Og0d_6.out hgz (by omega) (by omega))
  have sz7 : w4.heap.size ≤ w5.heap.size := hgz.size
  have Ow0m_7 := Lib.hid (Ow0m_6.out.kept hgz (own_apart Ow0m_6.out Uw0m.out Og0d_6.out Ug0d.out (.inl (by omega))))
  have Ow0d_7 := Lib.hid (Ow0d_6.out.kept hgz (own_apart Ow0d_6.out Uw0d.out Og0d_6.out Ug0d.out (.inl (by omega))))
  have Og0m_7 := Lib.hid (Og0m_6.out.kept hgz (apart_of APg0m_g0d.out))
  have Xw0_7 := Lib.hid (Xw0_6.out.grown hgz (ne_own Xw0_6.out Og0d_6.out))
  have Xg0_7 := Lib.hid (Xg0_6.out.grown hgz (ne_own Xg0_6.out Og0d_6.out))
  have Og0d_7 := Lib.hid hoz
  clear hoz hgz
  have eg00a : w5.cell? ⟨w2.heap.size, 0, none⟩ = some (.bool r1_00) := Xg0_7.out.cell 0
  have eg01a : w5.cell? ⟨w2.heap.size, 1, none⟩ = some (.slice Ag0m N01 cg0m) := Xg0_7.out.cell 1
  have eg02a : w5.cell? ⟨w2.heap.size, 2, none⟩ = some (.slice Ag0d N02 cg0d) := Xg0_7.out.cell 2
  go_wp2_with fail
  clear eg00a eg01a eg02a
  refine (heldRat_same r1_00 Ag0m N01 cg0m Ag0d N02 cg0d (1) _ (by unfold maxLen; omega) (Reads.of_own Og0m_7.out) (Reads.of_own Og0d_7.out)).mono ?_
  rintro e w6 ⟨rfl, hb⟩
  have BW8 := Lib.hid (BW7.out.trans (hb.mono BW7.out.size))
  have sz8 : w5.heap.size ≤ w6.heap.size := hb.size
  have Ow0m_8 := Lib.hid (own_below Ow0m_7.out hb)
  have Ow0d_8 := Lib.hid (own_below Ow0d_7.out hb)
  have Og0m_8 := Lib.hid (own_below Og0m_7.out hb)
  have Og0d_8 := Lib.hid (own_below Og0d_7.out hb)
  have Xw0_8 := Lib.hid (Xw0_7.out.below hb Xw0_7.out.lt)
  have Xg0_8 := Lib.hid (Xg0_7.out.below hb Xg0_7.out.lt)
  clear hb
  go_wp2_with fail
  refine (impl_ratFromInt a0 _ Ba0).mono ?_
  rintro e w7 ⟨r3_00, r3_01, v3_01, r3_02, v3_02, rfl, his, ho01, ho02, hap10, hb⟩
  have BW9 := Lib.hid (BW8.out.trans (hb.mono BW8.out.size))
  have sz9 : w6.heap.size ≤ w7.heap.size := hb.size
  have Ow0m_9 := Lib.hid (own_below Ow0m_8.out hb)
  have Ow0d_9 := Lib.hid (own_below Ow0d_8.out hb)
  have Og0m_9 := Lib.hid (own_below Og0m_8.out hb)
  have Og0d_9 := Lib.hid (own_below Og0d_8.out hb)
  have Xw0_9 := Lib.hid (Xw0_8.out.below hb Xw0_8.out.lt)
  have Xg0_9 := Lib.hid (Xg0_8.out.below hb Xg0_8.out.lt)
  clear hb
  obtain ⟨rfl, rfl, rfl⟩ := ratFromInt_unique IS.out his
  clear his
  replace ho01 := ho01.2
  rw [HN01.out] at ho01
  replace ho02 := ho02.2
  rw [HN02.out] at ho02
  obtain ⟨Ah0m, ch0m, rfl⟩ := own_slice ho01
  have Uh0m := Lib.hid (fun k (hk : (Value.slice Ah0m N01 ch0m).ownBlock = some k) => (ho01.lt k hk).2)
  have Oh0m_9 := Lib.hid ho01
  clear ho01
  obtain ⟨Ah0d, ch0d, rfl⟩ := own_slice ho02
  have Uh0d := Lib.hid (fun k (hk : (Value.slice Ah0d N02 ch0d).ownBlock = some k) => (ho02.lt k hk).2)
  have Oh0d_9 := Lib.hid ho02
  clear ho02
  have APh0d_h0m := Lib.hid hap10
  have APh0m_h0d := Lib.hid hap10.symm
  clear hap10
  have BW10 := Lib.hid (BW9.out.alloc BW9.out.size (.cells #[.bool r1_00, .slice Ah0m N01 ch0m, .slice Ah0d N02 ch0d] 31))
  have sz10 : w7.heap.size ≤ (w7.alloc (.cells #[.bool r1_00, .slice Ah0m N01 ch0m, .slice Ah0d N02 ch0d] 31)).heap.size := (by simp)
  have Ow0m_10 := Lib.hid (Ow0m_9.out.alloc (.cells #[.bool r1_00, .slice Ah0m N01 ch0m, .slice Ah0d N02 ch0d] 31))
  have Ow0d_10 := Lib.hid (Ow0d_9.out.alloc (.cells #[.bool r1_00, .slice Ah0m N01 ch0m, .slice Ah0d N02 ch0d] 31))
  have Og0m_10 := Lib.hid (Og0m_9.out.alloc (.cells #[.bool r1_00, .slice Ah0m N01 ch0m, .slice Ah0d N02 ch0d] 31))
  have Og0d_10 := Lib.hid (Og0d_9.out.alloc (.cells #[.bool r1_00, .slice Ah0m N01 ch0m, .slice Ah0d N02 ch0d] 31))
  have Oh0m_10 := Lib.hid (Oh0m_9.out.alloc (.cells #[.bool r1_00, .slice Ah0m N01 ch0m, .slice Ah0d N02 ch0d] 31))
  have Oh0d_10 := Lib.hid (Oh0d_9.out.alloc (.cells #[.bool r1_00, .slice Ah0m N01 ch0m, .slice Ah0d N02 ch0d] 31))
  have Xw0_10 := Lib.hid (Xw0_9.out.alloc (.cells #[.bool r1_00, .slice Ah0m N01 ch0m, .slice Ah0d N02 ch0d] 31))
  have Xg0_10 := Lib.hid (Xg0_9.out.alloc (.cells #[.bool r1_00, .slice Ah0m N01 ch0m, .slice Ah0d N02 ch0d] 31))
  have Xh0_10 := Lib.hid (Box.new w7 31 #[.bool r1_00, .slice Ah0m N01 ch0m, .slice Ah0d N02 ch0d])
  have ew00a : w7.cell? ⟨w1.heap.size, 0, none⟩ = some (.bool r1_00) := Xw0_9.out.cell 0
  have ew01a : w7.cell? ⟨w1.heap.size, 1, none⟩ = some (.slice Aw0m N01 cw0m) := Xw0_9.out.cell 1
  have ew02a : w7.cell? ⟨w1.heap.size, 2, none⟩ = some (.slice Aw0d N02 cw0d) := Xw0_9.out.cell 2
  have ew00b : (w7.alloc (.cells #[.bool r1_00, .slice Ah0m N01 ch0m, .slice Ah0d N02 ch0d] 31)).cell? ⟨w1.heap.size, 0, none⟩ = some (.bool r1_00) := Xw0_10.out.cell 0
  have ew01b : (w7.alloc (.cells #[.bool r1_00, .slice Ah0m N01 ch0m, .slice Ah0d N02 ch0d] 31)).cell? ⟨w1.heap.size, 1, none⟩ = some (.slice Aw0m N01 cw0m) := Xw0_10.out.cell 1
  have ew02b : (w7.alloc (.cells #[.bool r1_00, .slice Ah0m N01 ch0m, .slice Ah0d N02 ch0d] 31)).cell? ⟨w1.heap.size, 2, none⟩ = some (.slice Aw0d N02 cw0d) := Xw0_10.out.cell 2
  have new00 : w7.heap.size ≠ w1.heap.size := (by have := Xw0_9.out.lt; omega)
  go_wp2_with fail
  clear ew00a ew01a ew02a ew00b ew01b ew02b new00
  refine (eqRat_same r1_00 Ah0m Aw0m N01 ch0m cw0m r1_01 Ah0d Aw0d N02 ch0d cw0d r1_02 _ HN01.out (by unfold maxLen; omega) (Reads.of_own Oh0m_10.out) (Reads.of_own Ow0m_10.out) HN02.out (by unfold maxLen; omega) (Reads.of_own Oh0d_10.out) (Reads.of_own Ow0d_10.out)).mono ?_
  rintro e w8 ⟨rfl, hb⟩
  have BW11 := Lib.hid (BW10.out.trans (hb.mono BW10.out.size))
  have sz11 : (w7.alloc (.cells #[.bool r1_00, .slice Ah0m N01 ch0m, .slice Ah0d N02 ch0d] 31)).heap.size ≤ w8.heap.size := hb.size
  have Ow0m_11 := Lib.hid (own_below Ow0m_10.out hb)
  have Ow0d_11 := Lib.hid (own_below Ow0d_10.out hb)
  have Og0m_11 := Lib.hid (own_below Og0m_10.out hb)
  have Og0d_11 := Lib.hid (own_below Og0d_10.out hb)
  have Oh0m_11 := Lib.hid (own_below Oh0m_10.out hb)
  have Oh0d_11 := Lib.hid (own_below Oh0d_10.out hb)
  have Xw0_11 := Lib.hid (Xw0_10.out.below hb Xw0_10.out.lt)
  have Xg0_11 := Lib.hid (Xg0_10.out.below hb Xg0_10.out.lt)
  have Xh0_11 := Lib.hid (Xh0_10.out.below hb Xh0_10.out.lt)
  clear hb
  clear Ow0m_11 Uw0m Ow0d_11 Uw0d Xw0_11
  clear Oh0m_11 Uh0m Oh0d_11 Uh0d Xh0_11
  have eg00a : w8.cell? ⟨w2.heap.size, 0, none⟩ = some (.bool r1_00) := Xg0_11.out.cell 0
  have eg01a : w8.cell? ⟨w2.heap.size, 1, none⟩ = some (.slice Ag0m N01 cg0m) := Xg0_11.out.cell 1
  have eg02a : w8.cell? ⟨w2.heap.size, 2, none⟩ = some (.slice Ag0d N02 cg0d) := Xg0_11.out.cell 2
  go_wp2_with fail
  clear eg00a eg01a eg02a
  refine (heldRat_same r1_00 Ag0m N01 cg0m Ag0d N02 cg0d (1) _ (by unfold maxLen; omega) (Reads.of_own Og0m_11.out) (Reads.of_own Og0d_11.out)).mono ?_
  rintro e w9 ⟨rfl, hb⟩
  have BW12 := Lib.hid (BW11.out.trans (hb.mono BW11.out.size))
  have sz12 : w8.heap.size ≤ w9.heap.size := hb.size
  have Og0m_12 := Lib.hid (own_below Og0m_11.out hb)
  have Og0d_12 := Lib.hid (own_below Og0d_11.out hb)
  have Xg0_12 := Lib.hid (Xg0_11.out.below hb Xg0_11.out.lt)
  clear hb
  clear Og0m_12 Ug0m Og0d_12 Ug0d Xg0_12
  go_wp2_with fail
  go_ret
  exact ⟨rfl, BW12.out⟩
end Go.Proofs.Ytbfanjalinkmhaa.fnExactRatFromInt
