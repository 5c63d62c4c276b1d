/- For all arguments the law FnExactParseBigInt returns true: the program's ParseBigInt answers as the model's; no condition on them. -/
import Derived.Test.YtjjbgpgpacopjaaBigLaw
import Derived.Test.YtjjbgpgpacopjaaBigP2
import Derived.ProofKit
import Derived.OpenShut
import Derived.ShutString
import Derived.Lib.SmallJoins
namespace Go.Proofs.Ytjjbgpgpacopjaa.fnExactParseBigInt
open Go.ChangeShapes Go.WideShapes Go.ChangeAt Go.RowKit Go.Joins Go.Deep
open Go.ChangeMaps (open_string shut_string)

set_option maxRecDepth 100000 in
set_option maxHeartbeats 3200000 in
theorem walk {w : World} (a0 : ByteArray) (_ha0 : a0.size ≤ maxLen) :
    Calls Try.prog 11 #[.string a0] w fun e w' => e = .returned (.bool true) ∧ Below w.heap.size w w' := by
  have BW0 : Hid (Below w.heap.size w w) := Below.refl _ _
  by_cases biga0 : 1048576 < (a0.size : Int)
  · go_enter Try.func11, Try.ntmps11
    go_wp2_with fail
    go_ret
    exact ⟨rfl, BW0.out⟩
  go_enter Try.func11, Try.ntmps11
  go_wp2_with fail
  refine (spec_parseBigInt a0 _ (by omega)).mono ?_
  rintro e w1 ⟨r1_00, r1_01, v1_01, r1_10, rfl, his, ho01, hb⟩
  have BW1 := Lib.hid (BW0.out.trans (hb.mono BW0.out.size))
  have sz1 : w.heap.size ≤ w1.heap.size := hb.size
  clear hb
  have IS := Lib.hid his
  clear his
  obtain ⟨hl, ho01⟩ := ho01
  obtain ⟨N01, hN⟩ : ∃ N, N = r1_01.length := ⟨_, rfl⟩
  rw [← hN] at hl ho01
  have HN01 := Lib.hid hN.symm
  have hl01 := hl
  clear hN hl
  obtain ⟨Aw0m, cw0m, rfl⟩ := own_slice ho01
  have Uw0m := Lib.hid (fun k (hk : (Value.slice Aw0m N01 cw0m).ownBlock = some k) => (ho01.lt k hk).2)
  have Ow0m_1 := Lib.hid ho01
  clear ho01
  have BW2 := Lib.hid (BW1.out.alloc BW1.out.size (.cells #[.bool r1_00, .slice Aw0m N01 cw0m] 27))
  have sz2 : w1.heap.size ≤ (w1.alloc (.cells #[.bool r1_00, .slice Aw0m N01 cw0m] 27)).heap.size := (by simp)
  have Ow0m_2 := Lib.hid (Ow0m_1.out.alloc (.cells #[.bool r1_00, .slice Aw0m N01 cw0m] 27))
  have Xw0_2 := Lib.hid (Box.new w1 27 #[.bool r1_00, .slice Aw0m N01 cw0m])
  go_wp2_with fail
  refine (impl_parseBigInt a0 _ (by omega)).mono ?_
  rintro e w2 ⟨r2_00, r2_01, v2_01, r2_10, rfl, his, ho01, hb⟩
  have BW3 := Lib.hid (BW2.out.trans (hb.mono BW2.out.size))
  have sz3 : (w1.alloc (.cells #[.bool r1_00, .slice Aw0m N01 cw0m] 27)).heap.size ≤ w2.heap.size := hb.size
  have Ow0m_3 := Lib.hid (own_below Ow0m_2.out hb)
  have Xw0_3 := Lib.hid (Xw0_2.out.below hb Xw0_2.out.lt)
  clear hb
  obtain ⟨rfl, rfl, rfl⟩ := parseBigInt_unique IS.out his
  clear his
  replace ho01 := ho01.2
  rw [HN01.out] at ho01
  obtain ⟨Ag0m, cg0m, rfl⟩ := own_slice ho01
  have Ug0m := Lib.hid (fun k (hk : (Value.slice Ag0m N01 cg0m).ownBlock = some k) => (ho01.lt k hk).2)
  have Og0m_3 := Lib.hid ho01
  clear ho01
  have BW4 := Lib.hid (BW3.out.alloc BW3.out.size (.cells #[.bool r1_00, .slice Ag0m N01 cg0m] 27))
  have sz4 : w2.heap.size ≤ (w2.alloc (.cells #[.bool r1_00, .slice Ag0m N01 cg0m] 27)).heap.size := (by simp)
  have Ow0m_4 := Lib.hid (Ow0m_3.out.alloc (.cells #[.bool r1_00, .slice Ag0m N01 cg0m] 27))
  have Og0m_4 := Lib.hid (Og0m_3.out.alloc (.cells #[.bool r1_00, .slice Ag0m N01 cg0m] 27))
  have Xw0_4 := Lib.hid (Xw0_3.out.alloc (.cells #[.bool r1_00, .slice Ag0m N01 cg0m] 27))
  have Xg0_4 := Lib.hid (Box.new w2 27 #[.bool r1_00, .slice Ag0m N01 cg0m])
  have ew00a : w2.cell? ⟨w1.heap.size, 0, none⟩ = some (.bool r1_00) := Xw0_3.out.cell 0
  have ew01a : w2.cell? ⟨w1.heap.size, 1, none⟩ = some (.slice Aw0m N01 cw0m) := Xw0_3.out.cell 1
  have ew00b : (w2.alloc (.cells #[.bool r1_00, .slice Ag0m N01 cg0m] 27)).cell? ⟨w1.heap.size, 0, none⟩ = some (.bool r1_00) := Xw0_4.out.cell 0
  have ew01b : (w2.alloc (.cells #[.bool r1_00, .slice Ag0m N01 cg0m] 27)).cell? ⟨w1.heap.size, 1, none⟩ = some (.slice Aw0m N01 cw0m) := Xw0_4.out.cell 1
  have new00 : w2.heap.size ≠ w1.heap.size := (by have := Xw0_3.out.lt; omega)
  go_wp2_with fail
  clear ew00a ew01a ew00b ew01b new00
  refine (eqBigInt_same r1_00 Ag0m Aw0m N01 cg0m cw0m r1_01 _ HN01.out (by unfold maxLen; omega) (Reads.of_own Og0m_4.out) (Reads.of_own Ow0m_4.out)).mono ?_
  rintro e w3 ⟨rfl, hb⟩
  have BW5 := Lib.hid (BW4.out.trans (hb.mono BW4.out.size))
  have sz5 : (w2.alloc (.cells #[.bool r1_00, .slice Ag0m N01 cg0m] 27)).heap.size ≤ w3.heap.size := hb.size
  have Ow0m_5 := Lib.hid (own_below Ow0m_4.out hb)
  have Og0m_5 := Lib.hid (own_below Og0m_4.out hb)
  have Xw0_5 := Lib.hid (Xw0_4.out.below hb Xw0_4.out.lt)
  have Xg0_5 := Lib.hid (Xg0_4.out.below hb Xg0_4.out.lt)
  clear hb
  have eg00a : w3.cell? ⟨w2.heap.size, 0, none⟩ = some (.bool r1_00) := Xg0_5.out.cell 0
  have eg01a : w3.cell? ⟨w2.heap.size, 1, none⟩ = some (.slice Ag0m N01 cg0m) := Xg0_5.out.cell 1
  go_wp2_with fail
  clear eg00a eg01a
  refine (markBigInt_own r1_00 _ Ag0m N01 cg0m (1) _ _ (by unfold maxLen; omega) Og0m_5.out (ints_are _)).mono ?_
  rintro e w4 ⟨rfl, ho, hg⟩
  have BW6 := Lib.hid (below_marked BW5.out Og0m_5.out hg (by omega) (by omega))
  have sz6 : w3.heap.size ≤ w4.heap.size := hg.size
  have Ow0m_6 := Lib.hid (Ow0m_5.out.kept hg (own_apart Ow0m_5.out Uw0m.out Og0m_5.out Ug0m.out (.inl (by omega))))
  have Xw0_6 := Lib.hid (Xw0_5.out.grown hg (ne_own Xw0_5.out Og0m_5.out))
  have Xg0_6 := Lib.hid (Xg0_5.out.grown hg (ne_own Xg0_5.out Og0m_5.out))
  have Og0m_6 := Lib.hid ho
  clear ho hg
  have eg00a : w4.cell? ⟨w2.heap.size, 0, none⟩ = some (.bool r1_00) := Xg0_6.out.cell 0
  have eg01a : w4.cell? ⟨w2.heap.size, 1, none⟩ = some (.slice Ag0m N01 cg0m) := Xg0_6.out.cell 1
  go_wp2_with fail
  clear eg00a eg01a
  refine (heldBigInt_same r1_00 Ag0m N01 cg0m (1) _ (by unfold maxLen; omega) (Reads.of_own Og0m_6.out)).mono ?_
  rintro e w5 ⟨rfl, hb⟩
  have BW7 := Lib.hid (BW6.out.trans (hb.mono BW6.out.size))
  have sz7 : w4.heap.size ≤ w5.heap.size := hb.size
  have Ow0m_7 := Lib.hid (own_below Ow0m_6.out hb)
  have Og0m_7 := Lib.hid (own_below Og0m_6.out hb)
  have Xw0_7 := Lib.hid (Xw0_6.out.below hb Xw0_6.out.lt)
  have Xg0_7 := Lib.hid (Xg0_6.out.below hb Xg0_6.out.lt)
  clear hb
  go_wp2_with fail
  refine (impl_parseBigInt a0 _ (by omega)).mono ?_
  rintro e w6 ⟨r3_00, r3_01, v3_01, r3_10, rfl, his, ho01, hb⟩
  have BW8 := Lib.hid (BW7.out.trans (hb.mono BW7.out.size))
  have sz8 : w5.heap.size ≤ w6.heap.size := hb.size
  have Ow0m_8 := Lib.hid (own_below Ow0m_7.out hb)
  have Og0m_8 := Lib.hid (own_below Og0m_7.out hb)
  have Xw0_8 := Lib.hid (Xw0_7.out.below hb Xw0_7.out.lt)
  have Xg0_8 := Lib.hid (Xg0_7.out.below hb Xg0_7.out.lt)
  clear hb
  obtain ⟨rfl, rfl, rfl⟩ := parseBigInt_unique IS.out his
  clear his
  replace ho01 := ho01.2
  rw [HN01.out] at ho01
  obtain ⟨Ah0m, ch0m, rfl⟩ := own_slice ho01
  have Uh0m := Lib.hid (fun k (hk : (Value.slice Ah0m N01 ch0m).ownBlock = some k) => (ho01.lt k hk).2)
  have Oh0m_8 := Lib.hid ho01
  clear ho01
  have BW9 := Lib.hid (BW8.out.alloc BW8.out.size (.cells #[.bool r1_00, .slice Ah0m N01 ch0m] 27))
  have sz9 : w6.heap.size ≤ (w6.alloc (.cells #[.bool r1_00, .slice Ah0m N01 ch0m] 27)).heap.size := (by simp)
  have Ow0m_9 := Lib.hid (Ow0m_8.out.alloc (.cells #[.bool r1_00, .slice Ah0m N01 ch0m] 27))
  have Og0m_9 := Lib.hid (Og0m_8.out.alloc (.cells #[.bool r1_00, .slice Ah0m N01 ch0m] 27))
  have Oh0m_9 := Lib.hid (Oh0m_8.out.alloc (.cells #[.bool r1_00, .slice Ah0m N01 ch0m] 27))
  have Xw0_9 := Lib.hid (Xw0_8.out.alloc (.cells #[.bool r1_00, .slice Ah0m N01 ch0m] 27))
  have Xg0_9 := Lib.hid (Xg0_8.out.alloc (.cells #[.bool r1_00, .slice Ah0m N01 ch0m] 27))
  have Xh0_9 := Lib.hid (Box.new w6 27 #[.bool r1_00, .slice Ah0m N01 ch0m])
  have ew00a : w6.cell? ⟨w1.heap.size, 0, none⟩ = some (.bool r1_00) := Xw0_8.out.cell 0
  have ew01a : w6.cell? ⟨w1.heap.size, 1, none⟩ = some (.slice Aw0m N01 cw0m) := Xw0_8.out.cell 1
  have ew00b : (w6.alloc (.cells #[.bool r1_00, .slice Ah0m N01 ch0m] 27)).cell? ⟨w1.heap.size, 0, none⟩ = some (.bool r1_00) := Xw0_9.out.cell 0
  have ew01b : (w6.alloc (.cells #[.bool r1_00, .slice Ah0m N01 ch0m] 27)).cell? ⟨w1.heap.size, 1, none⟩ = some (.slice Aw0m N01 cw0m) := Xw0_9.out.cell 1
  have new00 : w6.heap.size ≠ w1.heap.size := (by have := Xw0_8.out.lt; omega)
  go_wp2_with fail
  clear ew00a ew01a ew00b ew01b new00
  refine (eqBigInt_same r1_00 Ah0m Aw0m N01 ch0m cw0m r1_01 _ HN01.out (by unfold maxLen; omega) (Reads.of_own Oh0m_9.out) (Reads.of_own Ow0m_9.out)).mono ?_
  rintro e w7 ⟨rfl, hb⟩
  have BW10 := Lib.hid (BW9.out.trans (hb.mono BW9.out.size))
  have sz10 : (w6.alloc (.cells #[.bool r1_00, .slice Ah0m N01 ch0m] 27)).heap.size ≤ w7.heap.size := hb.size
  have Ow0m_10 := Lib.hid (own_below Ow0m_9.out hb)
  have Og0m_10 := Lib.hid (own_below Og0m_9.out hb)
  have Oh0m_10 := Lib.hid (own_below Oh0m_9.out hb)
  have Xw0_10 := Lib.hid (Xw0_9.out.below hb Xw0_9.out.lt)
  have Xg0_10 := Lib.hid (Xg0_9.out.below hb Xg0_9.out.lt)
  have Xh0_10 := Lib.hid (Xh0_9.out.below hb Xh0_9.out.lt)
  clear hb
  clear Ow0m_10 Uw0m Xw0_10
  clear Oh0m_10 Uh0m Xh0_10
  have eg00a : w7.cell? ⟨w2.heap.size, 0, none⟩ = some (.bool r1_00) := Xg0_10.out.cell 0
  have eg01a : w7.cell? ⟨w2.heap.size, 1, none⟩ = some (.slice Ag0m N01 cg0m) := Xg0_10.out.cell 1
  go_wp2_with fail
  clear eg00a eg01a
  refine (heldBigInt_same r1_00 Ag0m N01 cg0m (1) _ (by unfold maxLen; omega) (Reads.of_own Og0m_10.out)).mono ?_
  rintro e w8 ⟨rfl, hb⟩
  have BW11 := Lib.hid (BW10.out.trans (hb.mono BW10.out.size))
  have sz11 : w7.heap.size ≤ w8.heap.size := hb.size
  have Og0m_11 := Lib.hid (own_below Og0m_10.out hb)
  have Xg0_11 := Lib.hid (Xg0_10.out.below hb Xg0_10.out.lt)
  clear hb
  clear Og0m_11 Ug0m Xg0_11
  go_wp2_with fail
  go_ret
  exact ⟨rfl, BW11.out⟩
-- THE FRAME, by wip/tools/frame.py
theorem own : ownKnob Try.prog.godebug = none := by kernel_rfl

set_option maxRecDepth 100000 in
theorem lifted (os : Os) (started : os.Started) (H : Type) (enc : TypeId × Value → H) :
    ReturnsInHanded {} Try.checked os 11 .any (Rows.fnExactParseBigIntSpec.pre6 enc Try.prog Try.f11 Rows.fnExactParseBigIntRow.domain false) (Rows.fnExactParseBigIntSpec.post enc Try.prog Try.f11 false true false false) := by
  refine returnsInHanded_of_change (C := Try.checked) own started (by kernel_rfl) Try.func11
    (ChangeSpec.witness6 (enc := enc) (C := Try.checked) false ⟨#[], #[.string ByteArray.empty], []⟩ 8 (by kernel_rfl) (by kernel_rfl) (by kernel_rfl) (by kernel_rfl)) ?_
  intro W base args ds gs before hval0 hW _ _
  have hval : ∀ (j : Nat) t v, Try.f11.params[j]? = some t → args[j]? = some v → Value.okWide Try.prog W .any base t v := hval0
  have hW' := hW
  obtain ⟨p, q, hA0, hV, rfl, _, _⟩ := hW
  have hA : DataW.TrodAll enc Try.prog W 0 (fun _ => true) true Try.f11.params.toList args.toList ds p := hA0
  rw [Try.params11] at hA hval
  obtain ⟨v0, vs0, d0, ds0, p0, q0, hargs, rfl, rfl, h0, r0⟩ := trodAll_cons hA
  obtain ⟨rfl, rfl, rfl⟩ := trodAll_nil r0
  obtain rfl : args = #[v0] := by cases args; simp_all
  obtain ⟨rfl, rfl⟩ := trodVars_none hV
  obtain ⟨a0, rfl, rfl, rfl, w0⟩ := open_string Try.underlying9 (hval 0 9 v0 rfl rfl) h0
  clear hA0 hval0
  simp only [List.append_nil] at hW'
  refine (walk (w := W) a0 w0).mono fun e W' ⟨he, bel⟩ => ?_
  subst he
  exact ⟨_, rfl, _, _, _, [], _, [], hW', trodAll_mk1 (shut_bool Try.underlying4 _), (trodAll_cons_mk (shut_string Try.underlying9 w0) trodAll_mk0), rfl, bel.frame _, fun h => by cases h⟩

theorem over : Rows.fnExactParseBigIntRow.holds Try.pinned (OpenSpec.ofChange Rows.fnExactParseBigIntSpec) :=
  OpenClaim.holds_of_wide 11 Try.f11 rfl rfl rfl rfl rfl rfl rfl ⟨rfl, rfl, rfl, rfl, rfl⟩ rfl rfl rfl rfl rfl (by kernel_rfl) Try.func11 (by kernel_rfl)
    (of_decide_eq_true (by kernel_rfl)) (by unfold Func.isWrapper; rw [if_neg (of_decide_eq_false (by kernel_rfl))]; exact ⟨rfl, rfl⟩)
    (fun os started H enc _ => lifted os started H enc)

theorem proved : Rows.FnExactParseBigIntSaid := over
end Go.Proofs.Ytjjbgpgpacopjaa.fnExactParseBigInt
