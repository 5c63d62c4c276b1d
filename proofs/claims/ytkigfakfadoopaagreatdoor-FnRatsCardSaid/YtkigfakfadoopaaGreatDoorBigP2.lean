/- Contracts of ParseBigInt: the program's. -/
import Derived.Test.YtkigfakfadoopaaGreatDoorBigP
import Derived.Test.YtkigfakfadoopaaGreatDoorShelf
namespace Go.Proofs.YtkigfakfadoopaaGreatDoor
set_option maxRecDepth 100000
open Go.RowKit

theorem hasPrefix_one (s : ByteArray) : Lib.hasPrefix s.data.toList [45] = negT s := by
  unfold Lib.hasPrefix negT
  cases h : s.data.toList with
  | nil => rfl
  | cons a l =>
    simp [List.isPrefixOf]
    rw [Bool.eq_iff_iff]
    simp
    exact eq_comm
theorem trimPrefix_one (s : ByteArray) : (⟨(Lib.trimPrefix s.data.toList [45]).toArray⟩ : ByteArray) = bodyT s := by
  unfold Lib.trimPrefix bodyT
  rw [hasPrefix_one]
  by_cases h : negT s = true
  · rw [if_pos h, if_pos h]
    apply ByteArray.ext
    apply Array.toList_inj.1
    rw [seg_extract]
    unfold seg
    rw [List.take_of_length_le (by simp)]
    rfl
  · rw [if_neg h, if_neg h]
theorem cut_minus (s : ByteArray) (w : World) :
    Calls Tryz.prog 50 #[.string s, .string ⟨#[45]⟩] w fun e w' => e = .returned (.tuple #[.string (bodyT s), .bool (negT s)]) ∧ w = w' :=
  (Tryz.strings_CutPrefix s ⟨#[45]⟩ w).mono fun e w' ⟨he, hw⟩ => ⟨by rw [he]; show Ending.returned (.tuple #[.string ⟨(Lib.trimPrefix s.data.toList [45]).toArray⟩, .bool (Lib.hasPrefix s.data.toList [45])]) = _; rw [trimPrefix_one, hasPrefix_one], hw.symm⟩
theorem bodyT_le (s : ByteArray) : (bodyT s).size ≤ s.size := by
  unfold bodyT
  split
  · simp
  · exact Nat.le_refl _
set_option maxHeartbeats 1600000 in
theorem impl_parseBigInt' (s : ByteArray) (w : World) (hs : s.size ≤ 1048576) :
    Calls Tryz.prog 26 #[.string s] w fun e w' => ParBEnd s w w' e := by
  have hr_0 := Lib.hid (by have := Box.new w 25 #[.bool false, .slice none 0 0]; simpa using this : Box (w.alloc (.cells #[.bool false, .slice none 0 0] 25)) (w.heap.size) 25 #[.bool false, .slice none 0 0])
  have BW_0 := Lib.hid ((Below.refl w.heap.size w).alloc (by simp) (.cells #[.bool false, .slice none 0 0] 25))
  have hbl := bodyT_le s
  obtain ⟨t, ht⟩ : ∃ t, t = bodyT s := ⟨_, rfl⟩
  obtain ⟨g, hg⟩ : ∃ g, g = negT s := ⟨_, rfl⟩
  have hcut := cut_minus s
  rw [← ht, ← hg] at hcut
  rw [← ht] at hbl
  have Hcut := Lib.hid hcut
  have HT := Lib.hid ht
  have HGN := Lib.hid hg
  clear hcut ht hg
  go_enter Tryz.func26, Tryz.ntmps26
  go_wp2_with fail
  refine (Hcut.out _).mono ?_
  rintro e w' ⟨rfl, rfl⟩
  go_wp2_with fail
  refine (impl_parseNat' t _ (by omega)).mono ?_
  rintro e w1 ⟨r, v, b, rfl, hp, hres, hb⟩
  have HP : Hid (ParseNatIs (bodyT s) r b) := by unfold Hid; rw [← HT.out]; exact hp
  have hr_1 := Lib.hid (hr_0.out.below hb hr_0.out.lt)
  have BW_1 := Lib.hid (BW_0.out.trans (hb.mono BW_0.out.size))
  obtain ⟨A1, c1, rfl, hl, ho⟩ := own_rows hres
  have HG := Lib.hid hr_0.out.lt
  obtain ⟨N, hN⟩ : ∃ N, N = r.length := ⟨_, rfl⟩
  rw [← hN] at hl ho ⊢
  have HO := Lib.hid ho
  have HN := Lib.hid hN
  have HL := Lib.hid hl
  clear hp hres hb ho hN
  have hr_2 := Lib.hid (hr_1.out.alloc (.cells #[.bool g, .slice A1 N c1] 25))
  have BW_2 := Lib.hid (BW_1.out.alloc BW_1.out.size (.cells #[.bool g, .slice A1 N c1] 25))
  have HO2 := Lib.hid (HO.out.alloc (.cells #[.bool g, .slice A1 N c1] 25))
  cases b
  · have HNO := Lib.hid (parsed_no HP.out)
    have HF := Lib.hid (parB_no (w := w) HNO.out (below_two (g := w.heap.size) BW_2.out (Nat.le_refl _) (.bool false) (.slice none 0 0)))
    have ehr0 : (w1.alloc (.cells #[.bool g, .slice A1 N c1] 25)).cell? ⟨w.heap.size, 0, none⟩ = some (.bool false) := hr_2.out.cell 0
    have ehr1 : (w1.alloc (.cells #[.bool g, .slice A1 N c1] 25)).cell? ⟨w.heap.size, 1, none⟩ = some (.slice none 0 0) := hr_2.out.cell 1
    have fhr0 : (w1.alloc (.cells #[.bool g, .slice A1 N c1] 25)).frozen? ⟨w.heap.size, 0, none⟩ = false := hr_2.out.free 0
    have fhr1 : (w1.alloc (.cells #[.bool g, .slice A1 N c1] 25)).frozen? ⟨w.heap.size, 1, none⟩ = false := hr_2.out.free 1
    have hne : w1.heap.size ≠ w.heap.size := by have := hr_1.out.lt; omega
    go_wp2_with fail
    refine bodyPost_ret (v := .tuple #[.agg #[.bool false, .slice none 0 0], .bool false]) (by simp [results, Tryz.results26, ehr0, ehr1, go_sem]) rfl ?_
    exact HF.out
  · have HOK := Lib.hid (parse_ok HP.out)
    have HI : Hid (InI (w1.alloc (.cells #[.bool g, .slice A1 N c1] 25)) A1 N r) := ⟨HN.out.symm, by have := HOK.out.2; rw [← HN.out] at this; omega, Reads.of_own HO2.out, limbs_bd HOK.out.1.1⟩
    go_wp2_with fail
    refine (impl_bigOk' g A1 N c1 r _ HI.out).mono ?_
    rintro e w3 ⟨⟨b, rfl, hi⟩, hb⟩
    have hx_2 := Lib.hid (Box.new w1 25 #[.bool g, .slice A1 N c1])
    have hr_3 := Lib.hid (hr_2.out.below hb hr_2.out.lt)
    have hx_3 := Lib.hid (hx_2.out.below hb hx_2.out.lt)
    have BW_3 := Lib.hid (BW_2.out.trans (hb.mono BW_2.out.size))
    have HO3 := Lib.hid (own_below HO2.out hb)
    clear hb
    have ehr0 := hr_3.out.cell 0
    have ehr1 := hr_3.out.cell 1
    have fhr0 := hr_3.out.free 0
    have fhr1 := hr_3.out.free 1
    have ehx0 := hx_3.out.cell 0
    have ehx1 := hx_3.out.cell 1
    simp at ehr0 ehr1 ehx0 ehx1
    cases b
    · have HNO : Hid (¬ ∃ q, Parsed s q) := fun ⟨q, hq⟩ => by
        obtain ⟨rfl, _⟩ := parseNat_unique HP.out hq.1
        have := hi.2 ⟨HOK.out, fun e => hq.2 (by rw [← HGN.out]; exact e)⟩
        cases this
      have HF := Lib.hid (parB_no (w := w) HNO.out (below_two (g := w.heap.size) BW_3.out (Nat.le_refl _) (.bool false) (.slice none 0 0)))
      clear hi
      go_wp2_with fail
      refine bodyPost_ret (v := .tuple #[.agg #[.bool false, .slice none 0 0], .bool false]) (by simp [results, Tryz.results26, ehr0, ehr1, go_sem]) rfl ?_
      exact HF.out
    · have HY : Hid (Parsed s r) := ⟨HP.out, fun e => (hi.1 rfl).2 (by rw [HGN.out]; exact e)⟩
      have HV := Lib.hid (tail2 (g := w.heap.size) HO3.out HG.out BW_3.out (Nat.le_refl _) (.bool g) (.slice A1 N c1))
      clear hi
      go_wp2_with fail
      refine bodyPost_ret (v := .tuple #[.agg #[.bool g, .slice A1 N c1], .bool true]) (by simp [results, Tryz.results26, ehr0, ehr1, go_sem]) rfl ?_
      exact ⟨g, r, _, true, rfl, .inl ⟨rfl, HGN.out, HY.out⟩, ⟨by rw [← HN.out]; exact HL.out, by rw [← HN.out]; exact HV.out.1⟩, HV.out.2⟩
theorem impl_parseBigInt (s : ByteArray) (w : World) (hs : s.size ≤ 1048576) :
    Calls Tryz.prog 26 #[.string s] w fun e w' => ∃ g r v b, e = .returned (.tuple #[.agg #[.bool g, v], .bool b]) ∧ ParseBigIntIs s g r b ∧ ResI w w' v r ∧ Below w.heap.size w w' :=
  (impl_parseBigInt' s w hs).mono fun _ _ h => h
end Go.Proofs.YtkigfakfadoopaaGreatDoor
