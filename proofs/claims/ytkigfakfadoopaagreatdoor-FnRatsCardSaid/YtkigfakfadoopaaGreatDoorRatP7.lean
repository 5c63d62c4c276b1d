/- Contract of ParseRat, by the program: the key of a text. -/
import Derived.Test.YtkigfakfadoopaaGreatDoorRatP6
namespace Go.Proofs.YtkigfakfadoopaaGreatDoor
set_option maxRecDepth 100000
open Go.RowKit

def KeyOfEnd (s : ByteArray) (w w' : World) (e : Ending) : Prop := ∃ b, e = .returned (.tuple #[.agg #[.string (numT s), .string (denT s)], .bool b]) ∧ (b = true ↔ keyText (numT s) (denT s) = s) ∧ Below w.heap.size w w'
set_option maxHeartbeats 800000 in
theorem impl_keyOfText (s : ByteArray) (w : World) (hs : s.size ≤ 1048576) (hm : MaxAt w) :
    Calls Tryz.prog 22 #[.string s] w fun e w' => KeyOfEnd s w w' e := by
  obtain ⟨W0, hW0⟩ : ∃ W, W = w.alloc (.cells #[.string ⟨#[]⟩, .string ⟨#[]⟩] 45) := ⟨_, rfl⟩
  have hr_0 : Hid (Box W0 w.heap.size 45 #[.string ⟨#[]⟩, .string ⟨#[]⟩]) := by rw [hW0]; exact Box.at' rfl
  have BW_0 : Hid (Below w.heap.size w W0) := by rw [hW0]; exact (Below.refl _ _).alloc (Nat.le_refl _) _
  obtain ⟨m, hm0⟩ := hm.below BW_0.out hm.pos
  have hns := numT_size s
  have hds := denT_size s
  have hc := Tryz.strings_Cut s ⟨#[47]⟩ m W0 (by omega) hm0
  rw [show (⟨#[47]⟩ : ByteArray).data.toList = [47] from rfl, cut_one] at hc
  have HC := Lib.hid hc
  have HD : Hid (((cut1 s.data.toList).2.2 = true ∧ (⟨(cut1 s.data.toList).2.1.toArray⟩ : ByteArray) = denT s) ∨ ((cut1 s.data.toList).2.2 = false ∧ (⟨#[49]⟩ : ByteArray) = denT s)) := by
    unfold denT Hid
    cases (cut1 s.data.toList).2.2
    · exact .inr ⟨rfl, rfl⟩
    · exact .inl ⟨rfl, rfl⟩
  obtain ⟨nt, hnt⟩ : ∃ q, q = numT s := ⟨_, rfl⟩
  obtain ⟨dt, hdt⟩ : ∃ q, q = denT s := ⟨_, rfl⟩
  rw [← hnt] at hns
  rw [← hdt] at hds HD
  have HN := Lib.hid hnt
  have HDT := Lib.hid hdt
  clear hc hm hm0 hnt hdt
  go_enter Tryz.func22, Tryz.ntmps22
  go_wp2_with fail
  rw [← hW0]
  clear hW0
  refine HC.out.mono ?_
  rintro e w1 ⟨rfl, n, hw1⟩
  have hr_1 : Hid (Box w1 w.heap.size 45 #[.string ⟨#[]⟩, .string ⟨#[]⟩]) := by rw [hw1]; exact hr_0.out.below (below_drewN (Below.refl _ _) n) hr_0.out.lt
  have BW_1 : Hid (Below w.heap.size w w1) := by rw [hw1]; exact below_drewN BW_0.out n
  clear hw1
  rw [show (⟨(cut1 s.data.toList).1.toArray⟩ : ByteArray) = nt from HN.out.symm]
  rcases HD.out with ⟨hf, he⟩ | ⟨hf, he⟩
  · rw [hf, he]
    go_wp2_with fail
    obtain ⟨w2, hw2⟩ : ∃ W, W = w1.alloc (.cells #[.string nt, .string dt] 45) := ⟨_, rfl⟩
    have hk_2 : Hid (Box w2 w1.heap.size 45 #[.string nt, .string dt]) := by rw [hw2]; exact Box.at' rfl
    have hr_2 : Hid (Box w2 w.heap.size 45 #[.string ⟨#[]⟩, .string ⟨#[]⟩]) := by rw [hw2]; exact hr_1.out.alloc _
    have BW_2 : Hid (Below w.heap.size w w2) := by rw [hw2]; exact BW_1.out.alloc BW_1.out.size _
    rw [← hw2]
    clear hw2
    have hlt := hr_1.out.lt
    have cv0 : Hid ((#[.string nt, .string dt] : Array Value)[0]? = some (.string nt)) := rfl
    have cv1 : Hid ((#[.string nt, .string dt] : Array Value)[1]? = some (.string dt)) := rfl
    have hk_3 := Lib.hid hk_2.out.drew
    have hr_3 := Lib.hid hr_2.out.drew
    have BW_3 := Lib.hid BW_2.out.drew
    go_region_held3 (fun w' => w'.cell? ⟨w1.heap.size, 0, none⟩ = some (.string nt) ∧ w'.cell? ⟨w1.heap.size, 1, none⟩ = some (.string dt)) (first | with_reducible exact ⟨cellS hk_4 cv0, cellS hk_4 cv1⟩ | with_reducible exact ⟨cellS (hFar (hFar hk_4 (by dsimp only; omega) _) (by dsimp only; omega) _) cv0, cellS (hFar (hFar hk_4 (by dsimp only; omega) _) (by dsimp only; omega) _) cv1⟩ | with_reducible exact ⟨cellS hk_3 cv0, cellS hk_3 cv1⟩) (first | (go_at_call 29; refine (impl_text' nt dt _ (by omega) (by omega)).mono ?_; rintro e w4 ⟨rfl, hb⟩; have hk_4 := Lib.hid (hk_3.out.below hb hk_3.out.lt); have hr_4 := Lib.hid (hr_3.out.below hb hr_3.out.lt); have BW_4 := Lib.hid (BW_3.out.trans (hb.mono BW_3.out.size)); clear hb; have ehr0 := hr_4.out.cell 0; have fhr0 := hr_4.out.free 0; have ehr1 := hr_4.out.cell 1; have fhr1 := hr_4.out.free 1; simp at ehr0 ehr1))
    have HF : Hid (KeyOfEnd s w ((w4.setCell ⟨w.heap.size, 0, none⟩ (.string nt)).setCell ⟨w.heap.size, 1, none⟩ (.string dt)) (.returned (.tuple #[.agg #[.string nt, .string dt], .bool ((keyText nt dt).toList == s.toList)]))) :=
      ⟨_, by rw [HN.out, HDT.out], by rw [← HN.out, ← HDT.out]; exact ⟨fun h => list_eq (eq_of_beq h), fun h => by rw [h]; simp⟩, (BW_4.out.setCell (Nat.le_refl _) _).setCell (Nat.le_refl _) _⟩
    go_wp2_with fail
    refine bodyPost_ret (v := .tuple #[.agg #[.string nt, .string dt], .bool ((keyText nt dt).toList == s.toList)]) (by simp [results, Tryz.results22, ehr0, ehr1, go_sem]) rfl ?_
    exact HF.out
  · rw [hf]
    go_wp2_with fail
    rw [he]
    obtain ⟨w2, hw2⟩ : ∃ W, W = w1.alloc (.cells #[.string nt, .string dt] 45) := ⟨_, rfl⟩
    have hk_2 : Hid (Box w2 w1.heap.size 45 #[.string nt, .string dt]) := by rw [hw2]; exact Box.at' rfl
    have hr_2 : Hid (Box w2 w.heap.size 45 #[.string ⟨#[]⟩, .string ⟨#[]⟩]) := by rw [hw2]; exact hr_1.out.alloc _
    have BW_2 : Hid (Below w.heap.size w w2) := by rw [hw2]; exact BW_1.out.alloc BW_1.out.size _
    rw [← hw2]
    clear hw2
    have hlt := hr_1.out.lt
    have cv0 : Hid ((#[.string nt, .string dt] : Array Value)[0]? = some (.string nt)) := rfl
    have cv1 : Hid ((#[.string nt, .string dt] : Array Value)[1]? = some (.string dt)) := rfl
    have hk_3 := Lib.hid hk_2.out.drew
    have hr_3 := Lib.hid hr_2.out.drew
    have BW_3 := Lib.hid BW_2.out.drew
    go_region_held3 (fun w' => w'.cell? ⟨w1.heap.size, 0, none⟩ = some (.string nt) ∧ w'.cell? ⟨w1.heap.size, 1, none⟩ = some (.string dt)) (first | with_reducible exact ⟨cellS hk_4 cv0, cellS hk_4 cv1⟩ | with_reducible exact ⟨cellS (hFar (hFar hk_4 (by dsimp only; omega) _) (by dsimp only; omega) _) cv0, cellS (hFar (hFar hk_4 (by dsimp only; omega) _) (by dsimp only; omega) _) cv1⟩ | with_reducible exact ⟨cellS hk_3 cv0, cellS hk_3 cv1⟩) (first | (go_at_call 29; refine (impl_text' nt dt _ (by omega) (by omega)).mono ?_; rintro e w4 ⟨rfl, hb⟩; have hk_4 := Lib.hid (hk_3.out.below hb hk_3.out.lt); have hr_4 := Lib.hid (hr_3.out.below hb hr_3.out.lt); have BW_4 := Lib.hid (BW_3.out.trans (hb.mono BW_3.out.size)); clear hb; have ehr0 := hr_4.out.cell 0; have fhr0 := hr_4.out.free 0; have ehr1 := hr_4.out.cell 1; have fhr1 := hr_4.out.free 1; simp at ehr0 ehr1))
    have HF : Hid (KeyOfEnd s w ((w4.setCell ⟨w.heap.size, 0, none⟩ (.string nt)).setCell ⟨w.heap.size, 1, none⟩ (.string dt)) (.returned (.tuple #[.agg #[.string nt, .string dt], .bool ((keyText nt dt).toList == s.toList)]))) :=
      ⟨_, by rw [HN.out, HDT.out], by rw [← HN.out, ← HDT.out]; exact ⟨fun h => list_eq (eq_of_beq h), fun h => by rw [h]; simp⟩, (BW_4.out.setCell (Nat.le_refl _) _).setCell (Nat.le_refl _) _⟩
    go_wp2_with fail
    refine bodyPost_ret (v := .tuple #[.agg #[.string nt, .string dt], .bool ((keyText nt dt).toList == s.toList)]) (by simp [results, Tryz.results22, ehr0, ehr1, go_sem]) rfl ?_
    exact HF.out
end Go.Proofs.YtkigfakfadoopaaGreatDoor
