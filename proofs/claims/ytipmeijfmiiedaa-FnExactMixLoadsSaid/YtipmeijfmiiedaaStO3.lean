/- StructureOk, by the program. -/
import Derived.Test.YtipmeijfmiiedaaStO2
namespace Go.Proofs.Ytipmeijfmiiedaa
set_option maxRecDepth 100000
open Go.RowKit

def StructureOkIs (js : List JD) (ms : List MD) (b : Bool) : Prop := b = true ↔ TOk js ms
theorem structureOk_unique {js : List JD} {ms : List MD} {b c : Bool} (h : StructureOkIs js ms b) (h' : StructureOkIs js ms c) : b = c := Bool.eq_iff_iff.2 (h.trans h'.symm)
set_option maxHeartbeats 3200000 in
theorem impl_structureOk0 (A : Option Addr) (n c : Nat) (js : List JD) (B : Option Addr) (m d : Nat) (ms : List MD) (w : World) (h : InT w A n js B m ms) :
    Calls Try.prog 51 #[.agg #[.slice A n c, .slice B m d]] w fun e w' => YesEnd (TOk js ms) w w' e := by
  have hmn := h.1.2.1
  have hmm := h.2.2.1
  have HLN : Hid (js.length = n) := h.1.1
  have HLM : Hid (ms.length = m) := h.2.1
  obtain ⟨W1, hW⟩ : ∃ W, W = w.alloc (.cells #[.slice A n c, .slice B m d] 26) := ⟨_, rfl⟩
  have X0 : Hid (Box W1 w.heap.size 26 #[.slice A n c, .slice B m d]) := by rw [hW]; exact Box.new _ _ _
  have B0 : Hid (Below w.heap.size w W1) := by rw [hW]; exact (Below.refl _ _).alloc (Nat.le_refl _) _
  have HJ := Lib.hid h.1
  have HM := Lib.hid h.2
  clear h
  go_enter Try.func51, Try.ntmps51
  go_wp2_with fail
  rw [← hW]
  clear hW
  refine (impl_areJoints A n c js _ (HJ.out.below B0.out)).mono ?_
  rintro e w1 ⟨b, rfl, hq, hb⟩
  have X1 := Lib.hid (X0.out.below hb X0.out.lt)
  have B1 := Lib.hid (B0.out.trans (hb.mono B0.out.size))
  have HQ := Lib.hid hq
  clear hb hq
  cases b
  case false =>
    have HF : Hid (YesEnd (TOk js ms) w w1 (.returned (.bool false))) := yes_no (fun q => by have := HQ.out.2 q.1; cases this) B1.out
    go_wp2_with fail
    go_ret
    exact HF.out
  have HJS : Hid (JsOk js) := HQ.out.1 rfl
  have e1 := X1.out.cell 1
  simp at e1
  by_cases hm8 : 8 < m
  · have hm8' : (8 : Int) < (m : Int) := by omega
    have HF : Hid (YesEnd (TOk js ms) w w1 (.returned (.bool false))) := yes_no (fun q => by have := q.2.1; have := HLM.out; omega) B1.out
    go_wp2_with fail
    go_ret
    exact HF.out
  have hm8' : ¬ (8 : Int) < (m : Int) := by omega
  go_wp2_with fail
  clear e1
  go_loopw [18] (fun y wr => ∃ k : Nat, k ≤ m ∧ y = .int .i64 k ∧ Hid (∀ i mm, i < k → ms[i]? = some mm → TmOk js mm) ∧ Hid (Below w.heap.size w wr) ∧ Hid (Box wr w.heap.size 26 #[.slice A n c, .slice B m d])) (fun y _ => m - (intOf y).toNat)
  case atStart => exact ⟨0, Nat.zero_le _, rfl, fun i mm h => absurd h (Nat.not_lt_zero _), B1, X1⟩
  case round =>
    obtain ⟨k, hk, rfl, HOK, HB, HX⟩ := hrel
    by_cases hlt : k < m
    · obtain ⟨b1, o1, rfl, hb1, ⟨x, y, z⟩, hx, ⟨e0, e1, e2⟩, hft⟩ := (HM.out.below HB.out).at_ k hlt
      simp only at e0 e1 e2
      have hk0 : (0 : Int) ≤ (k : Int) := by omega
      have hk1 : (k : Int) < (m : Int) := by omega
      have HXX := Lib.hid hx
      have HFT := Lib.hid hft.2.2
      obtain ⟨wa, hwa⟩ : ∃ W, W = wr.alloc (.cells #[.int .i64 x, .int .i64 y, .int .i64 z] 99) := ⟨_, rfl⟩
      obtain ⟨ga, hga⟩ : ∃ g, g = wr.heap.size := ⟨_, rfl⟩
      have hba : Below wr.heap.size wr wa := by rw [hwa]; exact (Below.refl _ _).alloc (Nat.le_refl _) _
      have XA : Hid (Box wa ga 99 #[.int .i64 x, .int .i64 y, .int .i64 z]) := by rw [hwa, hga]; exact Box.new _ _ _
      have HXA := Lib.hid (HX.out.below hba HX.out.lt)
      have HBA := Lib.hid (HB.out.trans (hba.mono HB.out.size))
      clear hx hft hba HB HX
      go_upto_region 6 with fail
      rw [← hwa, ← hga]
      clear hwa hga e0 e1 e2
      have a0 := XA.out.cell 0
      have a1 := XA.out.cell 1
      have a2 := XA.out.cell 2
      have q0 := HXA.out.cell 0
      simp at a0 a1 a2 q0
      go_wp2_with fail
      clear a0 a1 a2 q0
      refine (impl_connects x y z A n c js _ (HJ.out.below HBA.out) HFT.out).mono ?_
      rintro e w2 ⟨b, rfl, hq, hb⟩
      have HX2 := Lib.hid (HXA.out.below hb HXA.out.lt)
      have HB2 := Lib.hid (HBA.out.trans (hb.mono HBA.out.size))
      have HQ2 := Lib.hid hq
      clear hb hq
      cases b
      case false =>
        have HF : Hid (YesEnd (TOk js ms) w w2 (.returned (.bool false))) := yes_no (fun q => by have := HQ2.out.2 (q.2.2 _ (List.mem_of_getElem? HXX.out)); cases this) HB2.out
        clear HOK
        go_wp2_with fail
        go_ret
        exact HF.out
      have HOK2 : Hid (∀ i mm, i < k + 1 → ms[i]? = some mm → TmOk js mm) := fun i mm h1 h2 => by
        by_cases hik : i = k
        · subst hik
          rw [HXX.out] at h2
          rw [← Option.some.inj h2]
          exact HQ2.out.1 rfl
        · exact HOK.out i mm (by omega) h2
      clear HOK
      go_wp2_with fail
      go_roundw
      case rel => exact ⟨k + 1, by omega, by go_num, HOK2, HB2, HX2⟩
      case measure => simp [intOf]; omega
    · have HF : Hid (YesEnd (TOk js ms) w wr (.returned (.bool true))) := yes_yes ⟨HJS.out, by have := HLM.out; omega, fun mm hmm => by
        obtain ⟨i, hi⟩ := List.getElem?_of_mem hmm
        have h1 := (List.getElem?_eq_some_iff.1 hi).1
        have h2 := HLM.out
        exact HOK.out i mm (by omega) hi⟩ HB.out
      clear HOK
      go_wp2_with fail
      go_ret
      exact HF.out
end Go.Proofs.Ytipmeijfmiiedaa
