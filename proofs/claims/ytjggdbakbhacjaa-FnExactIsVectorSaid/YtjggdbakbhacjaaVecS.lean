/- Contracts of vectors: valid or not, by the model and by the program. -/
import Derived.Test.YtjggdbakbhacjaaVecD
namespace Go.Proofs.Ytjggdbakbhacjaa
set_option maxRecDepth 100000
open Go.RowKit

set_option maxHeartbeats 1600000 in
theorem spec_isVector (A : Option Addr) (n c : Nat) (rs : List RD) (w : World) (h : InV w A n rs) :
    Calls Try.prog 19 #[.slice A n c] w fun e w' => VOkEnd rs w w' e := by
  have hn := h.2.1
  have HV := Lib.hid h
  clear h
  by_cases hbig : 24 < (n : Int)
  · have HF : Hid (VOkEnd rs w w (.returned (.bool false))) := ⟨false, rfl, isVec_no (fun h => by have := h.1; rw [HV.out.1] at this; omega), Below.refl _ _⟩
    go_enter Try.func19, Try.ntmps19
    go_wp2_with fail
    go_ret
    exact HF.out
  go_enter Try.func19, Try.ntmps19
  go_wp2_with fail
  go_loopw [10] (fun x wr => ∃ i : Nat, i ≤ n ∧ x = .int .i64 i ∧ Hid (OkTo rs i) ∧ Hid (Below w.heap.size w wr)) (fun x _ => n - (intOf x).toNat)
  case atStart => exact ⟨0, Nat.zero_le _, rfl, OkTo.zero _, Below.refl _ _⟩
  case round =>
    obtain ⟨i, hle, rfl, hk, hb⟩ := hrel
    by_cases hlt : i < n
    · obtain ⟨b, o, rfl, hbs, r, hr, A1, n1, c1, B1, m1, d1, hat, i1, _, j1, _⟩ := (HV.out.below hb.out).at_ i hlt
      obtain ⟨e0, e1, e2⟩ := hat
      have hi0 : (0 : Int) ≤ (i : Int) := by omega
      have hi1 : (i : Int) < (n : Int) := by omega
      have HI := Lib.hid i1
      have HJ := Lib.hid j1
      have HR := Lib.hid hr
      clear i1 j1 hr
      go_wp2_with fail
      have HB := Lib.hid (hb.out.alloc hb.out.size (.cells #[.bool r.g, .slice A1 n1 c1, .slice B1 m1 d1] 26))
      have hbx : Below wr.heap.size wr (wr.alloc (.cells #[.bool r.g, .slice A1 n1 c1, .slice B1 m1 d1] 26)) := (Below.refl _ _).alloc (Nat.le_refl _) _
      refine (spec_ratOk' r.g A1 n1 c1 r.xs B1 m1 d1 r.ds _ (HI.out.below hbx) (HJ.out.below hbx)).mono ?_
      rintro e w1 ⟨⟨q, rfl, hq⟩, hb1⟩
      have HB2 := Lib.hid (HB.out.trans (hb1.mono HB.out.size))
      clear hb1 hbx
      cases q
      · have HF : Hid (VOkEnd rs w w1 (.returned (.bool false))) := ⟨false, rfl, isVec_no (fun h => by have h1 := hq.2 (vok_at h HR.out); cases h1), HB2.out⟩
        clear hq
        go_wp2_with fail
        go_ret
        exact HF.out
      · have HK := Lib.hid (hk.out.succ HR.out (hq.1 rfl))
        clear hq
        go_wp2_with fail
        go_roundw
        case rel => exact ⟨i + 1, by omega, by go_num, HK, HB2⟩
        case measure => simp [intOf]; omega
    · obtain rfl : i = n := by omega
      have HF : Hid (VOkEnd rs w wr (.returned (.bool true))) := ⟨true, rfl, isVec_yes (hk.out.all HV.out.1 (by omega)), hb.out⟩
      go_wp2_with fail
      go_ret
      exact HF.out
set_option maxHeartbeats 1600000 in
theorem impl_isVector (A : Option Addr) (n c : Nat) (rs : List RD) (w : World) (h : InV w A n rs) :
    Calls Try.prog 21 #[.slice A n c] w fun e w' => VOkEnd rs w w' e := by
  have hn := h.2.1
  have HV := Lib.hid h
  clear h
  by_cases hbig : 24 < (n : Int)
  · have HF : Hid (VOkEnd rs w w (.returned (.bool false))) := ⟨false, rfl, isVec_no (fun h => by have := h.1; rw [HV.out.1] at this; omega), Below.refl _ _⟩
    go_enter Try.func21, Try.ntmps21
    go_wp2_with fail
    go_ret
    exact HF.out
  go_enter Try.func21, Try.ntmps21
  go_wp2_with fail
  go_loopw [10] (fun x wr => ∃ i : Nat, i ≤ n ∧ x = .int .i64 i ∧ Hid (OkTo rs i) ∧ Hid (Below w.heap.size w wr)) (fun x _ => n - (intOf x).toNat)
  case atStart => exact ⟨0, Nat.zero_le _, rfl, OkTo.zero _, Below.refl _ _⟩
  case round =>
    obtain ⟨i, hle, rfl, hk, hb⟩ := hrel
    by_cases hlt : i < n
    · obtain ⟨b, o, rfl, hbs, r, hr, A1, n1, c1, B1, m1, d1, hat, i1, _, j1, _⟩ := (HV.out.below hb.out).at_ i hlt
      obtain ⟨e0, e1, e2⟩ := hat
      have hi0 : (0 : Int) ≤ (i : Int) := by omega
      have hi1 : (i : Int) < (n : Int) := by omega
      have HI := Lib.hid i1
      have HJ := Lib.hid j1
      have HR := Lib.hid hr
      clear i1 j1 hr
      go_wp2_with fail
      have HB := Lib.hid (hb.out.alloc hb.out.size (.cells #[.bool r.g, .slice A1 n1 c1, .slice B1 m1 d1] 26))
      have hbx : Below wr.heap.size wr (wr.alloc (.cells #[.bool r.g, .slice A1 n1 c1, .slice B1 m1 d1] 26)) := (Below.refl _ _).alloc (Nat.le_refl _) _
      refine (impl_ratOk' r.g A1 n1 c1 r.xs B1 m1 d1 r.ds _ (HI.out.below hbx) (HJ.out.below hbx)).mono ?_
      rintro e w1 ⟨⟨q, rfl, hq⟩, hb1⟩
      have HB2 := Lib.hid (HB.out.trans (hb1.mono HB.out.size))
      clear hb1 hbx
      cases q
      · have HF : Hid (VOkEnd rs w w1 (.returned (.bool false))) := ⟨false, rfl, isVec_no (fun h => by have h1 := hq.2 (vok_at h HR.out); cases h1), HB2.out⟩
        clear hq
        go_wp2_with fail
        go_ret
        exact HF.out
      · have HK := Lib.hid (hk.out.succ HR.out (hq.1 rfl))
        clear hq
        go_wp2_with fail
        go_roundw
        case rel => exact ⟨i + 1, by omega, by go_num, HK, HB2⟩
        case measure => simp [intOf]; omega
    · obtain rfl : i = n := by omega
      have HF : Hid (VOkEnd rs w wr (.returned (.bool true))) := ⟨true, rfl, isVec_yes (hk.out.all HV.out.1 (by omega)), hb.out⟩
      go_wp2_with fail
      go_ret
      exact HF.out
end Go.Proofs.Ytjggdbakbhacjaa
