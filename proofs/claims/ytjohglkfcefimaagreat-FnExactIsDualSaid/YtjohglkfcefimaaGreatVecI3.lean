/- Contracts of vectors, by the program: sums, differences, multiples. -/
import Derived.Test.YtjohglkfcefimaaGreatVecI2
namespace Go.Proofs.YtjohglkfcefimaaGreat
set_option maxRecDepth 100000
open Go.RowKit

def CheckedEnd (A : Option Addr) (n c : Nat) (rs : List RD) (w w' : World) (e : Ending) : Prop :=
  ((VOk rs ∧ e = .returned (.tuple #[.slice A n c, .bool true])) ∨ (¬ VOk rs ∧ e = .returned (.tuple #[.slice none 0 0, .bool false]))) ∧ Below w.heap.size w w'
set_option maxHeartbeats 800000 in
theorem impl_checkedVector (A : Option Addr) (n c : Nat) (rs : List RD) (w : World) (h : InV w A n rs) :
    Calls Tryz.prog 212 #[.slice A n c] w fun e w' => CheckedEnd A n c rs w w' e := by
  have HV := Lib.hid h
  clear h
  go_enter Tryz.func212, Tryz.ntmps212
  go_wp2_with fail
  refine (impl_isVector A n c rs _ HV.out).mono ?_
  rintro e w1 ⟨b, rfl, hb, hw⟩
  cases b
  · have HF : Hid (CheckedEnd A n c rs w w1 (.returned (.tuple #[.slice none 0 0, .bool false]))) := ⟨.inr ⟨fun h => (by have h1 := hb.2 h; cases h1), rfl⟩, hw⟩
    clear hb hw
    go_wp2_with fail
    go_ret2
    exact HF.out
  · have HF : Hid (CheckedEnd A n c rs w w1 (.returned (.tuple #[.slice A n c, .bool true]))) := ⟨.inl ⟨hb.1 rfl, rfl⟩, hw⟩
    clear hb hw
    go_wp2_with fail
    go_ret2
    exact HF.out
set_option maxHeartbeats 1600000 in
theorem impl_combine_RatSub (A : Option Addr) (n c : Nat) (rs1 : List RD) (B : Option Addr) (m d : Nat) (rs2 : List RD) (w : World) (h1 : InV w A n rs1) (h2 : InV w B m rs2) :
    Calls Tryz.prog 172 #[.slice A n c, .slice B m d, .func (.func 202) #[] #[]] w fun e w' => VecOkEnd (DoneIs (PairOk rs1 rs2) (List.zipWith rsub rs1 rs2)) w w' e := by
  have hn := h1.2.1
  have hm := h2.2.1
  have H1 := Lib.hid h1
  have H2 := Lib.hid h2
  clear h1 h2
  by_cases hbig : 24 < (n : Int)
  · have HF : Hid (VecOkEnd (DoneIs (PairOk rs1 rs2) (List.zipWith rsub rs1 rs2)) w w (.returned (.tuple #[.slice none 0 0, .bool false]))) := ⟨[], _, false, rfl, done_no (fun h => by have := h.1.1; rw [H1.out.1] at this; omega), resV_nil _ _, Below.refl _ _⟩
    go_enter Tryz.func172, Tryz.ntmps172
    go_wp2_with fail
    go_ret2
    exact HF.out
  by_cases hne : ((n : Int) != (m : Int)) = true
  · have HF : Hid (VecOkEnd (DoneIs (PairOk rs1 rs2) (List.zipWith rsub rs1 rs2)) w w (.returned (.tuple #[.slice none 0 0, .bool false]))) := ⟨[], _, false, rfl, done_no (fun h => by have := h.2.2; rw [H1.out.1, H2.out.1] at this; simp at hne; omega), resV_nil _ _, Below.refl _ _⟩
    have hne2 : ((n : Int) == (m : Int)) = false := by simpa using hne
    go_enter Tryz.func172, Tryz.ntmps172
    go_wp2_with fail
    go_ret2
    exact HF.out
  obtain rfl : n = m := by simp at hne; omega
  clear hne
  go_enter Tryz.func172, Tryz.ntmps172
  go_wp2_with fail
  refine (impl_combined_RatSub A n c rs1 B d rs2 _ H1.out H2.out (by omega)).mono ?_
  rintro e w1 ⟨r, V, rfl, hr, ⟨hl, hf, L, ho, hh⟩, hb⟩
  have hrl : r.length = n := by rw [hr, List.length_zipWith, H1.out.1, H2.out.1, Nat.min_self]
  rw [hrl] at ho
  obtain ⟨A1, c1, rfl⟩ := ho.slice
  have HR := Lib.hid hr
  have HO := Lib.hid ho
  have HH := Lib.hid hh
  have HB := Lib.hid hb
  have HRL := Lib.hid hrl
  have HI : Hid (InV w1 A1 n r) := ho.in_ hh (by omega) hf
  clear hr ho hh hb hl hf hrl
  go_wp2_with fail
  refine (impl_checkedVector A1 n c1 r _ HI.out).mono ?_
  rintro e w2 ⟨hc, hb⟩
  have HB2 := Lib.hid (HB.out.trans (hb.mono HB.out.size))
  have HO2 := Lib.hid (HO.out.below hb)
  have hiff := zip_ok (f := rsub) (fun _ _ => rsub_ok) (a := rs1) (b := rs2) (by rw [H1.out.1, H2.out.1]) (by rw [H1.out.1]; omega)
  rw [← HR.out] at hiff
  rcases hc with ⟨hk, rfl⟩ | ⟨hk, rfl⟩
  · have HF : Hid (VecOkEnd (DoneIs (PairOk rs1 rs2) (List.zipWith rsub rs1 rs2)) w w2 (.returned (.tuple #[.slice A1 n c1, .bool true]))) := ⟨r, _, true, rfl, by rw [← HR.out]; exact .inl ⟨hiff.1 hk, rfl, rfl⟩, resV_mk hk.goods HRL.out HO2.out HH.out, HB2.out⟩
    clear hb hk hiff
    go_wp2_with fail
    go_ret2
    exact HF.out
  · have HF : Hid (VecOkEnd (DoneIs (PairOk rs1 rs2) (List.zipWith rsub rs1 rs2)) w w2 (.returned (.tuple #[.slice none 0 0, .bool false]))) := ⟨[], _, false, rfl, by rw [← HR.out]; exact .inr ⟨fun h => hk (hiff.2 h), rfl, rfl⟩, resV_nil _ _, HB2.out⟩
    clear hb hk hiff
    go_wp2_with fail
    go_ret2
    exact HF.out
set_option maxHeartbeats 1600000 in
theorem impl_combine_RatMul (A : Option Addr) (n c : Nat) (rs1 : List RD) (B : Option Addr) (m d : Nat) (rs2 : List RD) (w : World) (h1 : InV w A n rs1) (h2 : InV w B m rs2) :
    Calls Tryz.prog 172 #[.slice A n c, .slice B m d, .func (.func 140) #[] #[]] w fun e w' => VecOkEnd (DoneIs (PairOk rs1 rs2) (List.zipWith rmul rs1 rs2)) w w' e := by
  have hn := h1.2.1
  have hm := h2.2.1
  have H1 := Lib.hid h1
  have H2 := Lib.hid h2
  clear h1 h2
  by_cases hbig : 24 < (n : Int)
  · have HF : Hid (VecOkEnd (DoneIs (PairOk rs1 rs2) (List.zipWith rmul rs1 rs2)) w w (.returned (.tuple #[.slice none 0 0, .bool false]))) := ⟨[], _, false, rfl, done_no (fun h => by have := h.1.1; rw [H1.out.1] at this; omega), resV_nil _ _, Below.refl _ _⟩
    go_enter Tryz.func172, Tryz.ntmps172
    go_wp2_with fail
    go_ret2
    exact HF.out
  by_cases hne : ((n : Int) != (m : Int)) = true
  · have HF : Hid (VecOkEnd (DoneIs (PairOk rs1 rs2) (List.zipWith rmul rs1 rs2)) w w (.returned (.tuple #[.slice none 0 0, .bool false]))) := ⟨[], _, false, rfl, done_no (fun h => by have := h.2.2; rw [H1.out.1, H2.out.1] at this; simp at hne; omega), resV_nil _ _, Below.refl _ _⟩
    have hne2 : ((n : Int) == (m : Int)) = false := by simpa using hne
    go_enter Tryz.func172, Tryz.ntmps172
    go_wp2_with fail
    go_ret2
    exact HF.out
  obtain rfl : n = m := by simp at hne; omega
  clear hne
  go_enter Tryz.func172, Tryz.ntmps172
  go_wp2_with fail
  refine (impl_combined_RatMul A n c rs1 B d rs2 _ H1.out H2.out (by omega)).mono ?_
  rintro e w1 ⟨r, V, rfl, hr, ⟨hl, hf, L, ho, hh⟩, hb⟩
  have hrl : r.length = n := by rw [hr, List.length_zipWith, H1.out.1, H2.out.1, Nat.min_self]
  rw [hrl] at ho
  obtain ⟨A1, c1, rfl⟩ := ho.slice
  have HR := Lib.hid hr
  have HO := Lib.hid ho
  have HH := Lib.hid hh
  have HB := Lib.hid hb
  have HRL := Lib.hid hrl
  have HI : Hid (InV w1 A1 n r) := ho.in_ hh (by omega) hf
  clear hr ho hh hb hl hf hrl
  go_wp2_with fail
  refine (impl_checkedVector A1 n c1 r _ HI.out).mono ?_
  rintro e w2 ⟨hc, hb⟩
  have HB2 := Lib.hid (HB.out.trans (hb.mono HB.out.size))
  have HO2 := Lib.hid (HO.out.below hb)
  have hiff := zip_ok (f := rmul) (fun _ _ => rmul_ok) (a := rs1) (b := rs2) (by rw [H1.out.1, H2.out.1]) (by rw [H1.out.1]; omega)
  rw [← HR.out] at hiff
  rcases hc with ⟨hk, rfl⟩ | ⟨hk, rfl⟩
  · have HF : Hid (VecOkEnd (DoneIs (PairOk rs1 rs2) (List.zipWith rmul rs1 rs2)) w w2 (.returned (.tuple #[.slice A1 n c1, .bool true]))) := ⟨r, _, true, rfl, by rw [← HR.out]; exact .inl ⟨hiff.1 hk, rfl, rfl⟩, resV_mk hk.goods HRL.out HO2.out HH.out, HB2.out⟩
    clear hb hk hiff
    go_wp2_with fail
    go_ret2
    exact HF.out
  · have HF : Hid (VecOkEnd (DoneIs (PairOk rs1 rs2) (List.zipWith rmul rs1 rs2)) w w2 (.returned (.tuple #[.slice none 0 0, .bool false]))) := ⟨[], _, false, rfl, by rw [← HR.out]; exact .inr ⟨fun h => hk (hiff.2 h), rfl, rfl⟩, resV_nil _ _, HB2.out⟩
    clear hb hk hiff
    go_wp2_with fail
    go_ret2
    exact HF.out
set_option maxHeartbeats 800000 in
theorem impl_subtractVectors0 (A : Option Addr) (n c : Nat) (rs1 : List RD) (B : Option Addr) (m d : Nat) (rs2 : List RD) (w : World) (h1 : InV w A n rs1) (h2 : InV w B m rs2) :
    Calls Tryz.prog 216 #[.slice A n c, .slice B m d] w fun e w' => VecOkEnd (SubtractVectorsIs rs1 rs2) w w' e := by
  have H1 := Lib.hid h1
  have H2 := Lib.hid h2
  clear h1 h2
  go_enter Tryz.func216, Tryz.ntmps216
  go_wp2_with fail
  refine (impl_combine_RatSub A n c rs1 B m d rs2 _ H1.out H2.out).mono ?_
  rintro e w1 ⟨r, V, b, rfl, hq, hr, hb⟩
  have HF : Hid (VecOkEnd (SubtractVectorsIs rs1 rs2) w w1 (.returned (.tuple #[V, .bool b]))) := ⟨r, V, b, rfl, hq, hr, hb⟩
  obtain ⟨A1, c1, rfl⟩ : ∃ A1 c1, V = .slice A1 r.length c1 := by obtain ⟨_, _, L, ho, _⟩ := hr; exact ho.slice
  clear hq hr hb
  go_wp2_with fail
  go_ret2
  exact HF.out
theorem impl_subtractVectors (A : Option Addr) (n c : Nat) (rs1 : List RD) (B : Option Addr) (m d : Nat) (rs2 : List RD) (w : World) (h1 : InV w A n rs1) (h2 : InV w B m rs2) :
    Calls Tryz.prog 216 #[.slice A n c, .slice B m d] w fun e w' => ∃ r V b, e = .returned (.tuple #[V, .bool b]) ∧ SubtractVectorsIs rs1 rs2 r b ∧ ResV w w' V r ∧ Below w.heap.size w w' := (impl_subtractVectors0 A n c rs1 B m d rs2 w h1 h2).mono fun _ _ h => h
end Go.Proofs.YtjohglkfcefimaaGreat
