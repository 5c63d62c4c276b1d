/- Contracts of symmetric matrices, by the model: IsSymmetric, DiagonalOf. -/
import Derived.Test.YtdehcddjkcpnfaaGreatMatS5
import Derived.Test.YtdehcddjkcpnfaaGreatMatE
import Derived.Test.YtdehcddjkcpnfaaGreatSym
import Derived.Deep.RegionWith
namespace Go.Proofs.YtdehcddjkcpnfaaGreat
set_option maxRecDepth 100000
open Go.RowKit

set_option maxHeartbeats 6400000 in
theorem spec_isSymmetric0 (p k : Int) (A : Option Addr) (n c : Nat) (rs : List RD) (w : World) (h : InV w A n rs) (hp : -9223372036854775808 ≤ p ∧ p ≤ 9223372036854775807) (hk : -9223372036854775808 ≤ k ∧ k ≤ 9223372036854775807) :
    Calls Tryz.prog 77 #[.agg #[.int .i64 p, .int .i64 k, .slice A n c]] w fun e w' => BoolEnd (IsSymmetricIs p k rs) w w' e := by
  obtain ⟨W0, hW0⟩ : ∃ W, W = (w.alloc (.cells #[.int .i64 p, .int .i64 k, .slice A n c] 47)) := ⟨_, rfl⟩
  have hm0_0 : Hid (Box W0 (w.heap.size) 47 #[.int .i64 p, .int .i64 k, .slice A n c]) := by rw [hW0]; exact (Box.at' (by simp))
  have BW_0 : Hid (Below w.heap.size w W0) := by rw [hW0]; exact ((Below.refl w.heap.size w).alloc (by simp) _)
  have hsz0 : w.heap.size + 1 ≤ W0.heap.size := by rw [hW0]; simp
  have HV := Lib.hid (h.below BW_0.out)
  clear h
  by_cases hM : MOk p k rs
  case neg =>
    have HM := Lib.hid hM
    clear hM
    go_enter Tryz.func77, Tryz.ntmps77
    go_upto_region 1 with fail
    rw [← hW0]
    clear hW0
    have D_0 := Lib.hid hm0_0.out.drew
    have B_0 := Lib.hid BW_0.out.drew
    have V_0 : Hid (InV W0.drew A n rs) := HV.out.below (Below.refl _ _).drew
    have ed0 := D_0.out.cell 0
    have ed1 := D_0.out.cell 1
    have ed2 := D_0.out.cell 2
    simp at ed0 ed1 ed2
    first | (go_region_with (first | (go_at_call 138; (with_reducible refine (spec_matrixOk0 p k A n c rs _ V_0.out hp hk).mono ?_); rintro e w1 ⟨b, rfl, hq1, hb1⟩; obtain rfl : b = false := (by cases b; rfl; exact absurd (hq1.1 rfl) HM.out); have B_1 := Lib.hid (B_0.out.trans (hb1.mono B_0.out.size)); clear hq1 hb1))) | fail
    all_goals
      have HF : Hid (BoolEnd (IsSymmetricIs p k rs) w w1 (.returned (.bool false))) := ⟨_, rfl, sym_no fun h => HM.out h.1, B_1.out⟩
      go_wp2_with fail
      go_ret
      exact HF.out
  have HM := Lib.hid hM
  clear hM
  by_cases hpk : p = k
  case neg =>
    have hf : (p == k) = false := by simp; exact hpk
    have HPK := Lib.hid hpk
    clear hpk
    go_enter Tryz.func77, Tryz.ntmps77
    go_upto_region 1 with fail
    rw [← hW0]
    clear hW0
    have D_0 := Lib.hid hm0_0.out.drew
    have B_0 := Lib.hid BW_0.out.drew
    have V_0 : Hid (InV W0.drew A n rs) := HV.out.below (Below.refl _ _).drew
    have ed0 := D_0.out.cell 0
    have ed1 := D_0.out.cell 1
    have ed2 := D_0.out.cell 2
    simp at ed0 ed1 ed2
    first | (go_region_with (first | (go_at_call 138; (with_reducible refine (spec_matrixOk0 p k A n c rs _ V_0.out hp hk).mono ?_); rintro e w1 ⟨b, rfl, hq1, hb1⟩; obtain rfl : b = true := (by cases b; exact absurd (hq1.2 HM.out) (by simp); rfl); have D_1 := Lib.hid (D_0.out.below hb1 D_0.out.lt); have B_1 := Lib.hid (B_0.out.trans (hb1.mono B_0.out.size)); have ee0 := D_1.out.cell 0; have ee1 := D_1.out.cell 1; have ee2 := D_1.out.cell 2; simp at ee0 ee1 ee2; clear hq1 hb1))) | fail
    all_goals
      have HF : Hid (BoolEnd (IsSymmetricIs p k rs) w w1 (.returned (.bool false))) := ⟨_, rfl, sym_no fun h => HPK.out h.2, B_1.out⟩
      go_wp2_with fail
      go_ret
      exact HF.out
  subst hpk
  have hp2 := HM.out.1
  obtain ⟨P, rfl⟩ : ∃ P : Nat, p = P := ⟨p.toNat, by omega⟩
  go_enter Tryz.func77, Tryz.ntmps77
  go_upto_region 1 with fail
  rw [← hW0]
  clear hW0
  have D_0 := Lib.hid hm0_0.out.drew
  have B_0 := Lib.hid BW_0.out.drew
  have V_0 : Hid (InV W0.drew A n rs) := HV.out.below (Below.refl _ _).drew
  go_region_held3 (fun w' => w'.cell? ⟨w.heap.size, 0, none⟩ = some (.int .i64 P) ∧ w'.cell? ⟨w.heap.size, 1, none⟩ = some (.int .i64 P) ∧ w'.cell? ⟨w.heap.size, 2, none⟩ = some (.slice A n c)) (first | with_reducible exact box3_far D_3 | with_reducible exact box3_far D_2 | with_reducible exact box3_far D_1 | with_reducible exact box3_far D_0) (first | (go_at_call 138; (with_reducible refine (spec_matrixOk0 P P A n c rs _ V_0.out hp hk).mono ?_); rintro e w1 ⟨b1, rfl, hq1, hb1⟩; obtain rfl : b1 = true := (by cases b1; exact absurd (hq1.2 HM.out) (by simp); rfl); have D_1 := Lib.hid (D_0.out.below hb1 D_0.out.lt); have B_1 := Lib.hid (B_0.out.trans (hb1.mono B_0.out.size)); have V_1 := Lib.hid (V_0.out.below hb1); clear hq1 hb1) | (go_at_call 139; (with_reducible refine (spec_equalMatrices0 P P A n c rs P P A2 N2 c2 r _ V_2.out HI2.out).mono ?_); rintro e w3 ⟨b, rfl, hq3, hb3⟩; have HE3 := Lib.hid hq3; have D_3 := Lib.hid (D_2.out.below hb3 D_2.out.lt); have B_3 := Lib.hid (B_2.out.trans (hb3.mono B_2.out.size)); clear hq3 hb3) | (go_at_call 85; (with_reducible refine (spec_l06Transpose P P A n c rs _ V_1.out HM.out).mono ?_); rintro e w2 ⟨q, j, r, V, rfl, ⟨rfl, rfl, hr⟩, hr1, hb2⟩; obtain ⟨N2, hN2⟩ : ∃ N2, r.length = N2 := ⟨_, rfl⟩; obtain ⟨A2, c2, rfl, hc2, hi2⟩ := resV_in hr1 hN2; have HT2 : Hid (TransposeIs P P rs P P r) := .inl ⟨HM.out, rfl, rfl, hr⟩; have HI2 := Lib.hid hi2; have V_2 := Lib.hid (V_1.out.below hb2); have D_2 := Lib.hid (D_1.out.below hb2 D_1.out.lt); have B_2 := Lib.hid (B_1.out.trans (hb2.mono B_1.out.size)); clear hr hr1 hN2 hi2 hb2))
  all_goals
    have HF : Hid (BoolEnd (IsSymmetricIs P P rs) w w3 (.returned (.bool b))) := ⟨b, rfl, sym_of HT2.out HE3.out, B_3.out⟩
    go_wp2_with fail
    go_ret
    exact HF.out
end Go.Proofs.YtdehcddjkcpnfaaGreat
