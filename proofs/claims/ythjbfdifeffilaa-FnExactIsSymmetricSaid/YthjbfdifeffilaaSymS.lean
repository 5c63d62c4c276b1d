/- Contracts of symmetric matrices, by the model: IsSymmetric, DiagonalOf. -/
import Derived.Test.YthjbfdifeffilaaMatS5
import Derived.Test.YthjbfdifeffilaaMatE
import Derived.Test.YthjbfdifeffilaaSym
import Derived.Deep.RegionWith
namespace Go.Proofs.Ythjbfdifeffilaa
set_option maxRecDepth 100000
open Go.RowKit

set_option maxHeartbeats 6400000 in
theorem spec_isSymmetric0 (p k : Int) (A : Option Addr) (n c : Nat) (rs : List RD) (w : World) (h : InV w A n rs) (hp : -9223372036854775808 ≤ p ∧ p ≤ 9223372036854775807) (hk : -9223372036854775808 ≤ k ∧ k ≤ 9223372036854775807) :
    Calls Try.prog 15 #[.agg #[.int .i64 p, .int .i64 k, .slice A n c]] w fun e w' => BoolEnd (IsSymmetricIs p k rs) w w' e := by
  obtain ⟨W0, hW0⟩ : ∃ W, W = (w.alloc (.cells #[.int .i64 p, .int .i64 k, .slice A n c] 25)) := ⟨_, rfl⟩
  have hm0_0 : Hid (Box W0 (w.heap.size) 25 #[.int .i64 p, .int .i64 k, .slice A n c]) := by rw [hW0]; exact (Box.at' (by simp))
  have BW_0 : Hid (Below w.heap.size w W0) := by rw [hW0]; exact ((Below.refl w.heap.size w).alloc (by simp) _)
  have hsz0 : w.heap.size + 1 ≤ W0.heap.size := by rw [hW0]; simp
  have HV := Lib.hid (h.below BW_0.out)
  clear h
  by_cases hM : MOk p k rs
  case neg =>
    have HM := Lib.hid hM
    clear hM
    go_enter Try.func15, Try.ntmps15
    go_upto_region 1 with fail
    rw [← hW0]
    clear hW0
    have D_0 := Lib.hid hm0_0.out.drew
    have B_0 := Lib.hid BW_0.out.drew
    have V_0 : Hid (InV W0.drew A n rs) := HV.out.below (Below.refl _ _).drew
    have ed0 := D_0.out.cell 0
    have ed1 := D_0.out.cell 1
    have ed2 := D_0.out.cell 2
    simp at ed0 ed1 ed2
    first | (go_region_with (first | (go_at_call 52; (with_reducible refine (spec_matrixOk0 p k A n c rs _ V_0.out hp hk).mono ?_); rintro e w1 ⟨b, rfl, hq1, hb1⟩; obtain rfl : b = false := (by cases b; rfl; exact absurd (hq1.1 rfl) HM.out); have B_1 := Lib.hid (B_0.out.trans (hb1.mono B_0.out.size)); clear hq1 hb1))) | fail
    all_goals
      have HF : Hid (BoolEnd (IsSymmetricIs p k rs) w w1 (.returned (.bool false))) := ⟨_, rfl, sym_no fun h => HM.out h.1, B_1.out⟩
      go_wp2_with fail
      go_ret
      exact HF.out
  have HM := Lib.hid hM
  clear hM
  by_cases hpk : p = k
  case neg =>
    have hf : (p == k) = false := by simp; exact hpk
    have HPK := Lib.hid hpk
    clear hpk
    go_enter Try.func15, Try.ntmps15
    go_upto_region 1 with fail
    rw [← hW0]
    clear hW0
    have D_0 := Lib.hid hm0_0.out.drew
    have B_0 := Lib.hid BW_0.out.drew
    have V_0 : Hid (InV W0.drew A n rs) := HV.out.below (Below.refl _ _).drew
    have ed0 := D_0.out.cell 0
    have ed1 := D_0.out.cell 1
    have ed2 := D_0.out.cell 2
    simp at ed0 ed1 ed2
    first | (go_region_with (first | (go_at_call 52; (with_reducible refine (spec_matrixOk0 p k A n c rs _ V_0.out hp hk).mono ?_); rintro e w1 ⟨b, rfl, hq1, hb1⟩; obtain rfl : b = true := (by cases b; exact absurd (hq1.2 HM.out) (by simp); rfl); have D_1 := Lib.hid (D_0.out.below hb1 D_0.out.lt); have B_1 := Lib.hid (B_0.out.trans (hb1.mono B_0.out.size)); have ee0 := D_1.out.cell 0; have ee1 := D_1.out.cell 1; have ee2 := D_1.out.cell 2; simp at ee0 ee1 ee2; clear hq1 hb1))) | fail
    all_goals
      have HF : Hid (BoolEnd (IsSymmetricIs p k rs) w w1 (.returned (.bool false))) := ⟨_, rfl, sym_no fun h => HPK.out h.2, B_1.out⟩
      go_wp2_with fail
      go_ret
      exact HF.out
  subst hpk
  have hp2 := HM.out.1
  obtain ⟨P, rfl⟩ : ∃ P : Nat, p = P := ⟨p.toNat, by omega⟩
  go_enter Try.func15, Try.ntmps15
  go_upto_region 1 with fail
  rw [← hW0]
  clear hW0
  have D_0 := Lib.hid hm0_0.out.drew
  have B_0 := Lib.hid BW_0.out.drew
  have V_0 : Hid (InV W0.drew A n rs) := HV.out.below (Below.refl _ _).drew
  go_region_held3 (fun w' => w'.cell? ⟨w.heap.size, 0, none⟩ = some (.int .i64 P) ∧ w'.cell? ⟨w.heap.size, 1, none⟩ = some (.int .i64 P) ∧ w'.cell? ⟨w.heap.size, 2, none⟩ = some (.slice A n c)) (first | with_reducible exact box3_far D_3 | with_reducible exact box3_far D_2 | with_reducible exact box3_far D_1 | with_reducible exact box3_far D_0) (first | (go_at_call 52; (with_reducible refine (spec_matrixOk0 P P A n c rs _ V_0.out hp hk).mono ?_); rintro e w1 ⟨b1, rfl, hq1, hb1⟩; obtain rfl : b1 = true := (by cases b1; exact absurd (hq1.2 HM.out) (by simp); rfl); have D_1 := Lib.hid (D_0.out.below hb1 D_0.out.lt); have B_1 := Lib.hid (B_0.out.trans (hb1.mono B_0.out.size)); have V_1 := Lib.hid (V_0.out.below hb1); clear hq1 hb1) | (go_at_call 53; (with_reducible refine (spec_equalMatrices0 P P A n c rs P P A2 N2 c2 r _ V_2.out HI2.out).mono ?_); rintro e w3 ⟨b, rfl, hq3, hb3⟩; have HE3 := Lib.hid hq3; have D_3 := Lib.hid (D_2.out.below hb3 D_2.out.lt); have B_3 := Lib.hid (B_2.out.trans (hb3.mono B_2.out.size)); clear hq3 hb3) | (go_at_call 37; (with_reducible refine (spec_l06Transpose P P A n c rs _ V_1.out HM.out).mono ?_); rintro e w2 ⟨q, j, r, V, rfl, ⟨rfl, rfl, hr⟩, hr1, hb2⟩; obtain ⟨N2, hN2⟩ : ∃ N2, r.length = N2 := ⟨_, rfl⟩; obtain ⟨A2, c2, rfl, hc2, hi2⟩ := resV_in hr1 hN2; have HT2 : Hid (TransposeIs P P rs P P r) := .inl ⟨HM.out, rfl, rfl, hr⟩; have HI2 := Lib.hid hi2; have V_2 := Lib.hid (V_1.out.below hb2); have D_2 := Lib.hid (D_1.out.below hb2 D_1.out.lt); have B_2 := Lib.hid (B_1.out.trans (hb2.mono B_1.out.size)); clear hr hr1 hN2 hi2 hb2))
  all_goals
    have HF : Hid (BoolEnd (IsSymmetricIs P P rs) w w3 (.returned (.bool b))) := ⟨b, rfl, sym_of HT2.out HE3.out, B_3.out⟩
    go_wp2_with fail
    go_ret
    exact HF.out
theorem spec_isSymmetric (p k : Int) (A : Option Addr) (n c : Nat) (rs : List RD) (w : World) (h : InV w A n rs) (hp : -9223372036854775808 ≤ p ∧ p ≤ 9223372036854775807) (hk : -9223372036854775808 ≤ k ∧ k ≤ 9223372036854775807) (_hc : n ≤ c) :
    Calls Try.prog 15 #[.agg #[.int .i64 p, .int .i64 k, .slice A n c]] w fun e w' => ∃ b, e = .returned (.bool b) ∧ IsSymmetricIs p k rs b ∧ Below w.heap.size w w' := (spec_isSymmetric0 p k A n c rs w h hp hk).mono fun _ _ h => h
set_option maxHeartbeats 6400000 in
theorem spec_diagonalOf0 (p k : Int) (A : Option Addr) (n c : Nat) (rs : List RD) (w : World) (h : InV w A n rs) (hp : -9223372036854775808 ≤ p ∧ p ≤ 9223372036854775807) (hk : -9223372036854775808 ≤ k ∧ k ≤ 9223372036854775807) :
    Calls Try.prog 19 #[.agg #[.int .i64 p, .int .i64 k, .slice A n c]] w fun e w' => VecEnd (DiagonalOfIs p k rs) w w' e := by
  obtain ⟨i0, hi, hz0, hz1, hz2⟩ := info_parts Try.infoR
  obtain ⟨W0, hW0⟩ : ∃ W, W = (w.alloc (.cells #[.int .i64 p, .int .i64 k, .slice A n c] 25)) := ⟨_, rfl⟩
  have hm0_0 : Hid (Box W0 (w.heap.size) 25 #[.int .i64 p, .int .i64 k, .slice A n c]) := by rw [hW0]; exact (Box.at' (by simp))
  have BW_0 : Hid (Below w.heap.size w W0) := by rw [hW0]; exact ((Below.refl w.heap.size w).alloc (by simp) _)
  have hsz0 : w.heap.size + 1 ≤ W0.heap.size := by rw [hW0]; simp
  have hn := h.2.1
  have HV := Lib.hid (h.below BW_0.out)
  clear h
  go_enter Try.func19, Try.ntmps19
  go_wp2_with fail
  rw [← hW0]
  clear hW0
  refine (spec_matrixOk0 p k A n c rs _ HV.out hp hk).mono ?_
  rintro e w1 ⟨b, rfl, hq, hb⟩
  have hm0_1 := Lib.hid (hm0_0.out.below hb hm0_0.out.lt)
  have BW_1 := Lib.hid (BW_0.out.trans (hb.mono BW_0.out.size))
  replace HV := Lib.hid (HV.out.below hb)
  clear hb
  have ehm00 := hm0_1.out.cell 0
  have ehm01 := hm0_1.out.cell 1
  have ehm02 := hm0_1.out.cell 2
  simp at ehm00 ehm01 ehm02
  cases b
  case false =>
    have HF : Hid (VecEnd (DiagonalOfIs p k rs) w w1 (.returned (.slice none 0 0))) := ⟨[], _, rfl, diag_no (fun h => (by have h1 := hq.2 h.1; cases h1)), resV_nil _ _, BW_1.out⟩
    clear hq
    go_wp2_with fail
    go_ret
    exact HF.out
  have HM := Lib.hid (hq.1 rfl)
  clear hq
  by_cases hpk : p = k
  case neg =>
    have hf : (p != k) = true := by simp; exact hpk
    have HF : Hid (VecEnd (DiagonalOfIs p k rs) w w1 (.returned (.slice none 0 0))) := ⟨[], _, rfl, diag_no (fun h => hpk h.2), resV_nil _ _, BW_1.out⟩
    clear hpk
    go_wp2_with fail
    go_ret
    exact HF.out
  subst hpk
  have hf : (p != p) = false := by simp
  have hp2 := HM.out.1
  obtain ⟨P, rfl⟩ : ∃ P : Nat, p = P := ⟨p.toNat, by omega⟩
  have hP24 : P ≤ 24 := by omega
  obtain ⟨zs, hzs⟩ : ∃ zs, zs = diag P rs := ⟨_, rfl⟩
  have HZ := Lib.hid hzs
  have HZL : Hid (zs.length = P) := by unfold Hid; rw [hzs, diag_length]
  have hs1 : w.heap.size ≤ w1.heap.size := BW_1.out.size
  clear hzs
  go_wp2_with fail
  clear ehm00 ehm01 ehm02
  have BM : Hid (Below w1.heap.size w1 (w1.alloc (.cells #[] 31))) := (Below.refl _ _).alloc (Nat.le_refl _) _
  go_loopw [3, 4] (fun x y wr => ∃ (i : Nat) (L : List El) (A1 : Option Addr) (c1 : Nat), i ≤ P ∧ y = .int .i64 i ∧ x = .slice A1 i c1 ∧ Hid (OwnV wr w1.heap.size (.slice A1 i c1) i L) ∧ Hid (Has L (zs.take i)) ∧ Hid (Below w1.heap.size w1 wr)) (fun _ y _ => P - (intOf y).toNat)
  case atStart => exact ⟨0, [], _, _, Nat.zero_le _, rfl, rfl, OwnV.empty _ _, by rw [List.take_zero]; exact trivial, BM⟩
  case round =>
    obtain ⟨i, L, A1, c1, hle, rfl, rfl, ho, hh, hb⟩ := hrel
    have hm0_o := Lib.hid (hm0_1.out.below hb.out hm0_1.out.lt)
    by_cases hlt : i < P
    · have hi0 : (0 : Int) ≤ (i : Int) := by omega
      have hi1 : (i : Int) < (P : Int) := by omega
      obtain ⟨r, hr, hrk⟩ := HM.out.at_ hlt hlt
      have HR := Lib.hid hr
      have hx24 : r.xs.length ≤ 24 := hrk.2.2.2.2.1
      have hd24 : r.ds.length ≤ 24 := hrk.2.2.2.2.2
      have HZI : Hid (zs[i]? = some ⟨r.g, r.xs, r.ds⟩) := by unfold Hid; rw [HZ.out]; exact diag_at hlt hr
      have HVi := Lib.hid (HV.out.below hb.out)
      have ehm00 := hm0_o.out.cell 0
      have ehm01 := hm0_o.out.cell 1
      have ehm02 := hm0_o.out.cell 2
      simp at ehm00 ehm01 ehm02
      clear hr hrk
      go_wp2_with fail
      clear ehm00 ehm01 ehm02
      refine (spec_l06At P P i i A n c rs r _ HVi.out HR.out (by omega) (by omega)).mono ?_
      rintro e w4 ⟨A6, n6, c6, B6, m6, d6, rfl, i6, ra6, j6, rb6, hb4⟩
      have hn6 := i6.2.1
      have hm6 := j6.2.1
      have HI6 := Lib.hid i6
      have HJ6 := Lib.hid j6
      have RA6 := Lib.hid ra6
      have RB6 := Lib.hid rb6
      have O_1 := Lib.hid (ho.out.below hb4)
      have B_1 := Lib.hid (hb.out.trans (hb4.mono hb.out.size))
      clear i6 j6 ra6 rb6 hb4
      go_wp2_with fail
      refine (spec_l04Copy r.g A6 n6 c6 r.xs B6 m6 d6 r.ds _ HI6.out RA6.out HJ6.out RB6.out hx24 hd24).mono ?_
      rintro e w5 ⟨g, l, v, dd, q, rfl, hq, q1, q2, hap, hc2⟩
      obtain ⟨k1, k2, k3⟩ := hq
      obtain ⟨A2, c2, rfl⟩ := own_slice q1.2
      obtain ⟨B2, d2, rfl⟩ := own_slice q2.2
      obtain ⟨s1, s2, s3, s4⟩ := new_el (g := g) O_1.out B_1.out hc2 q1 q2 hap
      have HH := Lib.hid (has_append (g := g) (r := l) (d := dd) (v := .slice A2 l.length c2) (u := .slice B2 dd.length d2) hh.out (by rw [k1, k2, k3]; exact HZI.out))
      have HO := Lib.hid s1
      have HE := Lib.hid s2
      have HFR := Lib.hid s3
      have HB := Lib.hid s4
      clear s1 s2 s3 s4 q1 q2 hap hc2 k1 k2 k3
      go_wp2_with (at_builtin; refine wpList_append_el rfl _ _ 23 rfl w1.heap.size i0 (.agg #[.bool false, .slice none 0 0, .slice none 0 0]) 56 Try.underlying23 hi hz0 hz1 hz2 rfl _ i L rfl HO.out ⟨g, .slice A2 l.length c2, l.length, l.map (.int .i64), .slice B2 dd.length d2, dd.length, dd.map (.int .i64)⟩ rfl HE.out HFR.out rfl rfl (by unfold maxLen; omega) (by omega) HB.out.size _ ?_)
      intro V' w6 s1 hg
      obtain ⟨A5, c5, rfl⟩ := s1.slice
      have HO3 := Lib.hid s1
      have HB3 := Lib.hid (below_app HB.out HO.out hg)
      clear s1 hg
      go_wp2_with fail
      go_roundw
      case rel => exact ⟨i + 1, _, A5, c5, by omega, by go_num, rfl, HO3, HH, HB3⟩
      case measure => simp [intOf]; omega
    · obtain rfl : i = P := by omega
      have HH : Hid (Has L zs) := by have := hh.out; rwa [List.take_of_length_le (by rw [HZL.out]; omega)] at this
      have HF : Hid (VecEnd (DiagonalOfIs i i rs) w wr (.returned (.slice A1 i c1))) := ⟨zs, _, rfl, .inl ⟨⟨HM.out, rfl⟩, by rw [HZ.out]; rfl⟩, resV_mk (by rw [HZ.out]; exact diag_goods HM.out) HZL.out (ho.out.lower hs1) HH.out, BW_1.out.trans (hb.out.mono BW_1.out.size)⟩
      have ehm00 := hm0_o.out.cell 0
      have ehm01 := hm0_o.out.cell 1
      have ehm02 := hm0_o.out.cell 2
      simp at ehm00 ehm01 ehm02
      go_wp2_with fail
      go_ret
      exact HF.out
theorem spec_diagonalOf (p k : Int) (A : Option Addr) (n c : Nat) (rs : List RD) (w : World) (h : InV w A n rs) (hp : -9223372036854775808 ≤ p ∧ p ≤ 9223372036854775807) (hk : -9223372036854775808 ≤ k ∧ k ≤ 9223372036854775807) (_hc : n ≤ c) :
    Calls Try.prog 19 #[.agg #[.int .i64 p, .int .i64 k, .slice A n c]] w fun e w' => ∃ r V, e = .returned V ∧ DiagonalOfIs p k rs r ∧ ResV w w' V r ∧ Below w.heap.size w w' := (spec_diagonalOf0 p k A n c rs w h hp hk).mono fun _ _ h => h
end Go.Proofs.Ythjbfdifeffilaa
