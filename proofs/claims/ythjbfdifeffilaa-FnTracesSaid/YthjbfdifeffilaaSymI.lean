/- Contracts of symmetric matrices, by the program: IsSymmetric, isSquare, DiagonalOf. -/
import Derived.Test.YthjbfdifeffilaaMatI5
import Derived.Test.YthjbfdifeffilaaMatE
import Derived.Test.YthjbfdifeffilaaSym
import Derived.Deep.RegionWith
namespace Go.Proofs.Ythjbfdifeffilaa
set_option maxRecDepth 100000
open Go.RowKit

set_option maxHeartbeats 3200000 in
theorem impl_isSymmetric0 (p k : Int) (A : Option Addr) (n c : Nat) (rs : List RD) (w : World) (h : InV w A n rs) (hp : -9223372036854775808 ≤ p ∧ p ≤ 9223372036854775807) (hk : -9223372036854775808 ≤ k ∧ k ≤ 9223372036854775807) (hc : n ≤ c) :
    Calls Try.prog 17 #[.agg #[.int .i64 p, .int .i64 k, .slice A n c]] w fun e w' => BoolEnd (IsSymmetricIs p k rs) w w' e := by
  obtain ⟨W0, hW0⟩ : ∃ W, W = (w.alloc (.cells #[.int .i64 p, .int .i64 k, .slice A n c] 25)) := ⟨_, rfl⟩
  have hm0_0 : Hid (Box W0 (w.heap.size) 25 #[.int .i64 p, .int .i64 k, .slice A n c]) := by rw [hW0]; exact (Box.at' (by simp))
  have BW_0 : Hid (Below w.heap.size w W0) := by rw [hW0]; exact ((Below.refl w.heap.size w).alloc (by simp) _)
  have hsz0 : w.heap.size + 1 ≤ W0.heap.size := by rw [hW0]; simp
  have HV := Lib.hid (h.below BW_0.out)
  clear h
  go_enter Try.func17, Try.ntmps17
  go_upto_region 1 with fail
  rw [← hW0]
  clear hW0
  have D_0 := Lib.hid hm0_0.out.drew
  have B_0 := Lib.hid BW_0.out.drew
  have V_0 : Hid (InV W0.drew A n rs) := HV.out.below (Below.refl _ _).drew
  go_region_held3 (fun w' => w'.cell? ⟨w.heap.size, 0, none⟩ = some (.int .i64 p) ∧ w'.cell? ⟨w.heap.size, 1, none⟩ = some (.int .i64 k) ∧ w'.cell? ⟨w.heap.size, 2, none⟩ = some (.slice A n c)) (first | with_reducible exact box3_far D_2 | with_reducible exact box3_far D_1 | with_reducible exact box3_far D_0) (first | (go_at_call 55; (with_reducible refine (impl_equalMatrices0 p k A n c rs q j A1 N1 c1 r _ V_1.out HI1.out).mono ?_); rintro e w2 ⟨b, rfl, hq2, hb2⟩; have HE2 := Lib.hid hq2; have D_2 := Lib.hid (D_1.out.below hb2 D_1.out.lt); have B_2 := Lib.hid (B_1.out.trans (hb2.mono B_1.out.size)); clear hq2 hb2) | (go_at_call 56; (with_reducible refine (impl_transpose0 p k A n c rs _ V_0.out hp hk hc).mono ?_); rintro e w1 ⟨q, j, r, V, rfl, hq1, hr1, hb1⟩; obtain ⟨N1, hN1⟩ : ∃ N1, r.length = N1 := ⟨_, rfl⟩; obtain ⟨A1, c1, rfl, hc1, hi1⟩ := resV_in hr1 hN1; have HT1 := Lib.hid hq1; have HI1 := Lib.hid hi1; have V_1 := Lib.hid (V_0.out.below hb1); have D_1 := Lib.hid (D_0.out.below hb1 D_0.out.lt); have B_1 := Lib.hid (B_0.out.trans (hb1.mono B_0.out.size)); clear hq1 hr1 hN1 hi1 hb1))
  all_goals
    have HF : Hid (BoolEnd (IsSymmetricIs p k rs) w w2 (.returned (.bool b))) := ⟨b, rfl, sym_of HT1.out HE2.out, B_2.out⟩
    go_wp2_with fail
    go_ret
    exact HF.out
theorem impl_isSymmetric (p k : Int) (A : Option Addr) (n c : Nat) (rs : List RD) (w : World) (h : InV w A n rs) (hp : -9223372036854775808 ≤ p ∧ p ≤ 9223372036854775807) (hk : -9223372036854775808 ≤ k ∧ k ≤ 9223372036854775807) (hc : n ≤ c) :
    Calls Try.prog 17 #[.agg #[.int .i64 p, .int .i64 k, .slice A n c]] w fun e w' => ∃ b, e = .returned (.bool b) ∧ IsSymmetricIs p k rs b ∧ Below w.heap.size w w' := (impl_isSymmetric0 p k A n c rs w h hp hk hc).mono fun _ _ h => h
set_option maxHeartbeats 3200000 in
theorem impl_isSquare (p k : Int) (A : Option Addr) (n c : Nat) (rs : List RD) (w : World) (h : InV w A n rs) (hp : -9223372036854775808 ≤ p ∧ p ≤ 9223372036854775807) (hk : -9223372036854775808 ≤ k ∧ k ≤ 9223372036854775807) (hc : n ≤ c) :
    Calls Try.prog 42 #[.agg #[.int .i64 p, .int .i64 k, .slice A n c]] w fun e w' => BoolEnd (fun b => b = true ↔ (MOk p k rs ∧ p = k)) w w' e := by
  obtain ⟨W0, hW0⟩ : ∃ W, W = (w.alloc (.cells #[.int .i64 p, .int .i64 k, .slice A n c] 25)) := ⟨_, rfl⟩
  have hm0_0 : Hid (Box W0 (w.heap.size) 25 #[.int .i64 p, .int .i64 k, .slice A n c]) := by rw [hW0]; exact (Box.at' (by simp))
  have BW_0 : Hid (Below w.heap.size w W0) := by rw [hW0]; exact ((Below.refl w.heap.size w).alloc (by simp) _)
  have hsz0 : w.heap.size + 1 ≤ W0.heap.size := by rw [hW0]; simp
  have HV := Lib.hid (h.below BW_0.out)
  clear h
  go_enter Try.func42, Try.ntmps42
  go_wp2_with fail
  rw [← hW0]
  clear hW0
  refine (impl_matrixOk0 p k A n c rs _ HV.out hp hk hc).mono ?_
  rintro e w1 ⟨b, rfl, hq, hb⟩
  have hm0_1 := Lib.hid (hm0_0.out.below hb hm0_0.out.lt)
  have BW_1 := Lib.hid (BW_0.out.trans (hb.mono BW_0.out.size))
  replace HV := Lib.hid (HV.out.below hb)
  clear hb
  have ehm00 := hm0_1.out.cell 0
  have ehm01 := hm0_1.out.cell 1
  have ehm02 := hm0_1.out.cell 2
  simp at ehm00 ehm01 ehm02
  cases b
  case false =>
    have HF : Hid (BoolEnd (fun b => b = true ↔ (MOk p k rs ∧ p = k)) w w1 (.returned (.bool false))) := ⟨false, rfl, ⟨fun h => (by cases h), fun h => (by have h1 := hq.2 h.1; cases h1)⟩, BW_1.out⟩
    clear hq
    go_wp2_with fail
    go_ret
    exact HF.out
  have HF : Hid (BoolEnd (fun b => b = true ↔ (MOk p k rs ∧ p = k)) w w1 (.returned (.bool (p == k)))) := ⟨_, rfl, ⟨fun h => ⟨hq.1 rfl, beq_iff_eq.1 h⟩, fun h => beq_iff_eq.2 h.2⟩, BW_1.out⟩
  clear hq
  go_wp2_with fail
  go_ret
  exact HF.out
set_option maxHeartbeats 6400000 in
theorem impl_diagonalOf0 (p k : Int) (A : Option Addr) (n c : Nat) (rs : List RD) (w : World) (h : InV w A n rs) (hp : -9223372036854775808 ≤ p ∧ p ≤ 9223372036854775807) (hk : -9223372036854775808 ≤ k ∧ k ≤ 9223372036854775807) (hc : n ≤ c) :
    Calls Try.prog 10 #[.agg #[.int .i64 p, .int .i64 k, .slice A n c]] w fun e w' => VecEnd (DiagonalOfIs p k rs) w w' e := by
  obtain ⟨i0, hi, hz0, hz1, hz2⟩ := info_parts Try.infoR
  obtain ⟨W0, hW0⟩ : ∃ W, W = (w.alloc (.cells #[.int .i64 p, .int .i64 k, .slice A n c] 25)) := ⟨_, rfl⟩
  have hm0_0 : Hid (Box W0 (w.heap.size) 25 #[.int .i64 p, .int .i64 k, .slice A n c]) := by rw [hW0]; exact (Box.at' (by simp))
  have BW_0 : Hid (Below w.heap.size w W0) := by rw [hW0]; exact ((Below.refl w.heap.size w).alloc (by simp) _)
  have hsz0 : w.heap.size + 1 ≤ W0.heap.size := by rw [hW0]; simp
  have hn := h.2.1
  have HV := Lib.hid (h.below BW_0.out)
  clear h
  go_enter Try.func10, Try.ntmps10
  go_wp2_with fail
  rw [← hW0]
  clear hW0
  refine (impl_isSquare p k A n c rs _ HV.out hp hk hc).mono ?_
  rintro e w1 ⟨b, rfl, hq, hb⟩
  have hm0_1 := Lib.hid (hm0_0.out.below hb hm0_0.out.lt)
  have BW_1 := Lib.hid (BW_0.out.trans (hb.mono BW_0.out.size))
  replace HV := Lib.hid (HV.out.below hb)
  clear hb
  have ehm00 := hm0_1.out.cell 0
  have ehm01 := hm0_1.out.cell 1
  have ehm02 := hm0_1.out.cell 2
  simp at ehm00 ehm01 ehm02
  cases b
  case false =>
    have HF : Hid (VecEnd (DiagonalOfIs p k rs) w w1 (.returned (.slice none 0 0))) := ⟨[], _, rfl, diag_no (fun h => (by have h1 := hq.2 h; cases h1)), resV_nil _ _, BW_1.out⟩
    clear hq
    go_wp2_with fail
    go_ret
    exact HF.out
  obtain ⟨hM, hpk⟩ := hq.1 rfl
  clear hq
  subst hpk
  have HM := Lib.hid hM
  have hp2 := hM.1
  obtain ⟨P, rfl⟩ : ∃ P : Nat, p = P := ⟨p.toNat, by omega⟩
  have hP24 : P ≤ 24 := by omega
  obtain ⟨zs, hzs⟩ : ∃ zs, zs = diag P rs := ⟨_, rfl⟩
  have HZ := Lib.hid hzs
  have HZL : Hid (zs.length = P) := by unfold Hid; rw [hzs, diag_length]
  have HNP : Hid (n = P * P) := by have h1 := hM.plen; rw [HV.out.1] at h1; exact h1
  have hs1 : w.heap.size ≤ w1.heap.size := BW_1.out.size
  clear hzs hM
  go_wp2_with (refine wpList_make_full _ rfl _ _ 23 rfl w1.heap.size 31 i0 (.agg #[.bool false, .slice none 0 0, .slice none 0 0]) 3 Try.underlying23 hi hz0 hz1 _ _ _ _ P rfl rfl rfl rfl ?c1 ?c2 ?c3 ?_)
  case c1 => rw [hz2]; omega
  case c2 => unfold maxLen; omega
  case c3 => exact Nat.le_refl _
  intro w3 ho hg
  have hbm : Below w1.heap.size w1 w3 := (Below.refl w1.heap.size w1).grown hg (Nat.le_refl _) (fun k hk => by cases hk)
  have BM := Lib.hid hbm
  have O3 := Lib.hid (OwnV.made ho)
  clear ho hg hbm
  clear ehm00 ehm01 ehm02
  go_wp2_with fail
  go_loopw [13] (fun y wr => ∃ (i : Nat) (L : List El), i ≤ P ∧ y = .int .i64 i ∧ Hid (OwnV wr w1.heap.size (.slice (some ⟨w1.heap.size, 0, none⟩) P P) P L) ∧ Hid (Has L (upTo zs i P)) ∧ Hid (Below w1.heap.size w1 wr)) (fun y _ => P - (intOf y).toNat)
  case atStart => exact ⟨0, _, Nat.zero_le _, rfl, O3, by rw [upTo_zero]; exact has_zeros P, BM⟩
  case round =>
    obtain ⟨i, L, hle, rfl, ho, hh, hb⟩ := hrel
    by_cases hlt : i < P
    · have hi0 : (0 : Int) ≤ (i : Int) := by omega
      have hi1 : (i : Int) < (P : Int) := by omega
      have hir : i * P + P ≤ n := by rw [HNP.out]; exact row_le hlt
      have hm0_o := Lib.hid (hm0_1.out.below hb.out hm0_1.out.lt)
      have ehm00 := hm0_o.out.cell 0
      have ehm01 := hm0_o.out.cell 1
      have ehm02 := hm0_o.out.cell 2
      simp at ehm00 ehm01 ehm02
      go_wp2_with fail
      clear ehm00 ehm01 ehm02
      refine (impl_rowAt P P i A n c _ hir hn hc HV.out.some_ (by omega) hP24).mono ?_
      rintro e w4 ⟨A', c', rfl, _, hat, hb4⟩
      have HVR : Hid (InV w1 A' P (mrow P rs i)) := HV.out.row hat hir hP24
      have O4 := Lib.hid (ho.out.below hb4)
      have B4 := Lib.hid (hb.out.trans (hb4.mono hb.out.size))
      clear hat hb4 ho hb
      obtain ⟨b2, o2, rfl, hb2, r2, hr2, A4, n4, c4, B4', m4, d4, at2, i2, ra2, j2, rb2⟩ := HVR.out.atB B4.out i hlt
      have hr3 : rs[i * P + i]? = some r2 := by rw [← mrow_at (rs := rs) (i := i) hlt]; exact hr2
      have hrk : r2.ok := HM.out.all _ (List.mem_of_getElem? hr3)
      have hx24 : r2.xs.length ≤ 24 := hrk.2.2.2.2.1
      have hd24 : r2.ds.length ≤ 24 := hrk.2.2.2.2.2
      have HZI : Hid (zs[i]? = some ⟨r2.g, r2.xs, r2.ds⟩) := by unfold Hid; rw [HZ.out]; exact diag_at hlt hr3
      have I2 := Lib.hid i2
      have J2 := Lib.hid j2
      have RA2 := Lib.hid ra2
      have RB2 := Lib.hid rb2
      have hn4 := i2.2.1
      have hm4 := j2.2.1
      obtain ⟨e20, e21, e22⟩ := at2
      clear i2 j2 hr2 hr3 ra2 rb2
      go_wp2_with fail
      clear e20 e21 e22
      refine (impl_copyOfRat r2.g A4 n4 c4 r2.xs B4' m4 d4 r2.ds _ I2.out RA2.out J2.out RB2.out hx24 hd24).mono ?_
      rintro e w5 ⟨g, r, vv, dd, q, rfl, hq, q1, q2, hap, hc2⟩
      obtain ⟨k1, k2, k3⟩ := hq
      obtain ⟨A6, c6, rfl⟩ := own_slice q1.2
      obtain ⟨B6, d6, rfl⟩ := own_slice q2.2
      obtain ⟨⟨x0, x1, x2, p0, p1, p2, f0, f1, f2⟩, s1, s2⟩ := store_el (g := g) O4.out B4.out hc2 hlt q1 q2 hap
      have HO := Lib.hid s1
      have HB := Lib.hid s2
      have HH : Hid (Has _ (upTo zs (i + 1) P)) := Lib.hid (has_store (g := g) (r := r) (d := dd) (v := .slice A6 r.length c6) (u := .slice B6 dd.length d6) hh.out (by rw [k1, k2, k3]; exact HZI.out) hlt)
      clear s1 s2 k1 k2 k3 q1 q2 hap hc2
      go_wp2_with fail
      go_roundw
      case rel => exact ⟨i + 1, _, by omega, by go_num, HO, HH, HB⟩
      case measure => simp [intOf]; omega
    · obtain rfl : i = P := by omega
      have HH : Hid (Has L zs) := by rw [← upTo_all HZL.out]; exact hh
      have HF : Hid (VecEnd (DiagonalOfIs i i rs) w wr (.returned (.slice (some ⟨w1.heap.size, 0, none⟩) i i))) := ⟨zs, _, rfl, .inl ⟨⟨HM.out, rfl⟩, by rw [HZ.out]; rfl⟩, resV_mk (by rw [HZ.out]; exact diag_goods HM.out) HZL.out (ho.out.lower hs1) HH.out, BW_1.out.trans (hb.out.mono BW_1.out.size)⟩
      go_wp2_with fail
      go_ret
      exact HF.out
theorem impl_diagonalOf (p k : Int) (A : Option Addr) (n c : Nat) (rs : List RD) (w : World) (h : InV w A n rs) (hp : -9223372036854775808 ≤ p ∧ p ≤ 9223372036854775807) (hk : -9223372036854775808 ≤ k ∧ k ≤ 9223372036854775807) (hc : n ≤ c) :
    Calls Try.prog 10 #[.agg #[.int .i64 p, .int .i64 k, .slice A n c]] w fun e w' => ∃ r V, e = .returned V ∧ DiagonalOfIs p k rs r ∧ ResV w w' V r ∧ Below w.heap.size w w' := (impl_diagonalOf0 p k A n c rs w h hp hk hc).mono fun _ _ h => h
end Go.Proofs.Ythjbfdifeffilaa
