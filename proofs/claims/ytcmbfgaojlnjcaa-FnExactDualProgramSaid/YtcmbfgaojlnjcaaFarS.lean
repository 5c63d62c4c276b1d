/- Contracts of the programs that search for certificates, by the model. -/
import Derived.Test.YtcmbfgaojlnjcaaFarD
import Derived.Test.YtcmbfgaojlnjcaaLpS
import Derived.Test.YtcmbfgaojlnjcaaAppZ
namespace Go.Proofs.Ytcmbfgaojlnjcaa
set_option maxRecDepth 100000
open Go.RowKit

set_option maxHeartbeats 3200000 in
theorem spec_l11Fits (p k : Int) (A : Option Addr) (n c : Nat) (la : List Int) (B : Option Addr) (m d : Nat) (lb : List Int) (C : Option Addr) (l f : Nat) (lc : List Int) (w : World) (h : InP w A n la B m lb C l lc) :
    Calls Try.prog 53 #[.agg #[.int .i64 p, .int .i64 k, .slice A n c, .slice B m d, .slice C l f]] w fun e w' => LpOkEnd (Fits ⟨p, k, la, lb, lc⟩) w w' e := by
  obtain ⟨W0, hW0⟩ : ∃ W, W = (w.alloc (.cells #[.int .i64 p, .int .i64 k, .slice A n c, .slice B m d, .slice C l f] 26)) := ⟨_, rfl⟩
  have hp0_0 : Hid (Box W0 (w.heap.size) 26 #[.int .i64 p, .int .i64 k, .slice A n c, .slice B m d, .slice C l f]) := by rw [hW0]; exact (Box.at' (by simp))
  have BW_0 : Hid (Below w.heap.size w W0) := by rw [hW0]; exact ((Below.refl w.heap.size w).alloc (by simp) _)
  have hsz0 : w.heap.size + 1 ≤ W0.heap.size := by rw [hW0]; simp
  have HI := Lib.hid (h.below BW_0.out)
  clear h
  go_enter Try.func53, Try.ntmps53
  go_wp2_with fail
  rw [← hW0]
  clear hW0
  refine (spec_programOk0 p k A n c la B m d lb C l f lc _ HI.out).mono ?_
  rintro e w1 ⟨b1, rfl, h1, hb⟩
  have hp0_1 := Lib.hid (hp0_0.out.below hb hp0_0.out.lt)
  have BW_1 := Lib.hid (BW_0.out.trans (hb.mono BW_0.out.size))
  clear hb
  have H1 := Lib.hid h1
  clear h1
  have ehp00 := hp0_1.out.cell 0
  have ehp01 := hp0_1.out.cell 1
  have ehp02 := hp0_1.out.cell 2
  have ehp03 := hp0_1.out.cell 3
  have ehp04 := hp0_1.out.cell 4
  simp at ehp00 ehp01 ehp02 ehp03 ehp04
  cases b1
  case false =>
    have HF : Hid (LpOkEnd (Fits ⟨p, k, la, lb, lc⟩) w w1 (.returned (.bool false))) := lpOk_no (fun q => by have := H1.out.2 q.1; cases this) BW_1.out
    go_wp2_with fail
    go_ret
    exact HF.out
  by_cases hp9 : p ≤ 9
  · have HF : Hid (LpOkEnd (Fits ⟨p, k, la, lb, lc⟩) w w1 (.returned (.bool (decide (k ≤ 16))))) := ⟨_, rfl, ⟨fun h => ⟨H1.out.1 rfl, hp9, of_decide_eq_true h⟩, fun q => decide_eq_true q.2.2⟩, BW_1.out⟩
    go_wp2_with fail
    go_ret
    exact HF.out
  · have HF : Hid (LpOkEnd (Fits ⟨p, k, la, lb, lc⟩) w w1 (.returned (.bool false))) := lpOk_no (fun q => hp9 q.2.1) BW_1.out
    go_wp2_with fail
    go_ret
    exact HF.out
theorem frows_le {K P j : Nat} {la : List Int} (hj : j ≤ K) (hP : P ≤ 9) (hK : K ≤ 16) : (frows K la P j).length ≤ 544 := by
  rw [frows_length]
  exact Nat.le_trans (Nat.mul_le_mul (show j ≤ 16 by omega) (show P + P + K ≤ 34 by omega)) (by decide)
theorem own_len' {w : World} {base n : Nat} {v : Value} {xs : List Int} (h : w.ownsRow base 3 1 v n (xs.map (.int .i64))) : xs.length = n := by have := h.1; simpa using this
set_option maxHeartbeats 12800000 in
theorem spec_l11Rows (P K : Nat) (A : Option Addr) (n c : Nat) (la : List Int) (B : Option Addr) (m d : Nat) (C : Option Addr) (l f : Nat) (w : World) (h : InI w A n la) (hl : n = P * K) (hP : P ≤ 9) (hK : K ≤ 16) (he : Ent la) :
    Calls Try.prog 54 #[.agg #[.int .i64 P, .int .i64 K, .slice A n c, .slice B m d, .slice C l f]] w fun e w' => IntsEnd (frows K la P K) w w' e := by
  obtain ⟨i0, hi, hz0, hz1, hz2⟩ := info_parts Try.infoI
  obtain ⟨W0, hW0⟩ : ∃ W, W = (w.alloc (.cells #[.int .i64 P, .int .i64 K, .slice A n c, .slice B m d, .slice C l f] 26)) := ⟨_, rfl⟩
  have hp0_0 : Hid (Box W0 (w.heap.size) 26 #[.int .i64 P, .int .i64 K, .slice A n c, .slice B m d, .slice C l f]) := by rw [hW0]; exact (Box.at' (by simp))
  have BW_0 : Hid (Below w.heap.size w W0) := by rw [hW0]; exact ((Below.refl w.heap.size w).alloc (by simp) _)
  have hsz0 : w.heap.size + 1 ≤ W0.heap.size := by rw [hW0]; simp
  have HI := Lib.hid (h.below BW_0.out)
  have HL := Lib.hid hl
  have HE := Lib.hid he
  clear h hl he
  go_enter Try.func54, Try.ntmps54
  go_upto_region 1 with fail
  rw [← hW0]
  clear hW0
  go_wp2_with fail
  have O0 : Hid ((W0.alloc (.cells #[] 3)).ownsRow W0.heap.size 3 1 (.slice (some ⟨W0.heap.size, 0, none⟩) 0 0) 0 ((frows K la P 0).map (.int .i64))) := World.ownsRow_lit W0 (e := 3) (size := 1) #[] 0 (Nat.le_refl _) (by simp) (by simp)
  have B0 : Hid (Below W0.heap.size W0 (W0.alloc (.cells #[] 3))) := (Below.refl _ _).alloc (Nat.le_refl _) _
  go_loopw [3, 4] (fun x y wr => ∃ j N : Nat, j ≤ K ∧ y = .int .i64 j ∧ N ≤ 544 ∧ Hid (wr.ownsRow W0.heap.size 3 1 x N ((frows K la P j).map (.int .i64))) ∧ Hid (Below W0.heap.size W0 wr)) (fun _ y _ => K - (intOf y).toNat)
  case atStart => exact ⟨0, 0, Nat.zero_le _, rfl, by omega, O0, B0⟩
  case round =>
    clear O0 B0
    obtain ⟨j, N, hjK, rfl, hN, ho, hb⟩ := hrel
    have hp0_1 := Lib.hid (hp0_0.out.below hb.out hp0_0.out.lt)
    have ehp00 := hp0_1.out.cell 0
    have ehp01 := hp0_1.out.cell 1
    have ehp02 := hp0_1.out.cell 2
    have ehp03 := hp0_1.out.cell 3
    have ehp04 := hp0_1.out.cell 4
    simp at ehp00 ehp01 ehp02 ehp03 ehp04
    by_cases hlt : j < K
    · have hjj : (j : Int) < (K : Int) := by omega
      go_wp2_with fail
      clear ehp00 ehp01 ehp02 ehp03 ehp04
      refine (spec_l09Column P K j A n c la B m d C l f _ (HI.out.below hb.out) HL.out hlt (by omega)).mono ?_
      rintro e w2 ⟨v2, rfl, ⟨_, hv2⟩, hb2⟩
      obtain ⟨zs, hzs⟩ : ∃ zs, zs = lcol K la P j := ⟨_, rfl⟩
      have HZ := Lib.hid hzs
      have HZL : Hid (zs.length = P) := by rw [hzs]; exact lcol_length _ _ _ _
      have HZE : Hid (Ent zs) := by rw [hzs]; exact ent_lcol HE.out
      rw [← hzs] at hv2
      rw [HZL.out] at hv2
      obtain ⟨A2, c2, rfl⟩ := own_slice hv2
      have HV := Lib.hid hv2
      have HVA := Lib.hid (apart_older' ho.out hv2)
      have O2 := Lib.hid (own_below ho.out hb2)
      have B2 := Lib.hid (hb.out.trans (hb2.mono hb.out.size))
      have hs2 : W0.heap.size ≤ w2.heap.size := B2.out.size
      have hsr : W0.heap.size ≤ wr.heap.size := hb.out.size
      clear hv2 hb2 hzs ho hb
      go_wp2_with (at_builtin; refine wpList_append_reads_at rfl _ _ 22 rfl W0.heap.size 3 i0 (.int .i64 0) 8 Try.underlying22 hi hz0 hz1 hz2 rfl _ _ _ rfl O2.out A2 P c2 (zs.map (.int .i64)) rfl (by rw [List.length_map]; exact HZL.out) (Reads.of_own HV.out) (by simp [Value.oneCell']) (by unfold maxLen; omega) (by omega) hs2 ?_)
      intro v3 w3 hown hg hat
      have O3 : Hid (w3.ownsRow W0.heap.size 3 1 v3 (N + P) ((frows K la P j ++ zs ++ (ineg zs).take 0).map (.int .i64))) := by rw [List.take_zero, List.append_nil, List.map_append]; exact hown
      have V3 := Lib.hid (HV.out.kept hg (apart_of HVA.out))
      have B3 := Lib.hid (B2.out.grown hg hs2 (fun k hk => (O2.out.lt k hk).1))
      have A3 := Lib.hid (apart_grew HVA.out (fun k hk => (HV.out.lt k hk).2) hat)
      clear hown hg hat O2 HV HVA B2 hs2
      go_wp2_with fail
      go_loopw [3, 25] (fun x y wi => ∃ i : Nat, i ≤ P ∧ y = .int .i64 i ∧ Hid (wi.ownsRow W0.heap.size 3 1 x (N + P + i) ((frows K la P j ++ zs ++ (ineg zs).take i).map (.int .i64))) ∧ Hid (wi.ownsRow wr.heap.size 3 1 (.slice A2 P c2) P (zs.map (.int .i64))) ∧ Hid (Apart (.slice A2 P c2) x) ∧ Hid (Below W0.heap.size W0 wi)) (fun _ y _ => P - (intOf y).toNat)
      case atStart => exact ⟨0, Nat.zero_le _, rfl, O3, V3, A3, B3⟩
      case round =>
        clear O3 V3 A3 B3
        obtain ⟨i, hiP, rfl, ho, hv, hap, hb⟩ := hrel
        obtain ⟨wi, rfl⟩ : ∃ wi : World, wi = wr := ⟨_, rfl⟩
        have hsi : W0.heap.size ≤ wi.heap.size := hb.out.size
        by_cases hli : i < P
        · have hiz : i < zs.length := by rw [HZL.out]; exact hli
          have HZI : Hid (zs[i]? = some (zs[i]'hiz)) := List.getElem?_eq_getElem hiz
          obtain ⟨z, hz⟩ : ∃ z, z = zs[i]'hiz := ⟨_, rfl⟩
          rw [← hz] at HZI
          have hzr := HZE.out z (List.mem_of_getElem? HZI.out)
          obtain ⟨b2, o2, hA2, _, hc2⟩ := (Reads.of_own hv.out).at_ (by simp; omega)
          have hcell := cells_get hc2 HZI.out
          subst hA2
          clear hc2
          have hz0' := hzr.1
          have hz1' := hzr.2
          have hi0 : (0 : Int) ≤ (i : Int) := by omega
          have hi1 : (i : Int) < (P : Int) := by omega
          have HN : Hid ((frows K la P j ++ zs ++ (ineg zs).take (i + 1)).map (Value.int .i64) = (frows K la P j ++ zs ++ (ineg zs).take i).map (.int .i64) ++ [.int .i64 (-z)]) := by unfold Hid; rw [ineg_take HZI.out]; simp
          have hwn : IntKind.i64.wrap (-z) = -z := by rw [IntKind.wrap_i64]; omega
          clear hz hzr
          go_wp2_with (at_builtin; refine wpList_append_own_at _ rfl _ _ 22 rfl W0.heap.size 3 i0 (.int .i64 0) 1 8 Try.underlying22 hi hz0 hz1 hz2 rfl (by decide) _ _ _ rfl (ho.out.alloc _) ⟨wi.heap.size, 0, none⟩ 1 1 [.int .i64 (-z)] rfl rfl ?c1 ?c2 ?c3 ?c4 ?c5 ?_)
          case c1 => exact cell_one_new _ _ _
          case c2 => simp [Value.oneCell']
          case c3 => unfold maxLen; omega
          case c4 => omega
          case c5 => simp; omega
          intro v' w4 hown hg _ hat
          rw [show wi.heap.size + 1 = (wi.alloc (.cells #[.int .i64 (-z)] 3)).heap.size by simp] at hat
          have hva : wi.heap.size < (wi.alloc (.cells #[.int .i64 (-z)] 3)).heap.size := by simp
          have hv2 := Lib.hid (hv.out.alloc (.cells #[.int .i64 (-z)] 3))
          have V4 := Lib.hid (hv2.out.kept hg (apart_of hap.out))
          have A4 := Lib.hid (apart_grew hap.out (fun k hk => Nat.lt_trans (hv.out.lt k hk).2 hva) hat)
          have B4 := Lib.hid ((hb.out.alloc hsi (.cells #[.int .i64 (-z)] 3)).grown hg (by simp; omega) (fun k hk => (ho.out.lt k hk).1))
          have O4 : Hid (w4.ownsRow W0.heap.size 3 1 v' (N + P + (i + 1)) ((frows K la P j ++ zs ++ (ineg zs).take (i + 1)).map (.int .i64))) := by rw [HN.out]; show w4.ownsRow W0.heap.size 3 1 v' (N + P + i + 1) _; simpa using hown
          clear hown hg hat hva hv2
          go_wp2_with fail
          go_roundw
          case rel => exact ⟨i + 1, by omega, by go_num, O4, V4, A4, B4⟩
          case measure => simp [intOf]; omega
        · have HIP : Hid (i = P) := by unfold Hid; omega
          have hiP' : ¬ ((i : Int) < (P : Int)) := by omega
          obtain ⟨L, hL⟩ : ∃ L, L = frows K la P j ++ lcol K la P j ++ ineg (lcol K la P j) := ⟨_, rfl⟩
          have HLL := Lib.hid hL
          obtain ⟨N2, hN2⟩ : ∃ N2, N2 = N + P + P := ⟨_, rfl⟩
          have HN2 := Lib.hid hN2
          have hN2b : N2 ≤ 562 := by omega
          obtain ⟨x5, hx5⟩ : ∃ q, q = u3 := ⟨_, rfl⟩
          have O5 : Hid (wi.ownsRow W0.heap.size 3 1 x5 (N2 + 0) ((L ++ (iunit K j).take 0).map (.int .i64))) := by
            have h1 := ho.out
            rw [HIP.out, List.take_of_length_le (by rw [ineg_length, HZL.out]; exact Nat.le_refl _), HZ.out] at h1
            rw [List.take_zero, List.append_nil, HLL.out, HN2.out, hx5]; exact h1
          subst hx5
          clear ho hv hap hL hN2
          have hp0_2 := Lib.hid (hp0_0.out.below hb.out hp0_0.out.lt)
          go_wp2_with fail
          go_loopw [3, 8] (fun x y wk => ∃ k : Nat, k ≤ K ∧ y = .int .i64 k ∧ Hid (wk.ownsRow W0.heap.size 3 1 x (N2 + k) ((L ++ (iunit K j).take k).map (.int .i64))) ∧ Hid (Below W0.heap.size W0 wk)) (fun _ y _ => K - (intOf y).toNat)
          case atStart => exact ⟨0, Nat.zero_le _, rfl, O5, hb⟩
          case round =>
            clear O5 hb
            obtain ⟨k, hkK, rfl, ho, hb⟩ := hrel
            obtain ⟨wk, rfl⟩ : ∃ wk : World, wk = wr := ⟨_, rfl⟩
            have hp0_3 := Lib.hid (hp0_0.out.below hb.out hp0_0.out.lt)
            have ehp00 := hp0_3.out.cell 0
            have ehp01 := hp0_3.out.cell 1
            have ehp02 := hp0_3.out.cell 2
            have ehp03 := hp0_3.out.cell 3
            have ehp04 := hp0_3.out.cell 4
            simp at ehp00 ehp01 ehp02 ehp03 ehp04
            have hsk : W0.heap.size ≤ wk.heap.size := hb.out.size
            by_cases hlk : k < K
            · have hki : (k : Int) < (K : Int) := by omega
              obtain ⟨u, hu⟩ : ∃ u : Int, u = if k = j then -1 else 0 := ⟨_, rfl⟩
              have HN : Hid ((L ++ (iunit K j).take (k + 1)).map (Value.int .i64) = (L ++ (iunit K j).take k).map (.int .i64) ++ [.int .i64 u]) := by unfold Hid; rw [iunit_take hlk, ← hu]; simp
              have hfin : ∀ v' w4, w4.ownsRow W0.heap.size 3 1 v' (N2 + k + 1) ((L ++ (iunit K j).take k).map (.int .i64) ++ [.int .i64 u]) → (wk.alloc (.cells #[.int .i64 u] 3)).grownBy w4 u3.ownBlock → Hid (w4.ownsRow W0.heap.size 3 1 v' (N2 + (k + 1)) ((L ++ (iunit K j).take (k + 1)).map (.int .i64))) ∧ Hid (Below W0.heap.size W0 w4) := fun v' w4 hown hg => ⟨by rw [HN.out]; exact hown, (hb.out.alloc hsk _).grown hg (by simp; omega) (fun k hk => (ho.out.lt k hk).1)⟩
              have HFIN := Lib.hid hfin
              clear hfin
              by_cases hkj : k = j
              · have hu1 : u = -1 := by rw [hu, if_pos hkj]
                have ht : ((k : Int) == (j : Int)) = true := by simp; omega
                subst hu1
                clear hu hkj
                go_wp2_with (at_builtin; refine wpList_append_own _ rfl _ _ 22 rfl W0.heap.size 3 i0 (.int .i64 0) 1 8 Try.underlying22 hi hz0 hz1 hz2 rfl (by decide) _ _ _ rfl (ho.out.alloc _) ⟨wk.heap.size, 0, none⟩ 1 1 [.int .i64 (-1)] rfl rfl ?d1 ?d2 ?d3 ?d4 ?d5 ?_)
                case d1 => exact cell_one_new _ _ _
                case d2 => simp [Value.oneCell']
                case d3 => unfold maxLen; omega
                case d4 => omega
                case d5 => simp; omega
                intro v' w4 hown hg _
                obtain ⟨O6, B6⟩ := HFIN.out v' w4 (by simpa using hown) hg
                clear hown hg
                go_wp2_with fail
                go_roundw
                case rel => exact ⟨k + 1, by omega, by go_num, O6, B6⟩
                case measure => simp [intOf]; omega
              · have hu1 : u = 0 := by rw [hu, if_neg hkj]
                have ht : ((k : Int) == (j : Int)) = false := by simp; omega
                subst hu1
                clear hu hkj
                go_wp2_with (at_builtin; refine wpList_append_own _ rfl _ _ 22 rfl W0.heap.size 3 i0 (.int .i64 0) 1 8 Try.underlying22 hi hz0 hz1 hz2 rfl (by decide) _ _ _ rfl (ho.out.alloc _) ⟨wk.heap.size, 0, none⟩ 1 1 [.int .i64 0] rfl rfl ?e1 ?e2 ?e3 ?e4 ?e5 ?_)
                case e1 => exact cell_one_new _ _ _
                case e2 => simp [Value.oneCell']
                case e3 => unfold maxLen; omega
                case e4 => omega
                case e5 => simp; omega
                intro v' w4 hown hg _
                obtain ⟨O6, B6⟩ := HFIN.out v' w4 (by simpa using hown) hg
                clear hown hg
                go_wp2_with fail
                go_roundw
                case rel => exact ⟨k + 1, by omega, by go_num, O6, B6⟩
                case measure => simp [intOf]; omega
            · have HKK : Hid (k = K) := by unfold Hid; omega
              have hkf : ¬ ((k : Int) < (K : Int)) := by omega
              obtain ⟨N3, hN3⟩ : ∃ N3, N3 = N2 + K := ⟨_, rfl⟩
              have HO : Hid (wk.ownsRow W0.heap.size 3 1 u3 N3 ((frows K la P (j + 1)).map (.int .i64))) := by
                have h1 := ho.out
                rw [HKK.out, List.take_of_length_le (by rw [iunit_length]; exact Nat.le_refl _), HLL.out, ← hN3] at h1
                have e : frows K la P (j + 1) = frows K la P j ++ lcol K la P j ++ ineg (lcol K la P j) ++ iunit K j := by rw [frows, frow]; simp
                rw [e]; exact h1
              have hN3b : N3 ≤ 544 := by have h1 := own_len' HO.out; have h2 := frows_le (K := K) (P := P) (j := j + 1) (la := la) (by omega) hP hK; omega
              clear hN3 ho
              go_wp2_with fail
              go_roundw
              case rel => exact ⟨j + 1, N3, by omega, by go_num, hN3b, HO, hb⟩
              case measure => simp [intOf]; omega
    · obtain rfl : j = K := by omega
      have HF : Hid (∀ v, wr.ownsRow W0.heap.size 3 1 v N ((frows j la P j).map (.int .i64)) → IntsEnd (frows j la P j) w wr (.returned v)) := fun v hv => intsEnd_mk (own_len' hv) (by omega) (own_base hv BW_0.out.size) (BW_0.out.trans (hb.out.mono BW_0.out.size))
      go_wp2_with fail
      go_ret
      exact HF.out _ ho.out
end Go.Proofs.Ytcmbfgaojlnjcaa
