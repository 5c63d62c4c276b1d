/- Contracts of null vectors, by the model: NullVectors. -/
import Derived.Test.YthjbfdifeffilaaGreatNulI
import Derived.Test.YthjbfdifeffilaaGreatEE
import Derived.Test.YthjbfdifeffilaaGreatGW
namespace Go.Proofs.YthjbfdifeffilaaGreat
set_option maxRecDepth 100000
open Go.RowKit

set_option maxHeartbeats 6400000 in
theorem spec_nullVectors0 (p k : Int) (A : Option Addr) (n c : Nat) (rs : List RD) (w : World) (h : InV w A n rs) (hp : -9223372036854775808 ≤ p ∧ p ≤ 9223372036854775807) (hk : -9223372036854775808 ≤ k ∧ k ≤ 9223372036854775807) (_hc : n ≤ c) :
    Calls Tryz.prog 46 #[.agg #[.int .i64 p, .int .i64 k, .slice A n c]] w fun e w' => NullEnd (NullVectorsIs p k rs) w w' e := by
  obtain ⟨j0, hj, hy0, hy1, hy2⟩ := infoV_parts
  obtain ⟨W0, hW0⟩ : ∃ W, W = (w.alloc (.cells #[.int .i64 p, .int .i64 k, .slice A n c] 25)) := ⟨_, rfl⟩
  have hm0_0 : Hid (Box W0 (w.heap.size) 25 #[.int .i64 p, .int .i64 k, .slice A n c]) := by rw [hW0]; exact (Box.at' (by simp))
  have BW_0 : Hid (Below w.heap.size w W0) := by rw [hW0]; exact ((Below.refl w.heap.size w).alloc (by simp) _)
  have hsz0 : w.heap.size + 1 ≤ W0.heap.size := by rw [hW0]; simp
  have HV := Lib.hid (h.below BW_0.out)
  clear h
  go_enter Tryz.func46, Tryz.ntmps46
  go_wp2_with fail
  rw [← hW0]
  clear hW0
  refine (spec_reduce0 p k A n c rs _ HV.out hp hk).mono ?_
  rintro e w1 ⟨q, j, rr, V, l, v, b, rfl, hqr, ⟨hl1, hl2, hl3, L2, ho, hh, hv, hof⟩, hb⟩
  obtain ⟨A1, c1, rfl⟩ := ho.slice
  obtain ⟨B1, d1, rfl⟩ := own_slice hv
  obtain ⟨N4, hN4⟩ : ∃ N4, N4 = rr.length := ⟨_, rfl⟩
  obtain ⟨n4, hn4⟩ : ∃ N4, N4 = l.length := ⟨_, rfl⟩
  rw [← hN4] at ho ⊢
  rw [← hn4] at hv ⊢
  have HQR := Lib.hid hqr
  have hcap := own_le ho.2.1
  have HI1 : Hid (InV w1 A1 N4 rr) := ho.in_ hh (by omega) hl2
  have HR1 : Hid (Reads w1 B1 (l.map (.int .i64))) := Reads.of_own hv
  have HN4 := Lib.hid hN4
  have Hn4 := Lib.hid hn4
  obtain ⟨W2, hW2⟩ : ∃ W, W = w1.alloc (.cells #[.int .i64 q, .int .i64 j, .slice A1 N4 c1] 25) := ⟨_, rfl⟩
  have hbx : Below w1.heap.size w1 W2 := by rw [hW2]; exact (Below.refl _ _).alloc (Nat.le_refl _) _
  have X_2 : Hid (Box W2 w1.heap.size 25 #[.int .i64 q, .int .i64 j, .slice A1 N4 c1]) := by rw [hW2]; exact Box.new _ _ _
  have hb := hb.trans (hbx.mono hb.size)
  have HI2 := Lib.hid (HI1.out.below hbx)
  have HR2 := Lib.hid (HR1.out.below hbx)
  have hm0_2 := Lib.hid (hm0_0.out.below hb hm0_0.out.lt)
  have BW_2 := Lib.hid (BW_0.out.trans (hb.mono BW_0.out.size))
  clear hb
  have hn420 : n4 ≤ 1048576 := by omega
  have hem := hm0_2
  rw [hW2] at hem
  have em0 := hem.out.cell 0
  have em1 := hem.out.cell 1
  have em2 := hem.out.cell 2
  simp at em0 em1 em2
  clear hqr hl1 hl2 hl3 ho hh hv hof hbx hN4 hn4 hem HI1 HR1
  cases b
  case false =>
    have HF : Hid (∀ W, W = W2 → NullEnd (NullVectorsIs p k rs) w W (.returned (.tuple #[.slice none 0 0, .bool false]))) := by
      rintro W rfl
      exact ⟨[], _, false, rfl, null_no (by rcases HQR.out with ⟨_, _, _, _, _, h1⟩ | ⟨h1, _⟩; cases h1; exact h1), resVV_nil _ _, BW_2.out⟩
    go_wp2_with fail
    go_ret2
    exact HF.out _ hW2.symm
  obtain ⟨HEL, rfl, rfl, hrr, hll⟩ : Elim p k rs ∧ q = p ∧ j = k ∧ rr = (fin p k rs).rs ∧ l = pvs (fin p k rs).pv := by
    rcases HQR.out with ⟨h1, h2, h3, h4, h5, _⟩ | ⟨_, _, _, _, _, h6⟩
    · exact ⟨h1, h2, h3, h4, h5⟩
    · cases h6
  have hp2 := HEL.1.1
  have hk2 := HEL.1.2.1
  obtain ⟨P, rfl⟩ : ∃ P : Nat, q = P := ⟨q.toNat, by omega⟩
  obtain ⟨K, rfl⟩ : ∃ P : Nat, j = P := ⟨j.toNat, by omega⟩
  have hP24 : P ≤ 24 := by omega
  have hK24 : K ≤ 24 := by omega
  rw [fin_nat] at hrr hll
  obtain ⟨pv, hpv⟩ : ∃ pv, pv = (est P K rs K).pv := ⟨_, rfl⟩
  obtain ⟨R, hR⟩ : ∃ R, R = (est P K rs K).rs := ⟨_, rfl⟩
  rw [← hpv] at hll
  rw [← hR] at hrr
  have HM : MOk P K rs := HEL.1
  have HRL : Hid (N4 = P * K) := by
    have h1 := (est_good HM K (Nat.le_refl _)).2
    rw [← hR, ← hrr] at h1
    unfold Hid
    rw [HN4.out, h1]
  have HRK : Hid (∀ r ∈ R, r.ok) := by rw [hR]; exact (Elim.nat.1 HEL).2
  have HPN : Hid (pv.length = n4) := by unfold Hid; rw [Hn4.out, hll, pvs_length]
  have HPP : Hid (n4 ≤ P) := by have h1 := est_pv_le (P := P) (K := K) rs K; rw [← hpv, HPN.out] at h1; exact h1
  have HPK : Hid (∀ x ∈ pv, x < K) := by rw [hpv]; exact (est_asc (P := P) rs K).2
  have HR3 : Hid (Reads W2 B1 (ivals pv)) := by have h1 := HR2.out; rw [hll, pvs_vals] at h1; exact h1
  have HI3 : Hid (InV W2 A1 N4 R) := by have h1 := HI2.out; rw [hrr] at h1; exact h1
  have HEE := Lib.hid HEL
  have HPVE := Lib.hid hpv
  have HRE := Lib.hid hR
  have hs02 := BW_2.out.size
  clear HEL hrr hll hpv hR HM HQR HR2 HI2
  have HS2 : Hid (W2.heap.size = w1.heap.size + 1) := by unfold Hid; rw [hW2]; simp
  have O3 : Hid (OwnVV (W2.alloc (.cells #[] 23)) W2.heap.size (.slice (some ⟨W2.heap.size, 0, none⟩) 0 0) 0 []) := OwnVV.empty W2
  have B3 : Hid (Below W2.heap.size W2 (W2.alloc (.cells #[] 23))) := (Below.refl _ _).alloc (Nat.le_refl _) _
  go_wp2_with fail
  rw [← hW2]
  clear em0 em1 em2 hW2
  go_loopw [7, 8] (fun x y wr => ∃ (i m : Nat) (Rs : List (Value × List El)) (A3 : Option Addr) (c3 : Nat), i ≤ K ∧ m ≤ i ∧ y = .int .i64 i ∧ x = .slice A3 m c3 ∧ Hid (OwnVV wr W2.heap.size (.slice A3 m c3) m Rs) ∧ Hid (HasVV Rs (nulls K R pv i)) ∧ Hid (Below W2.heap.size W2 wr)) (fun _ y _ => K - (intOf y).toNat)
  case atStart => exact ⟨0, 0, [], _, _, Nat.zero_le _, Nat.le_refl _, rfl, rfl, (by rw [← HS2.out]; exact O3), trivial, B3⟩
  case round =>
    obtain ⟨i, m, Rs, A3, c3, hle, hmi, rfl, rfl, ho, hh, hb⟩ := hrel
    have hm0_r := Lib.hid (hm0_2.out.below hb.out hm0_2.out.lt)
    have ehm00 := hm0_r.out.cell 0
    have ehm01 := hm0_r.out.cell 1
    have ehm02 := hm0_r.out.cell 2
    simp at ehm00 ehm01 ehm02
    by_cases hlt : i < K
    · have hi0 : (0 : Int) ≤ (i : Int) := by omega
      have hi1 : (i : Int) < (K : Int) := by omega
      have HRr := Lib.hid (HR3.out.below hb.out)
      go_wp2_with fail
      refine (spec_l07Has B1 n4 d1 pv i _ HPN.out hn420 HRr.out).mono ?_
      rintro e w3 ⟨bc, rfl, hbc, rfl⟩
      cases bc
      case true =>
        have HH : Hid (HasVV Rs (nulls K R pv (i + 1))) := by unfold Hid; rw [nulls_in (hbc.1 rfl)]; exact hh.out
        clear hbc
        go_wp2_with fail
        go_roundw
        case rel => exact ⟨i + 1, m, Rs, A3, c3, by omega, by omega, by go_num, rfl, ho, HH, hb⟩
        case measure => simp [intOf]; omega
      have HNI : Hid (¬ i ∈ pv) := fun h => (by have h1 := hbc.2 h; cases h1)
      clear hbc
      obtain ⟨wo, hwo⟩ : ∃ wo : World, wo = wr := ⟨_, rfl⟩
      subst hwo
      go_wp2_with fail
      clear ehm00 ehm01 ehm02
      refine (spec_l05Zeros K _ (by omega)).mono ?_
      rintro e w4 ⟨rv, Vv, rfl, hrv, ⟨hl1, hf1, Lv, hov, hhv⟩, hb4⟩
      subst hrv
      rw [List.length_replicate] at hov
      obtain ⟨G, c6, hGe, hG1, hG2⟩ : ∃ G c6, Vv = .slice (some ⟨G, 0, none⟩) K c6 ∧ wo.heap.size ≤ G ∧ G < w4.heap.size := by
        obtain ⟨A1, c1, rfl⟩ := hov.slice
        obtain ⟨G, rfl, h1, h2⟩ := own_at' hov.2.1 (by omega)
        exact ⟨G, c1, rfl, h1, h2⟩
      subst hGe
      have O4 := Lib.hid hov
      have H4 := Lib.hid hhv
      have B4 := Lib.hid hb4
      clear hl1 hf1 hov hhv hb4
      go_wp2_with fail
      refine (spec_ratFromInt 1 _ (by omega)).mono ?_
      rintro e w5 ⟨g, r, vv, dd, q, rfl, hq, q1, q2, hap, hc2⟩
      obtain ⟨A6, c7, rfl⟩ := own_slice q1.2
      obtain ⟨B6, d6, rfl⟩ := own_slice q2.2
      have he0 : (El.mk g (.slice A6 r.length c7) r.length (r.map (.int .i64)) (.slice B6 dd.length d6) dd.length (dd.map (.int .i64))).own w5 _ := ⟨q1.2, q2.2, hap⟩
      have hFf := O4.out.far_new he0 (Nat.le_refl _)
      obtain ⟨⟨x0, x1, x2, p0, p1, p2, f0, f1, f2⟩, s1, s2⟩ := store_ownN (O4.out.below hc2) hlt (he0.lower B4.out.size) hFf
      have HO := Lib.hid s1
      have HB := Lib.hid (Wrote.below (B4.out.trans (hc2.mono B4.out.size)) s2 (fun k hk => by omega) (by have := B4.out.size; have := hc2.size; omega))
      have hr1 : RD.mk g r dd = R1 := by rw [← rint1]; exact rint_of hq
      have HH : Hid (Has (Lv.set i ⟨g, .slice A6 r.length c7, r.length, r.map (.int .i64), .slice B6 dd.length d6, dd.length, dd.map (.int .i64)⟩) (nvec K R pv i 0)) := by
        have h1 := H4.out
        rw [rint0] at h1
        have h2 := h1.set i (e := ⟨g, .slice A6 r.length c7, r.length, r.map (.int .i64), .slice B6 dd.length d6, dd.length, dd.map (.int .i64)⟩) (r := ⟨g, r, dd⟩) ⟨rfl, rfl, rfl, rfl, rfl⟩
        rw [hr1] at h2
        exact h2
      clear s1 s2 q1 q2 hap hc2 he0 hFf hq hr1
      go_wp2_with fail
      go_loopw [39] (fun y wr => ∃ (t : Nat) (L : List El), t ≤ n4 ∧ y = .int .i64 t ∧ Hid (OwnV wr wo.heap.size (.slice (some ⟨G, 0, none⟩) K c6) K L) ∧ Hid (Has L (nvec K R pv i t)) ∧ Hid (Below wo.heap.size wo wr)) (fun y _ => n4 - (intOf y).toNat)
      case atStart => exact ⟨0, _, Nat.zero_le _, rfl, HO, HH, HB⟩
      case round =>
        clear HO HH HB
        obtain ⟨t, L, htle, rfl, hov, hhv, hbv⟩ := hrel
        obtain ⟨wi, hwi⟩ : ∃ wi : World, wi = wr := ⟨_, rfl⟩
        subst hwi
        have hbt := hb.out.trans (hbv.out.mono hb.out.size)
        by_cases hltt : t < n4
        · have ht0 : (0 : Int) ≤ (t : Int) := by omega
          have ht1 : (t : Int) < (n4 : Int) := by omega
          have hix : t < pv.length := by rw [HPN.out]; exact hltt
          obtain ⟨z, hz⟩ : ∃ z, pv[t] = z := ⟨_, rfl⟩
          have hz? : pv[t]? = some z := by rw [List.getElem?_eq_getElem hix, hz]
          have HZ := Lib.hid hz?
          have hzK : z < K := HPK.out z (List.mem_of_getElem? hz?)
          obtain ⟨bp, op, hBp, hbp, hcp⟩ := (HR3.out.below hbt).at_ (by rw [ivals_length]; omega)
          have hcell : wi.cell? ⟨bp, op + t, none⟩ = some (.int .i64 (z : Int)) := (hcp t (by rw [ivals_length]; exact hix)).trans (by simp [ivals, hz])
          subst hBp
          have htP : t < P := by have := HPP.out; omega
          have hz0 : (0 : Int) ≤ (z : Int) := by omega
          have hz1 : (z : Int) < (K : Int) := by omega
          have hRL : t * K + i < R.length := by rw [HI3.out.1, HRL.out]; exact cell_lt htP hlt
          obtain ⟨x, hx⟩ : ∃ x, R[t * K + i]? = some x := ⟨_, List.getElem?_eq_getElem hRL⟩
          have HX := Lib.hid hx
          have HCE : Hid (cell K R t i = x) := by unfold Hid cell; rw [hx]; rfl
          have hxk : x.ok := HRK.out _ (List.mem_of_getElem? hx)
          have HXK := Lib.hid hxk
          have HIr := Lib.hid (HI3.out.below hbt)
          have X_r := Lib.hid (X_2.out.below hbt X_2.out.lt)
          have ex0 := X_r.out.cell 0
          have ex1 := X_r.out.cell 1
          have ex2 := X_r.out.cell 2
          simp at ex0 ex1 ex2
          clear hz hz? hcp hRL hx hxk hbt
          go_wp2_with fail
          clear ex0 ex1 ex2 hcell
          refine (spec_l06At P K t i A1 N4 c1 R x _ HIr.out HX.out (by omega) hK24).mono ?_
          rintro e w6 ⟨A8, n8, c8, B8, m8, d8, rfl, i8, ra8, j8, rb8, hb6⟩
          have hn8 := i8.2.1
          have hm8 := j8.2.1
          have HI8 := Lib.hid i8
          have HJ8 := Lib.hid j8
          have RA8 := Lib.hid ra8
          have RB8 := Lib.hid rb8
          have O6 := Lib.hid (hov.out.below hb6)
          have B6' := Lib.hid (hbv.out.trans (hb6.mono hbv.out.size))
          clear i8 j8 ra8 rb8 hb6
          go_wp2_with fail
          refine (spec_l04Neg x.g A8 n8 c8 x.xs B8 m8 d8 x.ds _ HI8.out RA8.out HJ8.out RB8.out HXK.out).mono ?_
          rintro e w7 ⟨g, r, vv, dd, q, rfl, hq, q1, q2, hap, hc2⟩
          obtain ⟨A9, c9, rfl⟩ := own_slice q1.2
          obtain ⟨B9, d9, rfl⟩ := own_slice q2.2
          have he0 : (El.mk g (.slice A9 r.length c9) r.length (r.map (.int .i64)) (.slice B9 dd.length d9) dd.length (dd.map (.int .i64))).own w7 _ := ⟨q1.2, q2.2, hap⟩
          have hFf := O6.out.far_new he0 (Nat.le_refl _)
          obtain ⟨⟨x0, x1, x2, p0, p1, p2, f0, f1, f2⟩, s1, s2⟩ := store_ownN (O6.out.below hc2) hzK (he0.lower B6'.out.size) hFf
          have HO := Lib.hid s1
          have HB := Lib.hid (Wrote.below (B6'.out.trans (hc2.mono B6'.out.size)) s2 (fun k hk => by omega) (by have := B6'.out.size; have := hc2.size; omega))
          have HH : Hid (Has _ (nvec K R pv i (t + 1))) := Lib.hid (has_nvec hhv.out HZ.out HCE.out (rneg_of hq) (v := .slice A9 r.length c9) (u := .slice B9 dd.length d9))
          clear s1 s2 q1 q2 hap hc2 he0 hFf hq
          go_wp2_with fail
          go_roundw
          case rel => exact ⟨t + 1, _, by omega, by go_num, HO, HH, HB⟩
          case measure => simp [intOf]; omega
        · obtain rfl : t = n4 := by omega
          have HOv : Hid (OwnV wi W2.heap.size (.slice (some ⟨G, 0, none⟩) K c6) K L) := hov.out.lower hb.out.size
          have HHv : Hid (HasVV (Rs ++ [(.slice (some ⟨G, 0, none⟩) K c6, L)]) (nulls K R pv (i + 1))) := by
            unfold Hid
            rw [nulls_new HNI.out]
            refine hh.out.append ⟨?_, trivial⟩
            rw [HPN.out]
            exact hhv.out
          have HFv : Hid (∀ q ∈ Rs, ∀ k, footV q.1 q.2 k → ¬ footV (.slice (some ⟨G, 0, none⟩) K c6) L k) := fun q hq k hk hk' => by
            obtain ⟨mq, hoq⟩ := ho.out.2.2.1 q hq
            have h1 := (hoq.lt k hk).2
            have h2 := (hov.out.lt k hk').1
            omega
          have HO4 : Hid (OwnVV wi W2.heap.size (.slice A3 m c3) m Rs) := ho.out.dep fun k hk => hbv.out.block k (ho.out.lt k hk).2
          have HB4 := Lib.hid hbt
          clear hbt
          go_wp2_with (at_builtin; refine wpList_append_vv rfl _ _ 64 rfl W2.heap.size j0 Tryz.underlying64 hj hy0 hy1 hy2 _ m Rs rfl HO4.out (.slice (some ⟨G, 0, none⟩) K c6, L) rfl ⟨_, HOv.out⟩ HFv.out rfl (by unfold maxLen; omega) (by omega) HB4.out.size _ ?_)
          intro V' w8 s1 hg
          obtain ⟨A5, c5, rfl⟩ := s1.slice
          have HO5 := Lib.hid s1
          have HB5 : Hid (Below W2.heap.size W2 w8) := by
            have h1 : Below W2.heap.size W2 (wi.alloc (.cells #[.slice (some ⟨G, 0, none⟩) K c6] 23)) := HB4.out.alloc HB4.out.size _
            exact h1.grown hg h1.size (fun k hk => (HO4.out.2.1.lt k hk).1)
          clear s1 hg
          go_wp2_with fail
          go_roundw
          case rel => exact ⟨i + 1, m + 1, _, A5, c5, by omega, by omega, by go_num, rfl, HO5, HHv, HB5⟩
          case measure => simp [intOf]; omega
    · obtain rfl : i = K := by omega
      have hml : m = (nulls i R pv i).length := by rw [← hh.out.length]; exact ho.out.1.symm
      have HF : Hid (NullEnd (NullVectorsIs P i rs) w wr (.returned (.tuple #[.slice A3 m c3, .bool true]))) := by
        refine ⟨nulls i R pv i, _, true, rfl, .inl ⟨HEE.out, by rw [fin_nat, ← HPVE.out, ← HRE.out]; rfl, rfl⟩, ⟨by have := nulls_le i R pv i; omega, nulls_goods hK24 R pv i, Rs, ?_, hh.out⟩, BW_2.out.trans (hb.out.mono BW_2.out.size)⟩
        rw [← hml]
        exact ho.out.lower hs02
      clear hml
      go_wp2_with fail
      go_ret2
      exact HF.out
end Go.Proofs.YthjbfdifeffilaaGreat
