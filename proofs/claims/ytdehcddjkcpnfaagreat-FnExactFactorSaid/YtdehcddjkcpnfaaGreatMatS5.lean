/- Contracts of matrices, by the model: rows and columns exchanged. -/
import Derived.Test.YtdehcddjkcpnfaaGreatMatS1
import Derived.Deep.RegionLaw
namespace Go.Proofs.YtdehcddjkcpnfaaGreat
set_option maxRecDepth 100000
open Go.RowKit

theorem trans_get {P K i j : Nat} {rs : List RD} (hl : rs.length = P * K) (hi : i < P) (hj : j < K) : (trans P K rs)[j * P + i]? = rs[i * K + j]? := by
  have hlt : i * K + j < rs.length := by rw [hl]; exact cell_lt hi hj
  rw [List.getElem?_eq_getElem hlt]
  exact trans_at hi hj (List.getElem?_eq_getElem hlt)
theorem mem_trans {P K : Nat} {rs : List RD} (hl : rs.length = P * K) {x : RD} (h : x ∈ trans P K rs) : x ∈ rs := by
  obtain ⟨t, ht, rfl⟩ := List.mem_iff_getElem.1 h
  rw [trans_length] at ht
  have hP : 0 < P := by
    rcases Nat.eq_zero_or_pos P with h0 | h0
    · subst h0; omega
    · exact h0
  have hi := Nat.mod_lt t hP
  have hj : t / P < K := by rw [Nat.div_lt_iff_lt_mul hP]; exact ht
  have he : t / P * P + t % P = t := by rw [Nat.mul_comm]; exact Nat.div_add_mod t P
  have h1 := trans_get hl hi hj
  rw [he, List.getElem?_eq_getElem (by rw [trans_length]; exact ht)] at h1
  exact List.mem_of_getElem? h1.symm
theorem MOk.trans {P K : Nat} {rs : List RD} (h : MOk P K rs) : MOk K P (trans P K rs) :=
  ⟨h.2.1, h.1, by rw [trans_length]; exact Int.natCast_mul _ _, fun r hr => h.all r (mem_trans h.plen hr)⟩
theorem MOk.gd {p k : Int} {rs : List RD} (h : MOk p k rs) : Goods rs := ⟨by have := h.len; omega, h.goods⟩
set_option maxHeartbeats 6400000 in
theorem spec_l06Transpose (P K : Nat) (A : Option Addr) (n c : Nat) (rs : List RD) (w : World) (h : InV w A n rs) (hm : MOk P K rs) :
    Calls Tryz.prog 85 #[.agg #[.int .i64 P, .int .i64 K, .slice A n c]] w fun e w' => MatEnd (fun p k r => p = K ∧ k = P ∧ r = trans P K rs) w w' e := by
  obtain ⟨i0, hi, hz0, hz1, hz2⟩ := info_parts Tryz.infoR
  obtain ⟨W0, hW0⟩ : ∃ W, W = ((w.alloc (.cells #[.int .i64 P, .int .i64 K, .slice A n c] 47)).alloc (.cells #[.int .i64 0, .int .i64 0, .slice none 0 0] 47)) := ⟨_, rfl⟩
  have hm0_0 : Hid (Box W0 (w.heap.size) 47 #[.int .i64 P, .int .i64 K, .slice A n c]) := by rw [hW0]; exact ((Box.at' (by simp)).alloc _)
  have ht_0 : Hid (Box W0 (w.heap.size + 1) 47 #[.int .i64 0, .int .i64 0, .slice none 0 0]) := by rw [hW0]; exact (Box.at' (by simp))
  have BW_0 : Hid (Below w.heap.size w W0) := by rw [hW0]; exact (((Below.refl w.heap.size w).alloc (by simp) _).alloc (by simp) _)
  have hsz0 : w.heap.size + 1 + 1 ≤ W0.heap.size := by rw [hW0]; simp
  have hn := h.2.1
  have hPb := hm.1
  have hKb := hm.2.1
  have HV := Lib.hid (h.below BW_0.out)
  have HM := Lib.hid hm
  have hnPK : n = P * K := by rw [← h.1]; exact hm.plen
  have HNPK := Lib.hid hnPK
  have hP24 : P ≤ 24 := by omega
  have hK24 : K ≤ 24 := by omega
  obtain ⟨zs, hzs⟩ : ∃ zs, zs = trans P K rs := ⟨_, rfl⟩
  have HZ := Lib.hid hzs
  obtain ⟨N, hN⟩ : ∃ N, N = K * P := ⟨_, rfl⟩
  have HN := Lib.hid hN
  have HZL : Hid (zs.length = N) := by unfold Hid; rw [hzs, trans_length, hN]
  have hN5 : N ≤ 576 := by rw [hN]; exact mul_le_576 hK24 hP24
  clear h hm hzs hN hnPK
  have hlt0 := hm0_0.out.lt
  have hltt := ht_0.out.lt
  go_enter Tryz.func85, Tryz.ntmps85
  obtain ⟨W2, hW2⟩ : ∃ W, W = W0.alloc (.cells #[.int .i64 K, .int .i64 P, .slice none 0 0] 47) := ⟨_, rfl⟩
  have X_2 : Hid (Box W2 (w.heap.size + 1 + 1) 47 #[.int .i64 K, .int .i64 P, .slice none 0 0]) := by rw [hW2]; exact Box.at' (by rw [hW0]; simp)
  have BZ : Hid (Below W0.heap.size W0 W2) := by rw [hW2]; exact (Below.refl _ _).alloc (Nat.le_refl _) _
  have hW0s : W0.heap.size = w.heap.size + 1 + 1 := by rw [hW0]; simp
  have HW0 : Hid (W2 = (((w.alloc (.cells #[.int .i64 P, .int .i64 K, .slice A n c] 47)).alloc (.cells #[.int .i64 0, .int .i64 0, .slice none 0 0] 47)).alloc (.cells #[.int .i64 K, .int .i64 P, .slice none 0 0] 47))) := Lib.hid (by rw [hW2, hW0])
  clear hW0 hW2
  go_wp2_with fail
  rw [← HW0.out]
  go_loopw [4] (fun y wr => ∃ (j u : Nat) (L : List El) (A1 : Option Addr) (c1 : Nat), j ≤ K ∧ y = .int .i64 j ∧ Hid (u = j * P) ∧ Hid (OwnV wr W0.heap.size (.slice A1 u c1) u L) ∧ Hid (Has L (zs.take u)) ∧ Hid (Box wr (w.heap.size + 1 + 1) 47 #[.int .i64 K, .int .i64 P, .slice A1 u c1]) ∧ Hid (Below W0.heap.size W0 wr)) (fun y _ => K - (intOf y).toNat)
  case atStart => exact ⟨0, 0, [], none, 0, Nat.zero_le _, rfl, by simp [Hid], OwnV.none_ _ _, by rw [List.take_zero]; exact trivial, X_2, BZ⟩
  case round =>
    obtain ⟨j, u0, L, A1, c1, hle, rfl, hu0, ho, hh, hX, hb⟩ := hrel
    by_cases hlt : j < K
    · obtain ⟨wo, rfl⟩ : ∃ wo : World, wo = wr := ⟨_, rfl⟩
      have hj0 : (0 : Int) ≤ (j : Int) := by omega
      have hj1 : (j : Int) < (K : Int) := by omega
      have hm0_o := Lib.hid (hm0_0.out.below hb.out hm0_0.out.lt)
      have ehm00 := hm0_o.out.cell 0
      have ehm01 := hm0_o.out.cell 1
      have ehm02 := hm0_o.out.cell 2
      simp at ehm00 ehm01 ehm02
      have U0 : Hid (u0 = j * P + 0) := hu0
      go_wp2_with fail
      clear ehm00 ehm01 ehm02
      go_loopw [5] (fun x wr => ∃ (i u : Nat) (L : List El) (A1 : Option Addr) (c1 : Nat), i ≤ P ∧ x = .int .i64 i ∧ Hid (u = j * P + i) ∧ Hid (OwnV wr W0.heap.size (.slice A1 u c1) u L) ∧ Hid (Has L (zs.take u)) ∧ Hid (Box wr (w.heap.size + 1 + 1) 47 #[.int .i64 K, .int .i64 P, .slice A1 u c1]) ∧ Hid (Below W0.heap.size W0 wr)) (fun x _ => P - (intOf x).toNat)
      case atStart => exact ⟨0, u0, L, A1, c1, Nat.zero_le _, rfl, U0, ho, hh, hX, hb⟩
      case round =>
        clear ho hh hX hb
        obtain ⟨i, u, L, A1, c1, hlei, rfl, hu, ho, hh, hX, hb⟩ := hrel
        obtain ⟨wi, rfl⟩ : ∃ wi : World, wi = wr := ⟨_, rfl⟩
        have hm0_i := Lib.hid (hm0_0.out.below hb.out hm0_0.out.lt)
        by_cases hlti : i < P
        · have hi0 : (0 : Int) ≤ (i : Int) := by omega
          have hi1 : (i : Int) < (P : Int) := by omega
          obtain ⟨r, hr, hrk⟩ := HM.out.at_ hlti hlt
          have HR := Lib.hid hr
          have hx24 : r.xs.length ≤ 24 := hrk.2.2.2.2.1
          have hd24 : r.ds.length ≤ 24 := hrk.2.2.2.2.2
          have HZI : Hid (zs[u]? = some ⟨r.g, r.xs, r.ds⟩) := by unfold Hid; rw [hu.out, HZ.out, trans_get HM.out.plen hlti hlt]; exact hr
          have huN : u < N := by rw [hu.out, HN.out]; exact cell_lt hlt hlti
          have hux : Hid (u + 1 = j * P + (i + 1)) := by have := hu.out; unfold Hid; omega
          have HVi := Lib.hid ((HV.out.below hb.out).below (Below.refl _ _).drew)
          have X_0 := Lib.hid hX.out.drew
          have OD := Lib.hid (OwnV.drew ho.out)
          have BD := Lib.hid hb.out.drew
          have ex2 := X_0.out.cell 2
          have em0 := hm0_i.out.cell 0
          have em1 := hm0_i.out.cell 1
          have em2 := hm0_i.out.cell 2
          simp at ex2 em0 em1 em2
          clear hr hrk
          go_wp2_with fail
          go_region_law (first | (refine step_append_el rfl _ _ 26 rfl W0.heap.size i0 (.agg #[.bool false, .slice none 0 0, .slice none 0 0]) 56 Tryz.underlying26 hi hz0 hz1 hz2 rfl _ u L rfl HO.out ⟨g, .slice A2 l.length c2, l.length, l.map (.int .i64), .slice B2 dd.length d2, dd.length, dd.map (.int .i64)⟩ rfl HE.out HFR.out rfl rfl (by unfold maxLen; omega) (by omega) HB.out.size _ ?_; intro V' w6 s1 hg; obtain ⟨A5, c5, rfl⟩ := s1.slice; have X_4 := Lib.hid (X_3.out.grown hg (box_main X_2'.out HO.out)); have HO3 := Lib.hid s1; have HB3 := Lib.hid (below_app HB.out HO.out hg); have ey0 := X_4.out.cell 0; have ey1 := X_4.out.cell 1; have ey2 := X_4.out.cell 2; simp at ey0 ey1 ey2; have fy2 := X_4.out.free 2; clear s1 hg) | (go_simp; go_at_call 141; (with_reducible refine (spec_l06At P K i j A n c rs r _ HVi.out HR.out (by omega) (by omega)).mono ?_); rintro e w4 ⟨A6, n6, c6, B6, m6, d6, rfl, i6, ra6, j6, rb6, hb4⟩; have hn6 := i6.2.1; have hm6 := j6.2.1; have HI6 := Lib.hid i6; have HJ6 := Lib.hid j6; have RA6 := Lib.hid ra6; have RB6 := Lib.hid rb6; have X_1 := Lib.hid (X_0.out.below hb4 X_0.out.lt); have O_1 := Lib.hid (OD.out.below hb4); have B_1 := Lib.hid (BD.out.trans (hb4.mono BD.out.size)); have et2 := X_1.out.cell 2; simp at et2; clear i6 j6 ra6 rb6 hb4) | (go_simp; go_at_call 116; (with_reducible refine (spec_l04Copy r.g A6 n6 c6 r.xs B6 m6 d6 r.ds _ HI6.out RA6.out HJ6.out RB6.out hx24 hd24).mono ?_); rintro e w5 ⟨g, l, v, dd, q, rfl, hq, q1, q2, hap, hc2⟩; obtain ⟨k1, k2, k3⟩ := hq; obtain ⟨A2, c2, rfl⟩ := own_slice q1.2; obtain ⟨B2, d2, rfl⟩ := own_slice q2.2; obtain ⟨s1, s2, s3, s4⟩ := new_el (g := g) O_1.out B_1.out hc2 q1 q2 hap; have HH := Lib.hid (has_append (g := g) (r := l) (d := dd) (v := .slice A2 l.length c2) (u := .slice B2 dd.length d2) hh.out (by rw [k1, k2, k3]; exact HZI.out)); have HO := Lib.hid s1; have HE := Lib.hid s2; have HFR := Lib.hid s3; have HB := Lib.hid s4; have X_2' := Lib.hid (X_1.out.below hc2 X_1.out.lt); have X_3 := Lib.hid (X_2'.out.alloc (.cells #[.bool g, .slice A2 l.length c2, .slice B2 dd.length d2] 30)); have eu2 := X_2'.out.cell 2; simp at eu2; have ev2 : (w5.alloc (.cells #[.bool g, .slice A2 l.length c2, .slice B2 dd.length d2] 30)).cell? ⟨w.heap.size + 1 + 1, 2, none⟩ = some (.slice A1 u c1) := X_3.out.cell 2; clear s1 s2 s3 s4 q1 q2 hap hc2 k1 k2 k3))
          all_goals
            have X_5 := Lib.hid (X_4.out.setAt2 (.slice A5 (u + 1) c5))
            have HO5 := Lib.hid (HO3.out.box_set X_4.out (i := 2) (.slice A5 (u + 1) c5))
            have HB5 := Lib.hid (HB3.out.setCell (p := ⟨w.heap.size + 1 + 1, 2, none⟩) (by dsimp only; omega) (.slice A5 (u + 1) c5))
            go_wp2_with fail
            go_roundw
            case rel => exact ⟨i + 1, u + 1, _, A5, c5, by omega, by go_num, hux, HO5, HH, X_5, HB5⟩
            case measure => simp [intOf]; omega
        · obtain rfl : i = P := by omega
          have hu2 : Hid (u = (j + 1) * i) := by have := hu.out; rw [Nat.add_mul, Nat.one_mul]; exact this
          have ehm00 := hm0_i.out.cell 0
          have ehm01 := hm0_i.out.cell 1
          have ehm02 := hm0_i.out.cell 2
          simp at ehm00 ehm01 ehm02
          go_wp2_with fail
          go_roundw
          case rel => exact ⟨j + 1, u, L, A1, c1, by omega, by go_num, hu2, ho, hh, hX, hb⟩
          case measure => simp [intOf]; omega
    · obtain rfl : j = K := by omega
      obtain rfl : u0 = N := by rw [hu0.out, HN.out]
      have hm0_o := Lib.hid (hm0_0.out.below hb.out hm0_0.out.lt)
      have HH : Hid (Has L zs) := by have := hh.out; rwa [List.take_of_length_le (by rw [HZL.out]; omega)] at this
      have ht_3 := Lib.hid (ht_0.out.below hb.out ht_0.out.lt)
      have BW_3 := Lib.hid (BW_0.out.trans (hb.out.mono BW_0.out.size))
      have HGD : Hid (Goods zs) := by rw [HZ.out]; exact (HM.out.trans).gd
      have ehm00 := hm0_o.out.cell 0
      have ehm01 := hm0_o.out.cell 1
      have ehm02 := hm0_o.out.cell 2
      simp at ehm00 ehm01 ehm02
      have eht0 := ht_3.out.cell 0
      have eht1 := ht_3.out.cell 1
      have eht2 := ht_3.out.cell 2
      have fht0 := ht_3.out.free 0
      have fht1 := ht_3.out.free 1
      have fht2 := ht_3.out.free 2
      simp at eht0 eht1 eht2
      have ex0 := hX.out.cell 0
      have ex1 := hX.out.cell 1
      have ex2 := hX.out.cell 2
      simp at ex0 ex1 ex2
      go_wp2_with fail
      refine bodyPost_ret (v := .agg #[.int .i64 j, .int .i64 P, .slice A1 u0 c1]) (by simp [results, Tryz.results85, eht0, eht1, eht2, go_sem]) rfl ?_
      exact matEnd_store ht_3.out (by omega) BW_3.out ⟨rfl, rfl, HZ.out⟩ HGD.out HZL.out ho.out BW_0.out.size HH.out
end Go.Proofs.YtdehcddjkcpnfaaGreat
