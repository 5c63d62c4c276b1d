/- Contracts of the elimination, by the model: a matrix beside another. -/
import Derived.Test.YthjbfdifeffilaaGreatEA
import Derived.Test.YthjbfdifeffilaaGreatEE
import Derived.Test.YthjbfdifeffilaaGreatMatS
import Derived.Deep.RegionLaw
namespace Go.Proofs.YthjbfdifeffilaaGreat
set_option maxRecDepth 100000
open Go.RowKit

def BesideEnd (P K M : Nat) (zs : List RD) (w w' : World) (e : Ending) : Prop :=
  ∃ A L c, e = .returned (.agg #[.int .i64 P, .int .i64 ((K : Int) + (M : Int)), .slice A (P * (K + M)) c]) ∧ OwnV w' w.heap.size (.slice A (P * (K + M)) c) (P * (K + M)) L ∧ Has L zs ∧ Below w.heap.size w w'
set_option maxHeartbeats 6400000 in
theorem spec_l07Beside (P K : Nat) (A : Option Addr) (n c : Nat) (rs : List RD) (Q M : Nat) (B : Option Addr) (m d : Nat) (ss : List RD) (w : World) (h1 : InV w A n rs) (h2 : InV w B m ss) (hnP : n = P * K) (hmP : m = P * M) (hcn : n ≤ c) (hcm : m ≤ d) (k1 : ∀ r ∈ rs, r.ok) (k2 : ∀ r ∈ ss, r.ok) (hP24 : P ≤ 24) (hK24 : K ≤ 24) (hM24 : M ≤ 24) :
    Calls Tryz.prog 152 #[.agg #[.int .i64 P, .int .i64 K, .slice A n c], .agg #[.int .i64 Q, .int .i64 M, .slice B m d]] w fun e w' => BesideEnd P K M (besTo K M rs ss P) w w' e := by
  obtain ⟨i0, hi, hz0, hz1, hz2⟩ := info_parts Tryz.infoR
  obtain ⟨W0, hW0⟩ : ∃ W, W = (((w.alloc (.cells #[.int .i64 P, .int .i64 K, .slice A n c] 25)).alloc (.cells #[.int .i64 Q, .int .i64 M, .slice B m d] 25)).alloc (.cells #[.int .i64 0, .int .i64 0, .slice none 0 0] 25)) := ⟨_, rfl⟩
  have hm0_0 : Hid (Box W0 (w.heap.size) 25 #[.int .i64 P, .int .i64 K, .slice A n c]) := by rw [hW0]; exact (((Box.at' (by simp)).alloc _).alloc _)
  have hm1_0 : Hid (Box W0 (w.heap.size + 1) 25 #[.int .i64 Q, .int .i64 M, .slice B m d]) := by rw [hW0]; exact ((Box.at' (by simp)).alloc _)
  have ht_0 : Hid (Box W0 (w.heap.size + 1 + 1) 25 #[.int .i64 0, .int .i64 0, .slice none 0 0]) := by rw [hW0]; exact (Box.at' (by simp))
  have BW_0 : Hid (Below w.heap.size w W0) := by rw [hW0]; exact ((((Below.refl w.heap.size w).alloc (by simp) _).alloc (by simp) _).alloc (by simp; omega) _)
  have hsz0 : w.heap.size + 1 + 1 + 1 ≤ W0.heap.size := by rw [hW0]; simp
  have H1 := Lib.hid (h1.below BW_0.out)
  have H2 := Lib.hid (h2.below BW_0.out)
  have hn := h1.2.1
  have hm := h2.2.1
  have HA1 := Lib.hid h1.some_
  have HA2 := Lib.hid h2.some_
  have HN := Lib.hid hnP
  have HM := Lib.hid hmP
  have HK1 := Lib.hid k1
  have HK2 := Lib.hid k2
  have hsz0 := BW_0.out.size
  clear h1 h2 hnP hmP k1 k2
  go_enter Tryz.func152, Tryz.ntmps152
  go_upto_region 1 with fail
  rw [← hW0]
  clear hW0
  have ehm00 := hm0_0.out.cell 0
  have ehm01 := hm0_0.out.cell 1
  have ehm02 := hm0_0.out.cell 2
  have ehm10 := hm1_0.out.cell 0
  have ehm11 := hm1_0.out.cell 1
  have ehm12 := hm1_0.out.cell 2
  have eht0 := ht_0.out.cell 0
  have eht1 := ht_0.out.cell 1
  have eht2 := ht_0.out.cell 2
  have fht0 := ht_0.out.free 0
  have fht1 := ht_0.out.free 1
  have fht2 := ht_0.out.free 2
  simp at ehm00 ehm01 ehm02 ehm10 ehm11 ehm12 eht0 eht1 eht2
  obtain ⟨W3, hW3⟩ : ∃ W, W = W0.alloc (.cells #[.int .i64 P, .int .i64 ((K : Int) + (M : Int)), .slice none 0 0] 25) := ⟨_, rfl⟩
  have hbx : Below W0.heap.size W0 W3 := by rw [hW3]; exact (Below.refl _ _).alloc (Nat.le_refl _) _
  have X_3 : Hid (Box W3 W0.heap.size 25 #[.int .i64 P, .int .i64 ((K : Int) + (M : Int)), .slice none 0 0]) := by rw [hW3]; exact Box.new _ _ _
  have BZ := Lib.hid hbx
  clear hbx
  go_wp2_with fail
  rw [← hW3]
  clear hW3
  clear ehm00 ehm01 ehm02 ehm10 ehm11 ehm12 eht0 fht0 eht1 fht1 eht2 fht2
  go_loopw [6] (fun y wr => ∃ (i N0 : Nat) (L : List El) (A1 : Option Addr) (c1 : Nat), i ≤ P ∧ y = .int .i64 i ∧ Hid (N0 = i * (K + M)) ∧ Hid (OwnV wr W0.heap.size (.slice A1 N0 c1) N0 L) ∧ Hid (Has L (besTo K M rs ss i)) ∧ Hid (Box wr W0.heap.size 25 #[.int .i64 P, .int .i64 ((K : Int) + (M : Int)), .slice A1 N0 c1]) ∧ Hid (Below W0.heap.size W0 wr)) (fun y _ => P - (intOf y).toNat)
  case atStart => exact ⟨0, 0, [], none, 0, Nat.zero_le _, rfl, (Nat.zero_mul _).symm, OwnV.none_ _ _, trivial, X_3, BZ⟩
  case round =>
    obtain ⟨i, N0, L, A1, c1, hle, rfl, hN, ho, hh, hX, hb⟩ := hrel
    have hm0_1 := Lib.hid (hm0_0.out.below hb.out hm0_0.out.lt)
    have hm1_1 := Lib.hid (hm1_0.out.below hb.out hm1_0.out.lt)
    have ep0 := hm0_1.out.cell 0
    simp at ep0
    by_cases hlt : i < P
    · have hi0 : (0 : Int) ≤ (i : Int) := by omega
      have hi1 : (i : Int) < (P : Int) := by omega
      have hi24 : i ≤ 24 := by omega
      have hir : i * K + K ≤ n := by rw [HN.out]; exact row_le hlt
      have hjr : i * M + M ≤ m := by rw [HM.out]; exact row_le hlt
      have hK5 : K ≤ 576 := by omega
      have hM5 : M ≤ 576 := by omega
      have hN0 : N0 ≤ 1152 := by
        have h1 : i * (K + M) ≤ 24 * 48 := Nat.mul_le_mul hi24 (by omega)
        have h2 := hN.out
        omega
      have K1 : Hid (∀ r ∈ mrow K rs i, r.ok) := fun r hr => HK1.out r (List.mem_of_mem_drop (List.mem_of_mem_take hr))
      have K2 : Hid (∀ r ∈ mrow M ss i, r.ok) := fun r hr => HK2.out r (List.mem_of_mem_drop (List.mem_of_mem_take hr))
      have X_0 := Lib.hid hX.out.drew
      have OD := Lib.hid ho.out.drew
      have BD := Lib.hid hb.out.drew
      have I1 : Hid (InV wr.drew A n rs) := (H1.out.below hb.out).below (Below.refl _ _).drew
      have ex2 := hX.out.cell 2
      have ep1 := hm0_1.out.cell 1
      have ep2 := hm0_1.out.cell 2
      simp at ex2 ep1 ep2
      go_wp2_with fail
      go_region_law (first | (refine step_append_els rfl _ _ 23 rfl W0.heap.size i0 (.agg #[.bool false, .slice none 0 0, .slice none 0 0]) 56 Tryz.underlying23 hi hz0 hz1 hz2 rfl _ N0 L rfl HO5.out ⟨G5, 0, none⟩ K c5 L5 rfl HM5.out.1 (OwnV.source (j := 0) HM5.out (fun t _ => by rw [Nat.zero_add])) HE5.out HM5.out.2.2.2 HF5.out (by unfold maxLen; omega) (by omega) HB5.out.size ?_; intro V' w59 s1 hg; obtain ⟨A59, c59, rfl⟩ := s1.slice; have X5_4 := Lib.hid (X5_2.out.grown hg (box_main X5_2.out HO5.out)); have HO59 := Lib.hid s1; have HB59 := Lib.hid (HB5.out.grown hg HB5.out.size (fun k hk => (HO5.out.2.1.lt k hk).1)); have ey0 := X5_4.out.cell 0; have ey1 := X5_4.out.cell 1; have ey2 := X5_4.out.cell 2; simp at ey0 ey1 ey2; have fy2 := X5_4.out.free 2; clear s1 hg) | (go_simp; go_at_call 111; (with_reducible refine (spec_l06Row P K i A n c _ hir hn hcn HA1.out hi24 hK24).mono ?_); rintro e w54 ⟨A54, c54, rfl, hc4, hat4, hb4⟩; have I54 := Lib.hid ((I1.out.below hb4).row hat4 hir hK24); have X5_1 := Lib.hid (X_0.out.below hb4 X_0.out.lt); have OD54 := Lib.hid (OD.out.below hb4); have BD54 := Lib.hid (BD.out.trans (hb4.mono BD.out.size)); have eu2 := X5_1.out.cell 2; simp at eu2; clear hc4 hat4 hb4) | (go_simp; go_at_call 190; (with_reducible refine (spec_l05CopyS A54 K c54 (mrow K rs i) _ I54.out K1.out hK5).mono ?_); rintro e w55 ⟨G5, c5, L5, rfl, ho5, hh5, hb5⟩; have X5_2 := Lib.hid (X5_1.out.below hb5 X5_1.out.lt); have HO5 := Lib.hid (OD54.out.below hb5); have HM5 := Lib.hid ho5; have HE5 : Hid (∀ y ∈ L5, y.own w55 W0.heap.size) := (fun y hy => (ho5.2.2.1 y hy).lower BD54.out.size); have HF5 := Lib.hid (far_old OD54.out ho5 (Nat.le_refl _)); have HB5 := Lib.hid (BD54.out.trans (hb5.mono BD54.out.size)); have HH5 := Lib.hid (hh.out.append hh5); have ev2 := X5_2.out.cell 2; simp at ev2; clear ho5 hh5 hb5))
      all_goals
        obtain ⟨W6, hW6⟩ : ∃ W, W = w59.setCell ⟨W0.heap.size, 2, none⟩ (.slice A59 (N0 + K) c59) := ⟨_, rfl⟩
        have X_5 : Hid (Box W6 W0.heap.size 25 #[.int .i64 P, .int .i64 ((K : Int) + (M : Int)), .slice A59 (N0 + K) c59]) := by rw [hW6]; exact X5_4.out.setAt2 _
        have OD5 : Hid (OwnV W6 W0.heap.size (.slice A59 (N0 + K) c59) (N0 + K) (L ++ L5)) := by rw [hW6]; exact HO59.out.box_set X5_4.out (i := 2) _
        have BD5 : Hid (Below W0.heap.size W0 W6) := by rw [hW6]; exact HB59.out.setCell (p := ⟨W0.heap.size, 2, none⟩) (Nat.le_refl _) _
        have hm1_6 := Lib.hid (hm1_0.out.below BD5.out hm1_0.out.lt)
        have X_6 := Lib.hid X_5.out.drew
        have OD6 := Lib.hid OD5.out.drew
        have BD6 := Lib.hid BD5.out.drew
        have I2 : Hid (InV W6.drew B m ss) := H2.out.below BD6.out
        have fx2 := X_5.out.cell 2
        have fp0 := hm1_6.out.cell 0
        have fp1 := hm1_6.out.cell 1
        have fp2 := hm1_6.out.cell 2
        simp at fx2 fp0 fp1 fp2
        clear ex2 ep0 ep1 ep2 ey0 ey1 ey2 fy2 eu2 ev2
        go_wp2_with fail
        rw [← hW6]
        clear hW6
        go_region_law (first | (refine step_append_els rfl _ _ 23 rfl W0.heap.size i0 (.agg #[.bool false, .slice none 0 0, .slice none 0 0]) 56 Tryz.underlying23 hi hz0 hz1 hz2 rfl _ (N0 + K) (L ++ L5) rfl HO7.out ⟨G7, 0, none⟩ M c7 L7 rfl HM7.out.1 (OwnV.source (j := 0) HM7.out (fun t _ => by rw [Nat.zero_add])) HE7.out HM7.out.2.2.2 HF7.out (by unfold maxLen; omega) (by omega) HB7.out.size ?_; intro V' w79 s1 hg; obtain ⟨A79, c79, rfl⟩ := s1.slice; have X7_4 := Lib.hid (X7_2.out.grown hg (box_main X7_2.out HO7.out)); have HO79 := Lib.hid s1; have HB79 := Lib.hid (HB7.out.grown hg HB7.out.size (fun k hk => (HO7.out.2.1.lt k hk).1)); have ey0 := X7_4.out.cell 0; have ey1 := X7_4.out.cell 1; have ey2 := X7_4.out.cell 2; simp at ey0 ey1 ey2; have fy2 := X7_4.out.free 2; clear s1 hg) | (go_simp; go_at_call 111; (with_reducible refine (spec_l06Row Q M i B m d _ hjr hm hcm HA2.out hi24 hM24).mono ?_); rintro e w74 ⟨A74, c74, rfl, hc4, hat4, hb4⟩; have I74 := Lib.hid ((I2.out.below hb4).row hat4 hjr hM24); have X7_1 := Lib.hid (X_6.out.below hb4 X_6.out.lt); have OD74 := Lib.hid (OD6.out.below hb4); have BD74 := Lib.hid (BD6.out.trans (hb4.mono BD6.out.size)); have eu2 := X7_1.out.cell 2; simp at eu2; clear hc4 hat4 hb4) | (go_simp; go_at_call 190; (with_reducible refine (spec_l05CopyS A74 M c74 (mrow M ss i) _ I74.out K2.out hM5).mono ?_); rintro e w75 ⟨G7, c7, L7, rfl, ho5, hh5, hb5⟩; have X7_2 := Lib.hid (X7_1.out.below hb5 X7_1.out.lt); have HO7 := Lib.hid (OD74.out.below hb5); have HM7 := Lib.hid ho5; have HE7 : Hid (∀ y ∈ L7, y.own w75 W0.heap.size) := (fun y hy => (ho5.2.2.1 y hy).lower BD74.out.size); have HF7 := Lib.hid (far_old OD74.out ho5 (Nat.le_refl _)); have HB7 := Lib.hid (BD74.out.trans (hb5.mono BD74.out.size)); have HH7 := Lib.hid (HH5.out.append hh5); have ev2 := X7_2.out.cell 2; simp at ev2; clear ho5 hh5 hb5))
        all_goals
          have X_8 := Lib.hid (X7_4.out.setAt2 (.slice A79 (N0 + K + M) c79))
          have HO8 := Lib.hid (HO79.out.box_set X7_4.out (i := 2) (.slice A79 (N0 + K + M) c79))
          have HB8 := Lib.hid (HB79.out.setCell (p := ⟨W0.heap.size, 2, none⟩) (Nat.le_refl _) (.slice A79 (N0 + K + M) c79))
          have HN8 : Hid (N0 + K + M = (i + 1) * (K + M)) := by unfold Hid; rw [hN.out, Nat.add_mul, Nat.one_mul, Nat.add_assoc]
          have HH8 : Hid (Has (L ++ L5 ++ L7) (besTo K M rs ss (i + 1))) := by rw [besTo_succ]; exact HH7.out
          go_wp2_with fail
          go_roundw
          case rel => exact ⟨i + 1, N0 + K + M, _, A79, c79, by omega, by go_num, HN8, HO8, HH8, X_8, HB8⟩
          case measure => simp [intOf]; omega
    · obtain rfl : i = P := by omega
      have ht_1 := Lib.hid (ht_0.out.below hb.out ht_0.out.lt)
      have BW_1 := Lib.hid (BW_0.out.trans (hb.out.mono BW_0.out.size))
      have eht0 := ht_1.out.cell 0
      have eht1 := ht_1.out.cell 1
      have eht2 := ht_1.out.cell 2
      have fht0 := ht_1.out.free 0
      have fht1 := ht_1.out.free 1
      have fht2 := ht_1.out.free 2
      simp at eht0 eht1 eht2
      have ex0 := hX.out.cell 0
      have ex1 := hX.out.cell 1
      have ex2 := hX.out.cell 2
      simp at ex0 ex1 ex2
      go_wp2_with fail
      refine bodyPost_ret (v := .agg #[.int .i64 i, .int .i64 ((K : Int) + (M : Int)), .slice A1 N0 c1]) (by simp [results, Tryz.results152, eht0, eht1, eht2, go_sem]) rfl ?_
      have e := hN.out
      subst e
      exact ⟨A1, L, c1, rfl, (ho.out.lower hsz0).box_set3 ht_1.out _ _ _, hh.out, below_store3 BW_1.out (by omega) _ _ _⟩
end Go.Proofs.YthjbfdifeffilaaGreat
