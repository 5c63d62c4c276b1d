/- Contracts of matrices, by the program: an element, a row, copied. -/
import Derived.Test.YtmclfoahfifmfaaMatI
import Derived.Test.YtmclfoahfifmfaaMatS1
import Derived.Test.YtmclfoahfifmfaaGK
namespace Go.Proofs.Ytmclfoahfifmfaa
set_option maxRecDepth 100000
open Go.RowKit

set_option maxHeartbeats 3200000 in
theorem impl_cellAt0 (p k : Int) (A : Option Addr) (n c : Nat) (rs : List RD) (i j : Int) (w : World) (h : InV w A n rs) (hp : -9223372036854775808 ≤ p ∧ p ≤ 9223372036854775807) (hk : -9223372036854775808 ≤ k ∧ k ≤ 9223372036854775807) (hc : n ≤ c) (hib : -9223372036854775808 ≤ i ∧ i ≤ 9223372036854775807) (hjb : -9223372036854775808 ≤ j ∧ j ≤ 9223372036854775807) :
    Calls Try.prog 22 #[.agg #[.int .i64 p, .int .i64 k, .slice A n c], .int .i64 i, .int .i64 j] w fun e w' => RatEnd (CellAtIs p k rs i j) w w' e := by
  obtain ⟨W0, hW0⟩ : ∃ W, W = ((w.alloc (.cells #[.int .i64 p, .int .i64 k, .slice A n c] 25)).alloc (.cells #[.bool false, .slice none 0 0, .slice none 0 0] 42)) := ⟨_, rfl⟩
  have hm0_0 : Hid (Box W0 (w.heap.size) 25 #[.int .i64 p, .int .i64 k, .slice A n c]) := by rw [hW0]; exact ((Box.at' (by simp)).alloc _)
  have hs_0 : Hid (Box W0 (w.heap.size + 1) 42 #[.bool false, .slice none 0 0, .slice none 0 0]) := by rw [hW0]; exact (Box.at' (by simp))
  have BW_0 : Hid (Below w.heap.size w W0) := by rw [hW0]; exact (((Below.refl w.heap.size w).alloc (by simp) _).alloc (by simp) _)
  have hsz0 : w.heap.size + 1 + 1 ≤ W0.heap.size := by rw [hW0]; simp
  have hn := h.2.1
  have HV := Lib.hid (h.below BW_0.out)
  clear h
  go_enter Try.func22, Try.ntmps22
  go_wp2_with fail
  rw [← hW0]
  clear hW0
  refine (impl_matrixOk0 p k A n c rs _ HV.out hp hk hc).mono ?_
  rintro e w1 ⟨b, rfl, hq, hb⟩
  have hm0_1 := Lib.hid (hm0_0.out.below hb hm0_0.out.lt)
  have hs_1 := Lib.hid (hs_0.out.below hb hs_0.out.lt)
  have BW_1 := Lib.hid (BW_0.out.trans (hb.mono BW_0.out.size))
  replace HV := Lib.hid (HV.out.below hb)
  clear hb
  have ehm00 := hm0_1.out.cell 0
  have ehm01 := hm0_1.out.cell 1
  have ehm02 := hm0_1.out.cell 2
  have ehs0 := hs_1.out.cell 0
  have ehs1 := hs_1.out.cell 1
  have ehs2 := hs_1.out.cell 2
  have fhs0 := hs_1.out.free 0
  have fhs1 := hs_1.out.free 1
  have fhs2 := hs_1.out.free 2
  simp at ehm00 ehm01 ehm02 ehs0 ehs1 ehs2
  have hno : Hid (∀ W, (¬ (MOk p k rs ∧ (0 ≤ i ∧ i < p) ∧ 0 ≤ j ∧ j < k)) → Below w.heap.size w W → RatEnd (CellAtIs p k rs i j) w W (.returned (.agg #[.bool false, .slice none 0 0, .slice none 0 0]))) := fun W h hW => ratEnd_zero (cell_no h) hW
  by_cases hbad : ¬ (MOk p k rs ∧ (0 ≤ i ∧ i < p) ∧ 0 ≤ j ∧ j < k)
  · have HB := Lib.hid hbad
    have HF : Hid (∀ W, Below w.heap.size w W → RatEnd (CellAtIs p k rs i j) w W (.returned (.agg #[.bool false, .slice none 0 0, .slice none 0 0]))) := fun W hW => hno.out W HB.out hW
    cases b
    case false =>
      clear hq hbad
      go_wp2_with fail
      refine bodyPost_ret (v := .agg #[.bool false, .slice none 0 0, .slice none 0 0]) (by simp [results, Try.results22, ehs0, ehs1, ehs2, go_sem]) rfl ?_
      exact HF.out _ (below_store3 BW_1.out (by omega) _ _ _)
    have hM := hq.1 rfl
    have hp2 := hM.1
    have hk2 := hM.2.1
    have hor : (i < 0 ∨ p ≤ i ∨ j < 0 ∨ k ≤ j) := by
      rcases Int.lt_or_le i 0 with h | h
      · exact .inl h
      rcases Int.lt_or_le i p with h1 | h1
      · rcases Int.lt_or_le j 0 with h2 | h2
        · exact .inr (.inr (.inl h2))
        rcases Int.lt_or_le j k with h3 | h3
        · exact absurd ⟨hM, ⟨h, h1⟩, h2, h3⟩ hbad
        · exact .inr (.inr (.inr h3))
      · exact .inr (.inl h1)
    clear hq hbad hM
    by_cases hi0 : i < 0
    · clear hor
      go_wp2_with fail
      refine bodyPost_ret (v := .agg #[.bool false, .slice none 0 0, .slice none 0 0]) (by simp [results, Try.results22, ehs0, ehs1, ehs2, go_sem]) rfl ?_
      exact HF.out _ (below_store3 BW_1.out (by omega) _ _ _)
    by_cases hip : p ≤ i
    · clear hor
      go_wp2_with fail
      refine bodyPost_ret (v := .agg #[.bool false, .slice none 0 0, .slice none 0 0]) (by simp [results, Try.results22, ehs0, ehs1, ehs2, go_sem]) rfl ?_
      exact HF.out _ (below_store3 BW_1.out (by omega) _ _ _)
    by_cases hj0 : j < 0
    · clear hor
      go_wp2_with fail
      refine bodyPost_ret (v := .agg #[.bool false, .slice none 0 0, .slice none 0 0]) (by simp [results, Try.results22, ehs0, ehs1, ehs2, go_sem]) rfl ?_
      exact HF.out _ (below_store3 BW_1.out (by omega) _ _ _)
    have hjk : k ≤ j := by omega
    clear hor
    go_wp2_with fail
    refine bodyPost_ret (v := .agg #[.bool false, .slice none 0 0, .slice none 0 0]) (by simp [results, Try.results22, ehs0, ehs1, ehs2, go_sem]) rfl ?_
    exact HF.out _ (below_store3 BW_1.out (by omega) _ _ _)
  have hgood : MOk p k rs ∧ (0 ≤ i ∧ i < p) ∧ 0 ≤ j ∧ j < k := Classical.byContradiction hbad
  clear hbad hno
  have HM := Lib.hid hgood.1
  obtain ⟨⟨hi0, hip⟩, hj0, hjk⟩ := hgood.2
  have hp2 := HM.out.1
  have hk2 := HM.out.2.1
  clear hgood
  obtain rfl : b = true := hq.2 HM.out
  clear hq
  obtain ⟨P, rfl⟩ : ∃ P : Nat, p = P := ⟨p.toNat, by omega⟩
  obtain ⟨K, rfl⟩ : ∃ K : Nat, k = K := ⟨k.toNat, by omega⟩
  obtain ⟨I, rfl⟩ : ∃ P : Nat, i = P := ⟨i.toNat, by omega⟩
  obtain ⟨J, rfl⟩ : ∃ K : Nat, j = K := ⟨j.toNat, by omega⟩
  have hIP : I < P := by omega
  have hJK : J < K := by omega
  have hir : I * K + K ≤ n := by have h1 := HM.out.plen; rw [HV.out.1] at h1; rw [h1]; exact row_le hIP
  go_wp2_with fail
  clear ehm00 ehm01 ehm02 ehs0 fhs0 ehs1 fhs1 ehs2 fhs2
  refine (impl_rowAt P K I A n c _ hir hn hc HV.out.some_ (by omega) (by omega)).mono ?_
  rintro e w3 ⟨A', c', rfl, _, hat, hb⟩
  have hs_2 := Lib.hid (hs_1.out.below hb hs_1.out.lt)
  have BW_2 := Lib.hid (BW_1.out.trans (hb.mono BW_1.out.size))
  replace HV := Lib.hid (HV.out.below hb)
  clear hb
  have HVR := Lib.hid (HV.out.row hat hir (by omega))
  clear hat
  obtain ⟨b1, o1, rfl, hb1, r, hr, A1, n1, c1, B1, m1, d1, at1, i1, ra, j1, rb⟩ := HVR.out.at_ J hJK
  obtain ⟨e0, e1, e2⟩ := at1
  have hr2 : rs[I * K + J]? = some r := by rw [← mrow_at (rs := rs) hJK]; exact hr
  have HK : Hid r.ok := HM.out.all _ (List.mem_of_getElem? hr2)
  have HR := Lib.hid hr2
  have hn1 := i1.2.1
  have hm1 := j1.2.1
  have HI := Lib.hid i1
  have HJ := Lib.hid j1
  clear i1 j1 hr hr2
  go_wp2_with fail
  clear e0 e1 e2
  refine (impl_copyOfRat r.g A1 n1 c1 r.xs B1 m1 d1 r.ds _ HI.out ra HJ.out rb (by have := HK.out.2.2.2.2.1; omega) (by have := HK.out.2.2.2.2.2; omega)).mono ?_
  rintro e wz ⟨s, l, v, dd, u, rfl, hq, ⟨hl1, ho1⟩, ⟨hl2, ho2⟩, hap, hb⟩
  obtain ⟨q1, q2, q3⟩ := hq
  have HQ : Hid (CellAtIs P K rs I J s l dd) := .inl ⟨⟨HM.out, by omega, by omega⟩, by
    rw [show ((I : Int) * (K : Int) + (J : Int)).toNat = I * K + J by rw [← Int.natCast_mul]; omega, q1, q2, q3]; exact HR.out⟩
  have hle1 : l.length ≤ 24 := by rw [q2]; exact HK.out.2.2.2.2.1
  have hle2 : dd.length ≤ 24 := by rw [q3]; exact HK.out.2.2.2.2.2
  have HAP := Lib.hid hap
  have hszl := BW_2.out.size
  have hs_3 := Lib.hid (hs_2.out.below hb hs_2.out.lt)
  have BW_3 := Lib.hid (BW_2.out.trans (hb.mono BW_2.out.size))
  clear hb
  clear hap q1 q2 q3 hl1 hl2
  have hl1 := hle1
  have hl2 := hle2
  obtain ⟨A9, c9, rfl⟩ := own_slice ho1
  obtain ⟨B9, d9, rfl⟩ := own_slice ho2
  obtain ⟨N9, hN9⟩ : ∃ N, N = l.length := ⟨_, rfl⟩
  obtain ⟨M9, hM9⟩ : ∃ N, N = dd.length := ⟨_, rfl⟩
  rw [← hN9] at hl1 ho1 HAP ⊢
  rw [← hM9] at hl2 ho2 HAP ⊢
  have HN := Lib.hid hN9.symm
  have HMM := Lib.hid hM9.symm
  have HO := Lib.hid ho1
  have HU := Lib.hid ho2
  clear ho1 ho2 hN9 hM9
  have ehs0 := hs_3.out.cell 0
  have ehs1 := hs_3.out.cell 1
  have ehs2 := hs_3.out.cell 2
  have fhs0 := hs_3.out.free 0
  have fhs1 := hs_3.out.free 1
  have fhs2 := hs_3.out.free 2
  simp at ehs0 ehs1 ehs2
  go_wp2_with fail
  refine bodyPost_ret (v := .agg #[.bool s, .slice A9 N9 c9, .slice B9 M9 d9]) (by simp [results, Try.results22, ehs0, ehs1, ehs2, go_sem]) rfl ?_
  exact ratEnd_store hs_3.out (by omega) BW_3.out HQ.out HN.out HMM.out (by omega) (by omega) HO.out (by omega) HU.out (by omega) HAP.out
theorem impl_cellAt (p k : Int) (A : Option Addr) (n c : Nat) (rs : List RD) (i j : Int) (w : World) (h : InV w A n rs) (hp : -9223372036854775808 ≤ p ∧ p ≤ 9223372036854775807) (hk : -9223372036854775808 ≤ k ∧ k ≤ 9223372036854775807) (hc : n ≤ c) (hi : -9223372036854775808 ≤ i ∧ i ≤ 9223372036854775807) (hj : -9223372036854775808 ≤ j ∧ j ≤ 9223372036854775807) :
    Calls Try.prog 22 #[.agg #[.int .i64 p, .int .i64 k, .slice A n c], .int .i64 i, .int .i64 j] w fun e w' => ∃ g r v d u, e = .returned (.agg #[.bool g, v, u]) ∧ CellAtIs p k rs i j g r d ∧ ResI w w' v r ∧ ResI w w' u d ∧ Apart u v ∧ Below w.heap.size w w' := (impl_cellAt0 p k A n c rs i j w h hp hk hc hi hj).mono fun _ _ h => h
set_option maxHeartbeats 3200000 in
theorem impl_rowOf0 (p k : Int) (A : Option Addr) (n c : Nat) (rs : List RD) (i : Int) (w : World) (h : InV w A n rs) (hp : -9223372036854775808 ≤ p ∧ p ≤ 9223372036854775807) (hk : -9223372036854775808 ≤ k ∧ k ≤ 9223372036854775807) (hc : n ≤ c) (hib : -9223372036854775808 ≤ i ∧ i ≤ 9223372036854775807) :
    Calls Try.prog 20 #[.agg #[.int .i64 p, .int .i64 k, .slice A n c], .int .i64 i] w fun e w' => VecEnd (RowOfIs p k rs i) w w' e := by
  obtain ⟨i0, hi, hz0, hz1, hz2⟩ := info_parts Try.infoR
  obtain ⟨W0, hW0⟩ : ∃ W, W = (w.alloc (.cells #[.int .i64 p, .int .i64 k, .slice A n c] 25)) := ⟨_, rfl⟩
  have hm0_0 : Hid (Box W0 (w.heap.size) 25 #[.int .i64 p, .int .i64 k, .slice A n c]) := by rw [hW0]; exact (Box.at' (by simp))
  have BW_0 : Hid (Below w.heap.size w W0) := by rw [hW0]; exact ((Below.refl w.heap.size w).alloc (by simp) _)
  have hsz0 : w.heap.size + 1 ≤ W0.heap.size := by rw [hW0]; simp
  have hn := h.2.1
  have HV := Lib.hid (h.below BW_0.out)
  clear h
  go_enter Try.func20, Try.ntmps20
  go_wp2_with fail
  rw [← hW0]
  clear hW0
  refine (impl_matrixOk0 p k A n c rs _ HV.out hp hk hc).mono ?_
  rintro e w1 ⟨b, rfl, hq, hb⟩
  have hm0_1 := Lib.hid (hm0_0.out.below hb hm0_0.out.lt)
  have BW_1 := Lib.hid (BW_0.out.trans (hb.mono BW_0.out.size))
  replace HV := Lib.hid (HV.out.below hb)
  clear hb
  have ehm00 := hm0_1.out.cell 0
  have ehm01 := hm0_1.out.cell 1
  have ehm02 := hm0_1.out.cell 2
  simp at ehm00 ehm01 ehm02
  cases b
  case false =>
    have HF : Hid (VecEnd (RowOfIs p k rs i) w w1 (.returned (.slice none 0 0))) := ⟨[], _, rfl, row_no fun h => (by have h1 := hq.2 h.1; cases h1), resV_nil _ _, BW_1.out⟩
    clear hq
    go_wp2_with fail
    go_ret
    exact HF.out
  have HM := Lib.hid (hq.1 rfl)
  clear hq
  have hp2 := HM.out.1
  have hk2 := HM.out.2.1
  by_cases hi0 : i < 0
  · have HF : Hid (VecEnd (RowOfIs p k rs i) w w1 (.returned (.slice none 0 0))) := ⟨[], _, rfl, row_no fun h => by omega, resV_nil _ _, BW_1.out⟩
    go_wp2_with fail
    go_ret
    exact HF.out
  by_cases hip : p ≤ i
  · have HF : Hid (VecEnd (RowOfIs p k rs i) w w1 (.returned (.slice none 0 0))) := ⟨[], _, rfl, row_no fun h => by omega, resV_nil _ _, BW_1.out⟩
    go_wp2_with fail
    go_ret
    exact HF.out
  obtain ⟨P, rfl⟩ : ∃ P : Nat, p = P := ⟨p.toNat, by omega⟩
  obtain ⟨K, rfl⟩ : ∃ K : Nat, k = K := ⟨k.toNat, by omega⟩
  obtain ⟨I, rfl⟩ : ∃ P : Nat, i = P := ⟨i.toNat, by omega⟩
  have hIP : I < P := by omega
  have hK24 : K ≤ 24 := by omega
  have hir : I * K + K ≤ n := by have h1 := HM.out.plen; rw [HV.out.1] at h1; rw [h1]; exact row_le hIP
  obtain ⟨zs, hzs⟩ : ∃ zs, zs = mrow K rs I := ⟨_, rfl⟩
  have HZ := Lib.hid hzs
  have HZK : Hid (VOk zs) := by rw [hzs]; exact mrow_ok HM.out rfl HM.out.plen hIP
  have HZL : Hid (zs.length = K) := by rw [hzs]; exact mrow_length HM.out.plen hIP
  clear hzs
  have hlt1 := hm0_1.out.lt
  go_wp2_with (refine wpList_make_full _ rfl _ _ 23 rfl w1.heap.size 42 i0 (.agg #[.bool false, .slice none 0 0, .slice none 0 0]) 3 Try.underlying23 hi hz0 hz1 _ _ _ _ K rfl rfl rfl rfl ?c1 ?c2 ?c3 ?_)
  case c1 => rw [hz2]; omega
  case c2 => unfold maxLen; omega
  case c3 => exact Nat.le_refl _
  intro w2 ho hg
  have hbm : Below w1.heap.size w1 w2 := (Below.refl w1.heap.size w1).grown hg (Nat.le_refl _) (fun k hk => by cases hk)
  have BM := Lib.hid hbm
  have O1 := Lib.hid (OwnV.made ho)
  have hm0_2 := Lib.hid (hm0_1.out.below hbm hm0_1.out.lt)
  clear ho hg hbm
  clear ehm00 ehm01 ehm02
  have ehm00 := hm0_2.out.cell 0
  have ehm01 := hm0_2.out.cell 1
  have ehm02 := hm0_2.out.cell 2
  simp at ehm00 ehm01 ehm02
  go_wp2_with fail
  clear ehm00 ehm01 ehm02
  refine (impl_rowAt P K I A n c _ hir hn hc HV.out.some_ (by omega) (by omega)).mono ?_
  rintro e w3 ⟨A', c', rfl, _, hat, hb⟩
  have HVR : Hid (InV w1 A' K zs) := by rw [HZ.out]; exact HV.out.row hat hir hK24
  have BM3 := Lib.hid (BM.out.trans (hb.mono BM.out.size))
  have O3 := Lib.hid (O1.out.below hb)
  clear hat hb
  go_wp2_with fail
  go_loopw [28] (fun y wr => ∃ (t : Nat) (L : List El), t ≤ K ∧ y = .int .i64 t ∧ Hid (OwnV wr w1.heap.size (.slice (some ⟨w1.heap.size, 0, none⟩) K K) K L) ∧ Hid (Has L (upTo zs t K)) ∧ Hid (Below w1.heap.size w1 wr)) (fun y _ => K - (intOf y).toNat)
  case atStart => exact ⟨0, _, Nat.zero_le _, rfl, O3, by rw [upTo_zero]; exact has_zeros K, BM3⟩
  case round =>
    obtain ⟨t, L, hle, rfl, ho, hh, hb⟩ := hrel
    by_cases hlt : t < K
    · obtain ⟨b2, o2, rfl, hb2, r2, hr2, A4, n4, c4, B4, m4, d4, at2, i2, ra2, j2, rb2⟩ := HVR.out.atB hb.out t hlt
      have hi0 : (0 : Int) ≤ (t : Int) := by omega
      have hi1 : (t : Int) < (K : Int) := by omega
      have hw0 : w1.heap.size ≤ wr.heap.size := hb.out.size
      have hbx : Below wr.heap.size wr (wr.alloc (.cells #[.bool r2.g, .slice A4 n4 c4, .slice B4 m4 d4] 42)) := (Below.refl _ _).alloc (Nat.le_refl _) _
      have BD := Lib.hid (hb.out.trans (hbx.mono hw0))
      have I2 := Lib.hid (i2.below hbx)
      have J2 := Lib.hid (j2.below hbx)
      have RA2 := Lib.hid ra2
      have RB2 := Lib.hid rb2
      have HK2 : Hid r2.ok := vok_at HZK.out hr2
      have HZI : Hid (zs[t]? = some ⟨r2.g, r2.xs, r2.ds⟩) := hr2
      have hn4 := i2.2.1
      have hm4 := j2.2.1
      have OD := Lib.hid (ho.out.below hbx)
      obtain ⟨e20, e21, e22⟩ := at2
      clear i2 j2 hr2 ra2 rb2 hbx
      go_wp2_with fail
      clear e20 e21 e22
      refine (impl_copyOfRat r2.g A4 n4 c4 r2.xs B4 m4 d4 r2.ds _ I2.out RA2.out J2.out RB2.out (by have := HK2.out.2.2.2.2.1; omega) (by have := HK2.out.2.2.2.2.2; omega)).mono ?_
      rintro e w4 ⟨g, r, v, dd, u, rfl, hq, q1, q2, hap, hc2⟩
      obtain ⟨k1, k2, k3⟩ := hq
      obtain ⟨A6, c6, rfl⟩ := own_slice q1.2
      obtain ⟨B6, d6, rfl⟩ := own_slice q2.2
      obtain ⟨⟨x0, x1, x2, p0, p1, p2, f0, f1, f2⟩, s1, s2⟩ := store_el (g := g) OD.out BD.out hc2 hlt q1 q2 hap
      have HH := Lib.hid (has_store (g := g) (r := r) (d := dd) (v := .slice A6 r.length c6) (u := .slice B6 dd.length d6) hh.out (by rw [k1, k2, k3]; exact HZI.out) hlt)
      have HO := Lib.hid s1
      have HB := Lib.hid s2
      clear k1 k2 k3 q1 q2 hap hc2 s1 s2
      go_wp2_with fail
      go_roundw
      case rel => exact ⟨t + 1, _, by omega, by go_num, HO, HH, HB⟩
      case measure => simp [intOf]; omega
    · obtain rfl : t = K := by omega
      have HH : Hid (Has L zs) := by rw [← upTo_all HZL.out]; exact hh
      have HF : Hid (VecEnd (RowOfIs P t rs I) w wr (.returned (.slice (some ⟨w1.heap.size, 0, none⟩) t t))) :=
        ⟨zs, _, rfl, .inl ⟨⟨HM.out, by omega, by omega⟩, HZ.out⟩, resV_mk HZK.out.goods HZL.out (ho.out.lower BW_1.out.size) HH.out, BW_1.out.trans (hb.out.mono BW_1.out.size)⟩
      go_wp2_with fail
      go_ret
      exact HF.out
theorem impl_rowOf (p k : Int) (A : Option Addr) (n c : Nat) (rs : List RD) (i : Int) (w : World) (h : InV w A n rs) (hp : -9223372036854775808 ≤ p ∧ p ≤ 9223372036854775807) (hk : -9223372036854775808 ≤ k ∧ k ≤ 9223372036854775807) (hc : n ≤ c) (hi : -9223372036854775808 ≤ i ∧ i ≤ 9223372036854775807) :
    Calls Try.prog 20 #[.agg #[.int .i64 p, .int .i64 k, .slice A n c], .int .i64 i] w fun e w' => ∃ r V, e = .returned V ∧ RowOfIs p k rs i r ∧ ResV w w' V r ∧ Below w.heap.size w w' := (impl_rowOf0 p k A n c rs i w h hp hk hc hi).mono fun _ _ h => h
end Go.Proofs.Ytmclfoahfifmfaa
