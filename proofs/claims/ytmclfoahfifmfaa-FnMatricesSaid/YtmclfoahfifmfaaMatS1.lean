/- Contracts of matrices, by the model: an element, a row, copied. -/
import Derived.Test.YtmclfoahfifmfaaMatS
import Derived.Test.YtmclfoahfifmfaaGK
namespace Go.Proofs.Ytmclfoahfifmfaa
set_option maxRecDepth 100000
open Go.RowKit

theorem cell_no {p k : Int} {rs : List RD} {i j : Int} (h : ¬ (MOk p k rs ∧ (0 ≤ i ∧ i < p) ∧ 0 ≤ j ∧ j < k)) : CellAtIs p k rs i j false [] [] := .inr ⟨h, rfl, rfl, rfl⟩
theorem row_no {p k : Int} {rs : List RD} {i : Int} (h : ¬ (MOk p k rs ∧ 0 ≤ i ∧ i < p)) : RowOfIs p k rs i [] := .inr ⟨h, rfl⟩
theorem MOk.at_ {P K : Nat} {rs : List RD} (h : MOk P K rs) {i j : Nat} (hi : i < P) (hj : j < K) : ∃ r, rs[i * K + j]? = some r ∧ r.ok := by
  have hl : rs.length = P * K := by have := h.2.2.1; rw [← Int.natCast_mul] at this; omega
  have hlt : i * K + j < rs.length := by rw [hl]; exact cell_lt hi hj
  exact ⟨_, List.getElem?_eq_getElem hlt, h.all _ (List.getElem_mem _)⟩
theorem MOk.plen {P K : Nat} {rs : List RD} (h : MOk P K rs) : rs.length = P * K := by have := h.2.2.1; rw [← Int.natCast_mul] at this; omega
/-- Where the elements lie. -/
theorem InV.some_ {w : World} {A : Option Addr} {n : Nat} {rs : List RD} (h : InV w A n rs) (hn : 0 < n) : ∃ b o, A = some ⟨b, o, none⟩ := by
  rcases h.2.2 with h0 | ⟨b, o, hA, _⟩
  · omega
  · exact ⟨b, o, hA⟩
set_option maxHeartbeats 3200000 in
theorem spec_cellAt0 (p k : Int) (A : Option Addr) (n c : Nat) (rs : List RD) (i j : Int) (w : World) (h : InV w A n rs) (hp : -9223372036854775808 ≤ p ∧ p ≤ 9223372036854775807) (hk : -9223372036854775808 ≤ k ∧ k ≤ 9223372036854775807) :
    Calls Try.prog 36 #[.agg #[.int .i64 p, .int .i64 k, .slice A n c], .int .i64 i, .int .i64 j] w fun e w' => RatEnd (CellAtIs p k rs i j) w w' e := by
  obtain ⟨W0, hW0⟩ : ∃ W, W = ((w.alloc (.cells #[.int .i64 p, .int .i64 k, .slice A n c] 25)).alloc (.cells #[.bool false, .slice none 0 0, .slice none 0 0] 42)) := ⟨_, rfl⟩
  have hm0_0 : Hid (Box W0 (w.heap.size) 25 #[.int .i64 p, .int .i64 k, .slice A n c]) := by rw [hW0]; exact ((Box.at' (by simp)).alloc _)
  have hs_0 : Hid (Box W0 (w.heap.size + 1) 42 #[.bool false, .slice none 0 0, .slice none 0 0]) := by rw [hW0]; exact (Box.at' (by simp))
  have BW_0 : Hid (Below w.heap.size w W0) := by rw [hW0]; exact (((Below.refl w.heap.size w).alloc (by simp) _).alloc (by simp) _)
  have hsz0 : w.heap.size + 1 + 1 ≤ W0.heap.size := by rw [hW0]; simp
  have HV := Lib.hid (h.below BW_0.out)
  clear h
  go_enter Try.func36, Try.ntmps36
  go_wp2_with fail
  rw [← hW0]
  clear hW0
  refine (spec_matrixOk0 p k A n c rs _ HV.out hp hk).mono ?_
  rintro e w1 ⟨b, rfl, hq, hb⟩
  have hm0_1 := Lib.hid (hm0_0.out.below hb hm0_0.out.lt)
  have hs_1 := Lib.hid (hs_0.out.below hb hs_0.out.lt)
  have BW_1 := Lib.hid (BW_0.out.trans (hb.mono BW_0.out.size))
  replace HV := Lib.hid (HV.out.below hb)
  clear hb
  have ehm00 := hm0_1.out.cell 0
  have ehm01 := hm0_1.out.cell 1
  have ehm02 := hm0_1.out.cell 2
  have ehs0 := hs_1.out.cell 0
  have ehs1 := hs_1.out.cell 1
  have ehs2 := hs_1.out.cell 2
  have fhs0 := hs_1.out.free 0
  have fhs1 := hs_1.out.free 1
  have fhs2 := hs_1.out.free 2
  simp at ehm00 ehm01 ehm02 ehs0 ehs1 ehs2
  cases b
  case false =>
    have HZ : Hid (CellAtIs p k rs i j false [] []) := cell_no fun h => (by have h1 := hq.2 h.1; cases h1)
    clear hq
    go_wp2_with fail
    refine bodyPost_ret (v := .agg #[.bool false, .slice none 0 0, .slice none 0 0]) (by simp [results, Try.results36, ehs0, ehs1, ehs2, go_sem]) rfl ?_
    exact ratEnd_zero HZ.out (below_store3 BW_1.out (by omega) _ _ _)
  have HM := Lib.hid (hq.1 rfl)
  clear hq
  have hp2 := HM.out.1
  have hk2 := HM.out.2.1
  obtain ⟨b1, hb1⟩ : ∃ b, (decide (0 ≤ i) && decide (i ≤ p - 1)) = b := ⟨_, rfl⟩
  have H1 := Lib.hid hb1
  clear hb1
  go_wp2_with fail
  refine (spec_in i 0 (p - 1) b1 H1.out _).mono ?_
  rintro e w2 ⟨rfl, rfl⟩
  cases b1
  case false =>
    have HZ : Hid (CellAtIs p k rs i j false [] []) := cell_no fun h => in_no H1.out ⟨h.2.1.1, by omega⟩
    go_wp2_with fail
    refine bodyPost_ret (v := .agg #[.bool false, .slice none 0 0, .slice none 0 0]) (by simp [results, Try.results36, ehs0, ehs1, ehs2, go_sem]) rfl ?_
    exact ratEnd_zero HZ.out (below_store3 BW_1.out (by omega) _ _ _)
  have hi2 := in_yes H1.out
  obtain ⟨b2, hb2⟩ : ∃ b, (decide (0 ≤ j) && decide (j ≤ k - 1)) = b := ⟨_, rfl⟩
  have H2 := Lib.hid hb2
  clear hb2
  go_wp2_with fail
  refine (spec_in j 0 (k - 1) b2 H2.out _).mono ?_
  rintro e w2 ⟨rfl, rfl⟩
  cases b2
  case false =>
    have HZ : Hid (CellAtIs p k rs i j false [] []) := cell_no fun h => in_no H2.out ⟨h.2.2.1, by omega⟩
    go_wp2_with fail
    refine bodyPost_ret (v := .agg #[.bool false, .slice none 0 0, .slice none 0 0]) (by simp [results, Try.results36, ehs0, ehs1, ehs2, go_sem]) rfl ?_
    exact ratEnd_zero HZ.out (below_store3 BW_1.out (by omega) _ _ _)
  have hj2 := in_yes H2.out
  obtain ⟨P, rfl⟩ : ∃ P : Nat, p = P := ⟨p.toNat, by omega⟩
  obtain ⟨K, rfl⟩ : ∃ K : Nat, k = K := ⟨k.toNat, by omega⟩
  obtain ⟨I, rfl⟩ : ∃ P : Nat, i = P := ⟨i.toNat, by omega⟩
  obtain ⟨J, rfl⟩ : ∃ K : Nat, j = K := ⟨j.toNat, by omega⟩
  obtain ⟨r, hr, hrk⟩ := HM.out.at_ (i := I) (j := J) (by omega) (by omega)
  have HR := Lib.hid hr
  have HK := Lib.hid hrk
  clear hr hrk
  go_wp2_with fail
  clear ehm00 ehm01 ehm02 ehs0 fhs0 ehs1 fhs1 ehs2 fhs2
  refine (spec_l06At P K I J A n c rs r _ HV.out HR.out (by omega) (by omega)).mono ?_
  rintro e w3 ⟨A1, n1, c1, B1, m1, d1, rfl, i1, ra, j1, rb, hb⟩
  have hs_2 := Lib.hid (hs_1.out.below hb hs_1.out.lt)
  have BW_2 := Lib.hid (BW_1.out.trans (hb.mono BW_1.out.size))
  clear hb
  have hn1 := i1.2.1
  have hm1 := j1.2.1
  have HI := Lib.hid i1
  have HJ := Lib.hid j1
  clear i1 j1
  go_wp2_with fail
  refine (spec_l04Copy r.g A1 n1 c1 r.xs B1 m1 d1 r.ds _ HI.out ra HJ.out rb (by have := HK.out.2.2.2.2.1; omega) (by have := HK.out.2.2.2.2.2; omega)).mono ?_
  rintro e wz ⟨s, l, v, dd, u, rfl, hq, ⟨hl1, ho1⟩, ⟨hl2, ho2⟩, hap, hb⟩
  obtain ⟨q1, q2, q3⟩ := hq
  have HQ : Hid (CellAtIs P K rs I J s l dd) := .inl ⟨⟨HM.out, by omega, by omega⟩, by
    rw [show ((I : Int) * (K : Int) + (J : Int)).toNat = I * K + J by rw [← Int.natCast_mul]; omega, q1, q2, q3]; exact HR.out⟩
  have hle1 : l.length ≤ 24 := by rw [q2]; exact HK.out.2.2.2.2.1
  have hle2 : dd.length ≤ 24 := by rw [q3]; exact HK.out.2.2.2.2.2
  have HAP := Lib.hid hap
  have hszl := BW_2.out.size
  have hs_3 := Lib.hid (hs_2.out.below hb hs_2.out.lt)
  have BW_3 := Lib.hid (BW_2.out.trans (hb.mono BW_2.out.size))
  clear hb
  clear hap q1 q2 q3 hl1 hl2
  have hl1 := hle1
  have hl2 := hle2
  obtain ⟨A9, c9, rfl⟩ := own_slice ho1
  obtain ⟨B9, d9, rfl⟩ := own_slice ho2
  obtain ⟨N9, hN9⟩ : ∃ N, N = l.length := ⟨_, rfl⟩
  obtain ⟨M9, hM9⟩ : ∃ N, N = dd.length := ⟨_, rfl⟩
  rw [← hN9] at hl1 ho1 HAP ⊢
  rw [← hM9] at hl2 ho2 HAP ⊢
  have HN := Lib.hid hN9.symm
  have HMM := Lib.hid hM9.symm
  have HO := Lib.hid ho1
  have HU := Lib.hid ho2
  clear ho1 ho2 hN9 hM9
  have ehs0 := hs_3.out.cell 0
  have ehs1 := hs_3.out.cell 1
  have ehs2 := hs_3.out.cell 2
  have fhs0 := hs_3.out.free 0
  have fhs1 := hs_3.out.free 1
  have fhs2 := hs_3.out.free 2
  simp at ehs0 ehs1 ehs2
  go_wp2_with fail
  refine bodyPost_ret (v := .agg #[.bool s, .slice A9 N9 c9, .slice B9 M9 d9]) (by simp [results, Try.results36, ehs0, ehs1, ehs2, go_sem]) rfl ?_
  exact ratEnd_store hs_3.out (by omega) BW_3.out HQ.out HN.out HMM.out (by omega) (by omega) HO.out (by omega) HU.out (by omega) HAP.out
theorem spec_cellAt (p k : Int) (A : Option Addr) (n c : Nat) (rs : List RD) (i j : Int) (w : World) (h : InV w A n rs) (hp : -9223372036854775808 ≤ p ∧ p ≤ 9223372036854775807) (hk : -9223372036854775808 ≤ k ∧ k ≤ 9223372036854775807) (_hc : n ≤ c) (_hi : -9223372036854775808 ≤ i ∧ i ≤ 9223372036854775807) (_hj : -9223372036854775808 ≤ j ∧ j ≤ 9223372036854775807) :
    Calls Try.prog 36 #[.agg #[.int .i64 p, .int .i64 k, .slice A n c], .int .i64 i, .int .i64 j] w fun e w' => ∃ g r v d u, e = .returned (.agg #[.bool g, v, u]) ∧ CellAtIs p k rs i j g r d ∧ ResI w w' v r ∧ ResI w w' u d ∧ Apart u v ∧ Below w.heap.size w w' := (spec_cellAt0 p k A n c rs i j w h hp hk).mono fun _ _ h => h
set_option maxHeartbeats 3200000 in
theorem spec_l05Copy (A : Option Addr) (n c : Nat) (rs : List RD) (w : World) (h : InV w A n rs) (hv : VOk rs) :
    Calls Try.prog 74 #[.slice A n c] w fun e w' => VecEnd (fun r => r = rs) w w' e := by
  obtain ⟨i0, hi, hz0, hz1, hz2⟩ := info_parts Try.infoR
  have hn := h.2.1
  have HV := Lib.hid h
  have HK := Lib.hid hv
  have h24 : n ≤ 24 := by rw [← h.1]; exact hv.1
  clear h hv
  go_enter Try.func74, Try.ntmps74
  go_wp2_with fail
  go_loopw [3, 9] (fun x y wr => ∃ (i : Nat) (L : List El) (A1 : Option Addr) (c1 : Nat), i ≤ n ∧ y = .int .i64 i ∧ x = .slice A1 i c1 ∧ Hid (OwnV wr w.heap.size (.slice A1 i c1) i L) ∧ Hid (Has L (rs.take i)) ∧ Hid (Below w.heap.size w wr)) (fun _ y _ => n - (intOf y).toNat)
  case atStart => exact ⟨0, [], _, _, Nat.zero_le _, rfl, rfl, OwnV.empty _ _, by rw [List.take_zero]; exact trivial, (Below.refl _ _).alloc (Nat.le_refl _) _⟩
  case round =>
    obtain ⟨i, L, A1, c1, hle, rfl, rfl, ho, hh, hb⟩ := hrel
    by_cases hlt : i < n
    · obtain ⟨b1, o1, rfl, hb1, r1, hr1, A3, n3, c3, B3, m3, d3, at1, i1, ra1, j1, rb1⟩ := HV.out.atB hb.out i hlt
      have hi0 : (0 : Int) ≤ (i : Int) := by omega
      have hi1 : (i : Int) < (n : Int) := by omega
      have K1 : Hid r1.ok := vok_at HK.out hr1
      have HR1 : Hid (rs[i]? = some ⟨r1.g, r1.xs, r1.ds⟩) := hr1
      have hn3 := i1.2.1
      have hm3 := j1.2.1
      obtain ⟨e10, e11, e12⟩ := at1
      have hbx : Below wr.heap.size wr (wr.alloc (.cells #[.bool r1.g, .slice A3 n3 c3, .slice B3 m3 d3] 42)) := (Below.refl _ _).alloc (Nat.le_refl _) _
      have I1 := Lib.hid (i1.below hbx)
      have J1 := Lib.hid (j1.below hbx)
      have RA1 := Lib.hid ra1
      have RB1 := Lib.hid rb1
      have OD := Lib.hid (ho.out.below hbx)
      have BD := Lib.hid (hb.out.trans (hbx.mono hb.out.size))
      clear i1 j1 hr1 ra1 rb1 hbx
      go_wp2_with fail
      clear e10 e11 e12
      refine (spec_l04Copy r1.g A3 n3 c3 r1.xs B3 m3 d3 r1.ds _ I1.out RA1.out J1.out RB1.out (by have := K1.out.2.2.2.2.1; omega) (by have := K1.out.2.2.2.2.2; omega)).mono ?_
      rintro e w2 ⟨g, r, v, dd, u, rfl, hq, q1, q2, hap, hc2⟩
      obtain ⟨k1, k2, k3⟩ := hq
      obtain ⟨A2, c2, rfl⟩ := own_slice q1.2
      obtain ⟨B2, d2, rfl⟩ := own_slice q2.2
      obtain ⟨s1, s2, s3, s4⟩ := new_el (g := g) OD.out BD.out hc2 q1 q2 hap
      have HH := Lib.hid (has_append (g := g) (r := r) (d := dd) (v := .slice A2 r.length c2) (u := .slice B2 dd.length d2) hh.out (by rw [k1, k2, k3]; exact HR1.out))
      have HO := Lib.hid s1
      have HE := Lib.hid s2
      have HFR := Lib.hid s3
      have HB := Lib.hid s4
      clear s1 s2 s3 s4 q1 q2 hap hc2 k1 k2 k3
      go_wp2_with (at_builtin; refine wpList_append_el rfl _ _ 23 rfl w.heap.size i0 (.agg #[.bool false, .slice none 0 0, .slice none 0 0]) 56 Try.underlying23 hi hz0 hz1 hz2 rfl _ i L rfl HO.out ⟨g, .slice A2 r.length c2, r.length, r.map (.int .i64), .slice B2 dd.length d2, dd.length, dd.map (.int .i64)⟩ rfl HE.out HFR.out rfl rfl (by unfold maxLen; omega) (by omega) HB.out.size _ ?_)
      intro V' w3 s1 hg
      obtain ⟨A5, c5, rfl⟩ := s1.slice
      have HO3 := Lib.hid s1
      have HB3 := Lib.hid (below_app HB.out HO.out hg)
      clear s1 hg
      go_wp2_with fail
      go_roundw
      case rel => exact ⟨i + 1, _, A5, c5, by omega, by go_num, rfl, HO3, HH, HB3⟩
      case measure => simp [intOf]; omega
    · obtain rfl : i = n := by omega
      have HH : Hid (Has L rs) := by have := hh.out; rwa [List.take_of_length_le (by rw [HV.out.1]; omega)] at this
      have HF : Hid (VecEnd (fun r => r = rs) w wr (.returned (.slice A1 i c1))) := ⟨rs, _, rfl, rfl, resV_mk HK.out.goods HV.out.1 ho.out HH.out, hb.out⟩
      go_wp2_with fail
      go_ret
      exact HF.out
set_option maxHeartbeats 3200000 in
theorem spec_rowOf0 (p k : Int) (A : Option Addr) (n c : Nat) (rs : List RD) (i : Int) (w : World) (h : InV w A n rs) (hp : -9223372036854775808 ≤ p ∧ p ≤ 9223372036854775807) (hk : -9223372036854775808 ≤ k ∧ k ≤ 9223372036854775807) (hc : n ≤ c) :
    Calls Try.prog 40 #[.agg #[.int .i64 p, .int .i64 k, .slice A n c], .int .i64 i] w fun e w' => VecEnd (RowOfIs p k rs i) w w' e := by
  obtain ⟨W0, hW0⟩ : ∃ W, W = (w.alloc (.cells #[.int .i64 p, .int .i64 k, .slice A n c] 25)) := ⟨_, rfl⟩
  have hm0_0 : Hid (Box W0 (w.heap.size) 25 #[.int .i64 p, .int .i64 k, .slice A n c]) := by rw [hW0]; exact (Box.at' (by simp))
  have BW_0 : Hid (Below w.heap.size w W0) := by rw [hW0]; exact ((Below.refl w.heap.size w).alloc (by simp) _)
  have hsz0 : w.heap.size + 1 ≤ W0.heap.size := by rw [hW0]; simp
  have hn := h.2.1
  have HV := Lib.hid (h.below BW_0.out)
  clear h
  go_enter Try.func40, Try.ntmps40
  go_wp2_with fail
  rw [← hW0]
  clear hW0
  refine (spec_matrixOk0 p k A n c rs _ HV.out hp hk).mono ?_
  rintro e w1 ⟨b, rfl, hq, hb⟩
  have hm0_1 := Lib.hid (hm0_0.out.below hb hm0_0.out.lt)
  have BW_1 := Lib.hid (BW_0.out.trans (hb.mono BW_0.out.size))
  replace HV := Lib.hid (HV.out.below hb)
  clear hb
  have ehm00 := hm0_1.out.cell 0
  have ehm01 := hm0_1.out.cell 1
  have ehm02 := hm0_1.out.cell 2
  simp at ehm00 ehm01 ehm02
  cases b
  case false =>
    have HF : Hid (VecEnd (RowOfIs p k rs i) w w1 (.returned (.slice none 0 0))) := ⟨[], _, rfl, row_no fun h => (by have h1 := hq.2 h.1; cases h1), resV_nil _ _, BW_1.out⟩
    clear hq
    go_wp2_with fail
    go_ret
    exact HF.out
  have HM := Lib.hid (hq.1 rfl)
  clear hq
  have hp2 := HM.out.1
  have hk2 := HM.out.2.1
  obtain ⟨b1, hb1⟩ : ∃ b, (decide (0 ≤ i) && decide (i ≤ p - 1)) = b := ⟨_, rfl⟩
  have H1 := Lib.hid hb1
  clear hb1
  go_wp2_with fail
  refine (spec_in i 0 (p - 1) b1 H1.out _).mono ?_
  rintro e w2 ⟨rfl, rfl⟩
  cases b1
  case false =>
    have HF : Hid (VecEnd (RowOfIs p k rs i) w w1 (.returned (.slice none 0 0))) := ⟨[], _, rfl, row_no fun h => in_no H1.out ⟨h.2.1, by omega⟩, resV_nil _ _, BW_1.out⟩
    go_wp2_with fail
    go_ret
    exact HF.out
  have hi2 := in_yes H1.out
  obtain ⟨P, rfl⟩ : ∃ P : Nat, p = P := ⟨p.toNat, by omega⟩
  obtain ⟨K, rfl⟩ : ∃ K : Nat, k = K := ⟨k.toNat, by omega⟩
  obtain ⟨I, rfl⟩ : ∃ P : Nat, i = P := ⟨i.toNat, by omega⟩
  have hle : I * K + K ≤ n := by have h1 := HM.out.plen; rw [HV.out.1] at h1; rw [h1]; exact row_le (by omega)
  go_wp2_with fail
  clear ehm00 ehm01 ehm02
  refine (spec_l06Row P K I A n c _ hle hn hc HV.out.some_ (by omega) (by omega)).mono ?_
  rintro e w3 ⟨A', c', rfl, hc', hat, hb⟩
  have hm0_2 := Lib.hid (hm0_1.out.below hb hm0_1.out.lt)
  have BW_2 := Lib.hid (BW_1.out.trans (hb.mono BW_1.out.size))
  replace HV := Lib.hid (HV.out.below hb)
  clear hb
  have HI := Lib.hid (HV.out.row hat hle (by omega))
  have HVK := Lib.hid (mrow_ok HM.out rfl HM.out.plen (i := I) (by omega))
  clear hat
  go_wp2_with fail
  refine (spec_l05Copy A' K c' (mrow K rs I) _ HI.out HVK.out).mono ?_
  rintro e w4 ⟨r, V, rfl, rfl, hv, hb⟩
  have HF : Hid (VecEnd (RowOfIs P K rs I) w w4 (.returned V)) := by
    obtain ⟨hl, hf, L, ho, hh⟩ := hv
    exact ⟨_, V, rfl, .inl ⟨⟨HM.out, by omega, by omega⟩, rfl⟩, ⟨hl, hf, L, ho.lower BW_2.out.size, hh⟩, BW_2.out.trans (hb.mono BW_2.out.size)⟩
  obtain ⟨A2, c2, rfl⟩ : ∃ A1 c1, V = .slice A1 (mrow K rs I).length c1 := by obtain ⟨_, _, L, ho, _⟩ := hv; exact ho.slice
  clear hv hb
  go_wp2_with fail
  go_ret
  exact HF.out
theorem spec_rowOf (p k : Int) (A : Option Addr) (n c : Nat) (rs : List RD) (i : Int) (w : World) (h : InV w A n rs) (hp : -9223372036854775808 ≤ p ∧ p ≤ 9223372036854775807) (hk : -9223372036854775808 ≤ k ∧ k ≤ 9223372036854775807) (hc : n ≤ c) (_hi : -9223372036854775808 ≤ i ∧ i ≤ 9223372036854775807) :
    Calls Try.prog 40 #[.agg #[.int .i64 p, .int .i64 k, .slice A n c], .int .i64 i] w fun e w' => ∃ r V, e = .returned V ∧ RowOfIs p k rs i r ∧ ResV w w' V r ∧ Below w.heap.size w w' := (spec_rowOf0 p k A n c rs i w h hp hk hc).mono fun _ _ h => h
end Go.Proofs.Ytmclfoahfifmfaa
