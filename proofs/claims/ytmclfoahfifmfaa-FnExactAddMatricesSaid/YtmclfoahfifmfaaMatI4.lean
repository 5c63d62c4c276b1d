/- Contracts of matrices, by the program: the sum. -/
import Derived.Test.YtmclfoahfifmfaaMatI
import Derived.Test.YtmclfoahfifmfaaVecI2
import Derived.Test.YtmclfoahfifmfaaMatS4
import Derived.Test.YtmclfoahfifmfaaGF
namespace Go.Proofs.Ytmclfoahfifmfaa
set_option maxRecDepth 100000
open Go.RowKit

theorem add_iff {p k : Int} {rs ss : List RD} (h1 : MOk p k rs) (h2 : MOk p k ss) : MOk p k (List.zipWith radd rs ss) ↔ ∀ x ∈ List.zipWith radd rs ss, x.ok := by
  refine ⟨fun h => h.all, fun h => ⟨h1.1, h1.2.1, ?_, h⟩⟩
  have e1 := h1.2.2.1
  have e2 := h2.2.2.1
  rw [List.length_zipWith, ← e1]
  have : rs.length = ss.length := by omega
  omega
set_option maxHeartbeats 6400000 in
theorem impl_addMatrices0 (p k : Int) (A : Option Addr) (n c : Nat) (rs : List RD) (p' k' : Int) (B : Option Addr) (m d : Nat) (ss : List RD) (w : World) (h1 : InV w A n rs) (hp : -9223372036854775808 ≤ p ∧ p ≤ 9223372036854775807) (hk : -9223372036854775808 ≤ k ∧ k ≤ 9223372036854775807) (hc : n ≤ c) (h2 : InV w B m ss) (hp' : -9223372036854775808 ≤ p' ∧ p' ≤ 9223372036854775807) (hk' : -9223372036854775808 ≤ k' ∧ k' ≤ 9223372036854775807) (hd : m ≤ d) :
    Calls Try.prog 46 #[.agg #[.int .i64 p, .int .i64 k, .slice A n c], .agg #[.int .i64 p', .int .i64 k', .slice B m d]] w fun e w' => MatOkEnd (AddMatricesIs p k rs p' k' ss) w w' e := by
  obtain ⟨W0, hW0⟩ : ∃ W, W = (((w.alloc (.cells #[.int .i64 p, .int .i64 k, .slice A n c] 25)).alloc (.cells #[.int .i64 p', .int .i64 k', .slice B m d] 25)).alloc (.cells #[.int .i64 0, .int .i64 0, .slice none 0 0] 25)) := ⟨_, rfl⟩
  have hm0_0 : Hid (Box W0 (w.heap.size) 25 #[.int .i64 p, .int .i64 k, .slice A n c]) := by rw [hW0]; exact (((Box.at' (by simp)).alloc _).alloc _)
  have hm1_0 : Hid (Box W0 (w.heap.size + 1) 25 #[.int .i64 p', .int .i64 k', .slice B m d]) := by rw [hW0]; exact ((Box.at' (by simp)).alloc _)
  have ht_0 : Hid (Box W0 (w.heap.size + 1 + 1) 25 #[.int .i64 0, .int .i64 0, .slice none 0 0]) := by rw [hW0]; exact (Box.at' (by simp))
  have BW_0 : Hid (Below w.heap.size w W0) := by rw [hW0]; exact ((((Below.refl w.heap.size w).alloc (by simp) _).alloc (by simp) _).alloc (by simp; omega) _)
  have hsz0 : w.heap.size + 1 + 1 + 1 ≤ W0.heap.size := by rw [hW0]; simp
  have H1 := Lib.hid (h1.below BW_0.out)
  have H2 := Lib.hid (h2.below BW_0.out)
  have hn := h1.2.1
  have hmm := h2.2.1
  clear h1 h2
  go_enter Try.func46, Try.ntmps46
  go_wp2_with fail
  rw [← hW0]
  clear hW0
  refine (impl_matrixOk0 p k A n c rs _ H1.out hp hk hc).mono ?_
  rintro e w1 ⟨b, rfl, hq, hb⟩
  have hm0_1 := Lib.hid (hm0_0.out.below hb hm0_0.out.lt)
  have hm1_1 := Lib.hid (hm1_0.out.below hb hm1_0.out.lt)
  have ht_1 := Lib.hid (ht_0.out.below hb ht_0.out.lt)
  have BW_1 := Lib.hid (BW_0.out.trans (hb.mono BW_0.out.size))
  replace H1 := Lib.hid (H1.out.below hb)
  replace H2 := Lib.hid (H2.out.below hb)
  clear hb
  have ehm00 := hm0_1.out.cell 0
  have ehm01 := hm0_1.out.cell 1
  have ehm02 := hm0_1.out.cell 2
  have ehm10 := hm1_1.out.cell 0
  have ehm11 := hm1_1.out.cell 1
  have ehm12 := hm1_1.out.cell 2
  have eht0 := ht_1.out.cell 0
  have eht1 := ht_1.out.cell 1
  have eht2 := ht_1.out.cell 2
  have fht0 := ht_1.out.free 0
  have fht1 := ht_1.out.free 1
  have fht2 := ht_1.out.free 2
  simp at ehm00 ehm01 ehm02 ehm10 ehm11 ehm12 eht0 eht1 eht2
  cases b
  case false =>
    have HZ : Hid (AddMatricesIs p k rs p' k' ss 0 0 [] false) := add_no fun h => (by have h1 := hq.2 h.1; cases h1)
    clear hq
    go_wp2_with fail
    refine bodyPost_ret (v := .tuple #[.agg #[.int .i64 0, .int .i64 0, .slice none 0 0], .bool false]) (by simp [results, Try.results46, eht0, eht1, eht2, go_sem]) rfl ?_
    exact matOkEnd_zero HZ.out BW_1.out (by omega) _ _ _
  have M1 := Lib.hid (hq.1 rfl)
  clear hq
  go_wp2_with fail
  clear ehm00 ehm01 ehm02 ehm10 ehm11 ehm12 eht0 fht0 eht1 fht1 eht2 fht2
  refine (impl_matrixOk0 p' k' B m d ss _ H2.out hp' hk' hd).mono ?_
  rintro e w2 ⟨b, rfl, hq, hb⟩
  have hm0_2 := Lib.hid (hm0_1.out.below hb hm0_1.out.lt)
  have hm1_2 := Lib.hid (hm1_1.out.below hb hm1_1.out.lt)
  have ht_2 := Lib.hid (ht_1.out.below hb ht_1.out.lt)
  have BW_2 := Lib.hid (BW_1.out.trans (hb.mono BW_1.out.size))
  replace H1 := Lib.hid (H1.out.below hb)
  replace H2 := Lib.hid (H2.out.below hb)
  clear hb
  have ehm00 := hm0_2.out.cell 0
  have ehm01 := hm0_2.out.cell 1
  have ehm02 := hm0_2.out.cell 2
  have ehm10 := hm1_2.out.cell 0
  have ehm11 := hm1_2.out.cell 1
  have ehm12 := hm1_2.out.cell 2
  have eht0 := ht_2.out.cell 0
  have eht1 := ht_2.out.cell 1
  have eht2 := ht_2.out.cell 2
  have fht0 := ht_2.out.free 0
  have fht1 := ht_2.out.free 1
  have fht2 := ht_2.out.free 2
  simp at ehm00 ehm01 ehm02 ehm10 ehm11 ehm12 eht0 eht1 eht2
  cases b
  case false =>
    have HZ : Hid (AddMatricesIs p k rs p' k' ss 0 0 [] false) := add_no fun h => (by have h1 := hq.2 h.2.1; cases h1)
    clear hq
    go_wp2_with fail
    refine bodyPost_ret (v := .tuple #[.agg #[.int .i64 0, .int .i64 0, .slice none 0 0], .bool false]) (by simp [results, Try.results46, eht0, eht1, eht2, go_sem]) rfl ?_
    exact matOkEnd_zero HZ.out BW_2.out (by omega) _ _ _
  have M2 := Lib.hid (hq.1 rfl)
  clear hq
  by_cases hpp : (p != p') = true
  · have HZ : Hid (AddMatricesIs p k rs p' k' ss 0 0 [] false) := add_no fun h => by simp at hpp; exact hpp h.2.2.1
    go_wp2_with fail
    refine bodyPost_ret (v := .tuple #[.agg #[.int .i64 0, .int .i64 0, .slice none 0 0], .bool false]) (by simp [results, Try.results46, eht0, eht1, eht2, go_sem]) rfl ?_
    exact matOkEnd_zero HZ.out BW_2.out (by omega) _ _ _
  have hpp2 : (p != p') = false := by simpa using hpp
  by_cases hkk : (k != k') = true
  · have HZ : Hid (AddMatricesIs p k rs p' k' ss 0 0 [] false) := add_no fun h => by simp at hkk; exact hkk h.2.2.2
    clear hpp
    go_wp2_with fail
    refine bodyPost_ret (v := .tuple #[.agg #[.int .i64 0, .int .i64 0, .slice none 0 0], .bool false]) (by simp [results, Try.results46, eht0, eht1, eht2, go_sem]) rfl ?_
    exact matOkEnd_zero HZ.out BW_2.out (by omega) _ _ _
  obtain rfl : p = p' := by simpa using hpp
  obtain rfl : k = k' := by simpa using hkk
  have hpp2 : (p != p) = false := by simp
  have hkk2 : (k != k) = false := by simp
  clear hpp hkk
  have hnm : n = m := by
    have e1 := M1.out.2.2.1
    have e2 := M2.out.2.2.1
    rw [H1.out.1] at e1
    rw [H2.out.1] at e2
    omega
  subst hnm
  have hn5 : n ≤ 576 := by have := M1.out.len; rw [H1.out.1] at this; exact this
  obtain ⟨zs, hzs⟩ : ∃ zs, zs = List.zipWith radd rs ss := ⟨_, rfl⟩
  have HZ := Lib.hid hzs
  have HZL : Hid (zs.length = n) := by unfold Hid; rw [hzs, List.length_zipWith, H1.out.1, H2.out.1, Nat.min_self]
  have HZG : Hid (Goods zs) := by rw [hzs]; exact zip_goods radd_good (by rw [H1.out.1]; omega)
  have HIFF : Hid (MOk p k zs ↔ ∀ x ∈ zs, x.ok) := by rw [hzs]; exact add_iff M1.out M2.out
  have hm24 : n ≤ 1024 := by omega
  have hlt0 := hm0_2.out.lt
  have hlt1 := hm1_2.out.lt
  have D0 := Lib.hid hm0_2.out.drew
  have D1 := Lib.hid hm1_2.out.drew
  have E0 := Lib.hid (hm0_2.out.alloc (.cells #[.int .i64 0, .int .i64 0, .slice none 0 0] 25)).drew
  have E1 := Lib.hid (hm1_2.out.alloc (.cells #[.int .i64 0, .int .i64 0, .slice none 0 0] 25)).drew
  have F0 := Lib.hid (hm0_2.out.drew.alloc (.cells #[.int .i64 0, .int .i64 0, .slice none 0 0] 25))
  have F1 := Lib.hid (hm1_2.out.drew.alloc (.cells #[.int .i64 0, .int .i64 0, .slice none 0 0] 25))
  have BD := Lib.hid (Below.refl w2.heap.size w2).drew
  have BE := Lib.hid ((Below.refl w2.heap.size w2).alloc (Nat.le_refl _) (.cells #[.int .i64 0, .int .i64 0, .slice none 0 0] 25)).drew
  have NE := Lib.hid (Box.new w2 25 #[.int .i64 0, .int .i64 0, .slice none 0 0]).drew
  clear hzs
  go_wp2_with fail
  go_region_held3 (fun w' => w'.cell? ⟨w.heap.size, 0, none⟩ = some (.int .i64 p) ∧ w'.cell? ⟨w.heap.size, 1, none⟩ = some (.int .i64 k) ∧ w'.cell? ⟨w.heap.size, 2, none⟩ = some (.slice A n c) ∧ w'.cell? ⟨w.heap.size + 1, 0, none⟩ = some (.int .i64 p) ∧ w'.cell? ⟨w.heap.size + 1, 1, none⟩ = some (.int .i64 k) ∧ w'.cell? ⟨w.heap.size + 1, 2, none⟩ = some (.slice B n d)) (first | with_reducible exact two_mats (hFar (hFar (hFar G0 (by dsimp only; omega) _) (by dsimp only; omega) _) (by dsimp only; omega) _) (hFar (hFar (hFar G1 (by dsimp only; omega) _) (by dsimp only; omega) _) (by dsimp only; omega) _) | with_reducible exact two_mats (hAlloc G0 _) (hAlloc G1 _) | with_reducible exact two_mats G0 G1 | with_reducible exact two_mats F0 F1 | with_reducible exact two_mats E0 E1 | with_reducible exact two_mats D0 D1) (first | (go_at_call 79; first | ((with_reducible refine (impl_combined_RatAdd A n c rs B d ss _ (H1.out.below BD.out) (H2.out.below BD.out) hm24).mono ?_); rintro e w4 ⟨r, V, rfl, rfl, ⟨hl, hf, L, ho, hh⟩, hb4⟩; rw [← HZ.out, HZL.out] at ho; obtain ⟨A5, c5, rfl⟩ := ho.slice; have HO := Lib.hid ho; have HH : Hid (Has L zs) := (by rw [HZ.out]; exact hh); have G0 := Lib.hid (D0.out.below hb4 D0.out.lt); have G1 := Lib.hid (D1.out.below hb4 D1.out.lt); have B4 := Lib.hid (BD.out.trans (hb4.mono BD.out.size)); clear hl hf ho hh hb4) | ((with_reducible refine (impl_combined_RatAdd A n c rs B d ss _ (H1.out.below BE.out) (H2.out.below BE.out) hm24).mono ?_); rintro e w4 ⟨r, V, rfl, rfl, ⟨hl, hf, L, ho, hh⟩, hb4⟩; rw [← HZ.out, HZL.out] at ho; obtain ⟨A5, c5, rfl⟩ := ho.slice; have HO := Lib.hid ho; have HH : Hid (Has L zs) := (by rw [HZ.out]; exact hh); have G0 := Lib.hid (E0.out.below hb4 E0.out.lt); have G1 := Lib.hid (E1.out.below hb4 E1.out.lt); have B4 := Lib.hid (BE.out.trans (hb4.mono BE.out.size)); have NN := Lib.hid (NE.out.below hb4 NE.out.lt); have eN0 := NN.out.cell 0; have eN1 := NN.out.cell 1; have eN2 := NN.out.cell 2; simp at eN0 eN1 eN2; have fN0 := NN.out.free 0; have fN1 := NN.out.free 1; have fN2 := NN.out.free 2; clear hl hf ho hh hb4)))
  · have hcap : n ≤ c5 := own_le HO.out.2.1
    obtain ⟨W5, hW5⟩ : ∃ W, W = w4.alloc (.cells #[.int .i64 p, .int .i64 k, .slice A5 n c5] 25) := ⟨_, rfl⟩
    have B5 : Hid (Below w2.heap.size w2 W5) := by rw [hW5]; exact B4.out.alloc B4.out.size _
    have X5 : Hid (Box W5 (w4.heap.size) 25 #[.int .i64 p, .int .i64 k, .slice A5 n c5]) := by rw [hW5]; exact Box.new _ _ _
    have O5 : Hid (OwnV W5 w2.heap.size (.slice A5 n c5) n L) := by rw [hW5]; exact (HO.out.alloc _).lower (Nat.le_refl _)
    have HI : Hid (InV W5 A5 n zs) := O5.out.in_ HH.out (by omega) HZG.out.fits
    have hsz2 := BW_2.out.size
    go_wp2_with fail
    rw [← hW5]
    clear hW5
    refine (impl_matrixOk0 p k A5 n c5 zs _ HI.out hp hk hcap).mono ?_
    rintro e w6 ⟨b, rfl, hq, hb⟩
    have B6 := Lib.hid (B5.out.trans (hb.mono B5.out.size))
    have X6 := Lib.hid (X5.out.below hb X5.out.lt)
    have O6 := Lib.hid (O5.out.below hb)
    have ht_6 := Lib.hid (ht_2.out.below B6.out ht_2.out.lt)
    have BW_6 := Lib.hid (BW_2.out.trans (B6.out.mono BW_2.out.size))
    clear hb
    have eht0 := ht_6.out.cell 0
    have eht1 := ht_6.out.cell 1
    have eht2 := ht_6.out.cell 2
    have fht0 := ht_6.out.free 0
    have fht1 := ht_6.out.free 1
    have fht2 := ht_6.out.free 2
    simp at eht0 eht1 eht2
    have ex0 := X6.out.cell 0
    have ex1 := X6.out.cell 1
    have ex2 := X6.out.cell 2
    simp at ex0 ex1 ex2
    cases b
    · have HQ : Hid (AddMatricesIs p k rs p k ss 0 0 [] false) := .inr ⟨fun h => (by have h1 := hq.2 (HIFF.out.2 (by rw [HZ.out]; exact h.2)); cases h1), rfl, rfl, rfl, rfl⟩
      clear hq
      go_wp2_with fail
      refine bodyPost_ret (v := .tuple #[.agg #[.int .i64 0, .int .i64 0, .slice none 0 0], .bool false]) (by simp [results, Try.results46, eht0, eht1, eht2, go_sem]) rfl ?_
      exact matOkEnd_zero HQ.out BW_6.out (by omega) _ _ _
    · have HQ : Hid (AddMatricesIs p k rs p k ss p k zs true) := .inl ⟨⟨⟨M1.out, M2.out, rfl, rfl⟩, by rw [← HZ.out]; exact HIFF.out.1 (hq.1 rfl)⟩, rfl, rfl, HZ.out, rfl⟩
      clear hq
      go_wp2_with fail
      refine bodyPost_ret (v := .tuple #[.agg #[.int .i64 p, .int .i64 k, .slice A5 n c5], .bool true]) (by simp [results, Try.results46, eht0, eht1, eht2, go_sem]) rfl ?_
      exact matOkEnd_store ht_6.out (by omega) BW_6.out HQ.out HZG.out HZL.out O6.out hsz2 HH.out
  · have hcap : n ≤ c5 := own_le HO.out.2.1
    obtain ⟨W5, hW5⟩ : ∃ W, W = ((w4.setCell ⟨w2.heap.size, 0, none⟩ (.int .i64 p)).setCell ⟨w2.heap.size, 1, none⟩ (.int .i64 k)).setCell ⟨w2.heap.size, 2, none⟩ (.slice A5 n c5) := ⟨_, rfl⟩
    have B5 : Hid (Below w2.heap.size w2 W5) := by rw [hW5]; exact below_store3 B4.out (Nat.le_refl _) _ _ _
    have X5 : Hid (Box W5 (w2.heap.size) 25 #[.int .i64 p, .int .i64 k, .slice A5 n c5]) := by rw [hW5]; exact Lib.hid (by have := ((NN.out.set_ 0 (.int .i64 p)).set_ 1 (.int .i64 k)).set_ 2 (.slice A5 n c5); simpa using this)
    have O5 : Hid (OwnV W5 w2.heap.size (.slice A5 n c5) n L) := by rw [hW5]; exact (HO.out.box_set3 NN.out _ _ _).lower (by have := BE.out.size; omega)
    have HI : Hid (InV W5 A5 n zs) := O5.out.in_ HH.out (by omega) HZG.out.fits
    have hsz2 := BW_2.out.size
    go_wp2_with fail
    rw [← hW5]
    clear hW5
    refine (impl_matrixOk0 p k A5 n c5 zs _ HI.out hp hk hcap).mono ?_
    rintro e w6 ⟨b, rfl, hq, hb⟩
    have B6 := Lib.hid (B5.out.trans (hb.mono B5.out.size))
    have X6 := Lib.hid (X5.out.below hb X5.out.lt)
    have O6 := Lib.hid (O5.out.below hb)
    have ht_6 := Lib.hid (ht_2.out.below B6.out ht_2.out.lt)
    have BW_6 := Lib.hid (BW_2.out.trans (B6.out.mono BW_2.out.size))
    clear hb
    have eht0 := ht_6.out.cell 0
    have eht1 := ht_6.out.cell 1
    have eht2 := ht_6.out.cell 2
    have fht0 := ht_6.out.free 0
    have fht1 := ht_6.out.free 1
    have fht2 := ht_6.out.free 2
    simp at eht0 eht1 eht2
    have ex0 := X6.out.cell 0
    have ex1 := X6.out.cell 1
    have ex2 := X6.out.cell 2
    simp at ex0 ex1 ex2
    cases b
    · have HQ : Hid (AddMatricesIs p k rs p k ss 0 0 [] false) := .inr ⟨fun h => (by have h1 := hq.2 (HIFF.out.2 (by rw [HZ.out]; exact h.2)); cases h1), rfl, rfl, rfl, rfl⟩
      clear hq
      go_wp2_with fail
      refine bodyPost_ret (v := .tuple #[.agg #[.int .i64 0, .int .i64 0, .slice none 0 0], .bool false]) (by simp [results, Try.results46, eht0, eht1, eht2, go_sem]) rfl ?_
      exact matOkEnd_zero HQ.out BW_6.out (by omega) _ _ _
    · have HQ : Hid (AddMatricesIs p k rs p k ss p k zs true) := .inl ⟨⟨⟨M1.out, M2.out, rfl, rfl⟩, by rw [← HZ.out]; exact HIFF.out.1 (hq.1 rfl)⟩, rfl, rfl, HZ.out, rfl⟩
      clear hq
      go_wp2_with fail
      refine bodyPost_ret (v := .tuple #[.agg #[.int .i64 p, .int .i64 k, .slice A5 n c5], .bool true]) (by simp [results, Try.results46, eht0, eht1, eht2, go_sem]) rfl ?_
      exact matOkEnd_store ht_6.out (by omega) BW_6.out HQ.out HZG.out HZL.out O6.out hsz2 HH.out
theorem impl_addMatrices (p k : Int) (A : Option Addr) (n c : Nat) (rs : List RD) (p' k' : Int) (B : Option Addr) (m d : Nat) (ss : List RD) (w : World) (h1 : InV w A n rs) (hp : -9223372036854775808 ≤ p ∧ p ≤ 9223372036854775807) (hk : -9223372036854775808 ≤ k ∧ k ≤ 9223372036854775807) (hc : n ≤ c) (h2 : InV w B m ss) (hp' : -9223372036854775808 ≤ p' ∧ p' ≤ 9223372036854775807) (hk' : -9223372036854775808 ≤ k' ∧ k' ≤ 9223372036854775807) (hd : m ≤ d) :
    Calls Try.prog 46 #[.agg #[.int .i64 p, .int .i64 k, .slice A n c], .agg #[.int .i64 p', .int .i64 k', .slice B m d]] w fun e w' => ∃ q j r V b, e = .returned (.tuple #[.agg #[.int .i64 q, .int .i64 j, V], .bool b]) ∧ AddMatricesIs p k rs p' k' ss q j r b ∧ ResV w w' V r ∧ Below w.heap.size w w' := (impl_addMatrices0 p k A n c rs p' k' B m d ss w h1 hp hk hc h2 hp' hk' hd).mono fun _ _ h => h
end Go.Proofs.Ytmclfoahfifmfaa
