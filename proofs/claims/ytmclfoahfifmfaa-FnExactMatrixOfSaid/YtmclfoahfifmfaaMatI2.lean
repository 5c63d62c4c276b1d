/- Contracts of matrices, by the program: made of integers. -/
import Derived.Test.YtmclfoahfifmfaaMatI
import Derived.Test.YtmclfoahfifmfaaGF
namespace Go.Proofs.Ytmclfoahfifmfaa
set_option maxRecDepth 100000
open Go.RowKit

set_option maxHeartbeats 3200000 in
theorem impl_matrixOf0 (rows cols : Int) (A : Option Addr) (n c : Nat) (xs : List Int) (w : World) (h : InI w A n xs) (hr : -9223372036854775808 ≤ rows ∧ rows ≤ 9223372036854775807) (hc : -9223372036854775808 ≤ cols ∧ cols ≤ 9223372036854775807) :
    Calls Try.prog 29 #[.int .i64 rows, .int .i64 cols, .slice A n c] w fun e w' => MatEnd (MatrixOfIs rows cols xs) w w' e := by
  obtain ⟨W0, hW0⟩ : ∃ W, W = (w.alloc (.cells #[.int .i64 0, .int .i64 0, .slice none 0 0] 25)) := ⟨_, rfl⟩
  have ht_0 : Hid (Box W0 (w.heap.size) 25 #[.int .i64 0, .int .i64 0, .slice none 0 0]) := by rw [hW0]; exact (Box.at' (by simp))
  have BW_0 : Hid (Below w.heap.size w W0) := by rw [hW0]; exact ((Below.refl w.heap.size w).alloc (by simp) _)
  have hsz0 : w.heap.size + 1 ≤ W0.heap.size := by rw [hW0]; simp
  have hn := h.le
  have HX := Lib.hid (h.below BW_0.out)
  have HX0 := HX
  clear h
  obtain ⟨b1, hb1⟩ : ∃ b, (decide (0 ≤ rows) && decide (rows ≤ 24)) = b := ⟨_, rfl⟩
  have H1 := Lib.hid hb1
  clear hb1
  go_enter Try.func29, Try.ntmps29
  go_wp2_with fail
  rw [← hW0]
  clear hW0
  refine (impl_isSize rows b1 H1.out _).mono ?_
  rintro e w1 ⟨rfl, rfl⟩
  have eht0 := ht_0.out.cell 0
  have eht1 := ht_0.out.cell 1
  have eht2 := ht_0.out.cell 2
  have fht0 := ht_0.out.free 0
  have fht1 := ht_0.out.free 1
  have fht2 := ht_0.out.free 2
  simp at eht0 eht1 eht2
  cases b1
  case false =>
    have HF : Hid (MatrixOfIs rows cols xs 0 0 []) := matIs_no fun h => in_no H1.out h.1
    go_wp2_with fail
    refine bodyPost_ret (v := .agg #[.int .i64 0, .int .i64 0, .slice none 0 0]) (by simp [results, Try.results29, eht0, eht1, eht2, go_sem]) rfl ?_
    exact matEnd_zero HF.out BW_0.out (by omega) _ _ _
  have hp2 := in_yes H1.out
  obtain ⟨b2, hb2⟩ : ∃ b, (decide (0 ≤ cols) && decide (cols ≤ 24)) = b := ⟨_, rfl⟩
  have H2 := Lib.hid hb2
  clear hb2
  go_wp2_with fail
  refine (impl_isSize cols b2 H2.out _).mono ?_
  rintro e w1 ⟨rfl, rfl⟩
  cases b2
  case false =>
    have HF : Hid (MatrixOfIs rows cols xs 0 0 []) := matIs_no fun h => in_no H2.out h.2.1
    go_wp2_with fail
    refine bodyPost_ret (v := .agg #[.int .i64 0, .int .i64 0, .slice none 0 0]) (by simp [results, Try.results29, eht0, eht1, eht2, go_sem]) rfl ?_
    exact matEnd_zero HF.out BW_0.out (by omega) _ _ _
  have hk2 := in_yes H2.out
  obtain ⟨P, rfl⟩ : ∃ P : Nat, rows = P := ⟨rows.toNat, by omega⟩
  obtain ⟨K, rfl⟩ : ∃ K : Nat, cols = K := ⟨cols.toNat, by omega⟩
  have hP24 : P ≤ 24 := by omega
  have hK24 : K ≤ 24 := by omega
  obtain ⟨hPK0, hPK1⟩ := prod576 hP24 hK24
  obtain ⟨u, hu⟩ : ∃ u : Nat, u = P * K := ⟨_, rfl⟩
  have huu : (P : Int) * (K : Int) = u := by rw [hu]; exact (Int.natCast_mul _ _).symm
  have HU := Lib.hid hu
  have HUU := Lib.hid huu
  clear hu
  by_cases hne : ((n : Int) != (u : Int)) = true
  · have HF : Hid (MatrixOfIs P K xs 0 0 []) := matIs_no fun h => by have h1 := h.2.2; rw [HUU.out, HX.out.1] at h1; simp at hne; omega
    go_wp2_with fail
    refine bodyPost_ret (v := .agg #[.int .i64 0, .int .i64 0, .slice none 0 0]) (by simp [results, Try.results29, eht0, eht1, eht2, go_sem]) rfl ?_
    exact matEnd_zero HF.out BW_0.out (by omega) _ _ _
  have hne2 : ((n : Int) != (u : Int)) = false := by simpa using hne
  obtain rfl : n = u := by simp at hne; omega
  go_wp2_with fail
  clear eht0 fht0 eht1 fht1 eht2 fht2
  refine (impl_newMatrix P K _ hP24 hK24).mono ?_
  rintro e w1 ⟨G, rfl, ho, hb⟩
  rw [← HU.out] at ho ⊢
  have HB1 := Lib.hid hb
  have ht_1 := Lib.hid (ht_0.out.below hb ht_0.out.lt)
  have BW_1 := Lib.hid (BW_0.out.trans (hb.mono BW_0.out.size))
  replace HX := Lib.hid (HX.out.below hb)
  clear hb
  obtain ⟨zs, hzs⟩ : ∃ zs, zs = mints xs := ⟨_, rfl⟩
  have HZ := Lib.hid hzs
  have HZL : Hid (zs.length = n) := by rw [hzs]; simp [mints]; exact HX.out.len
  have hlt1 := ht_1.out.lt
  have hgG := own_at' (h := ho.2.1)
  obtain ⟨W2, hW2⟩ : ∃ W, W = w1.alloc (.cells #[.int .i64 P, .int .i64 K, .slice (some ⟨G, 0, none⟩) n n] 25) := ⟨_, rfl⟩
  have hbx : Below w1.heap.size w1 W2 := by rw [hW2]; exact (Below.refl _ _).alloc (Nat.le_refl _) _
  have X_2 : Hid (Box W2 w1.heap.size 25 #[.int .i64 P, .int .i64 K, .slice (some ⟨G, 0, none⟩) n n]) := by rw [hW2]; exact Box.new _ _ _
  have O2 : Hid (OwnV W2 W0.heap.size (.slice (some ⟨G, 0, none⟩) n n) n (List.replicate n El.zero)) := ho.below hbx
  have BZ : Hid (Below W0.heap.size W0 W2) := HB1.out.trans (hbx.mono HB1.out.size)
  have HG : Hid (0 < n → W0.heap.size ≤ G ∧ G < w1.heap.size) := fun h0 => by
    obtain ⟨g, hg, h1, h2⟩ := own_at' ho.2.1 h0
    cases hg; exact ⟨h1, h2⟩
  have hW1 := HB1.out.size
  clear ho hzs hbx hgG
  go_wp2_with fail
  rw [← hW2]
  clear hW2
  go_loopw [32] (fun y wr => ∃ (i : Nat) (L : List El), i ≤ n ∧ y = .int .i64 i ∧ Hid (OwnV wr W0.heap.size (.slice (some ⟨G, 0, none⟩) n n) n L) ∧ Hid (Has L (upTo zs i n)) ∧ Hid (Box wr w1.heap.size 25 #[.int .i64 P, .int .i64 K, .slice (some ⟨G, 0, none⟩) n n]) ∧ Hid (Below W0.heap.size W0 wr)) (fun y _ => n - (intOf y).toNat)
  case atStart => exact ⟨0, _, Nat.zero_le _, rfl, O2, by rw [upTo_zero]; exact has_zeros n, X_2, BZ⟩
  case round =>
    obtain ⟨i, L, hle, rfl, ho, hh, hX, hb⟩ := hrel
    by_cases hlt : i < n
    · have hix : i < xs.length := by rw [HX.out.len]; exact hlt
      obtain ⟨z, hz⟩ : ∃ z, xs[i]? = some z := ⟨_, List.getElem?_eq_getElem hix⟩
      have hzb := HX.out.bd z (List.mem_of_getElem? hz)
      obtain ⟨b0, o0, rfl, hb0, hcs⟩ := (HX0.out.below hb.out).rd.at_ (by simp; omega)
      have hcell : wr.cell? ⟨b0, o0 + i, none⟩ = some (.int .i64 z) := (hcs i (by simpa using hix)).trans (by rw [List.getElem_map]; have := hz; rw [List.getElem?_eq_getElem hix] at this; rw [Option.some.inj this])
      have hi0 : (0 : Int) ≤ (i : Int) := by omega
      have hi1 : (i : Int) < (n : Int) := by omega
      have HZI : Hid (zs[i]? = some (rint z)) := by rw [HZ.out]; exact mints_at hz
      have HZ0 := Lib.hid hz
      obtain ⟨hg0, hg1⟩ := HG.out (by omega)
      have P_0 := Lib.hid hX.out.drew
      have OD := Lib.hid (OwnV.drew ho.out)
      have BD := Lib.hid hb.out.drew
      clear hz hcs
      go_wp2_with fail
      go_region_held3 (fun w' => w'.cell? ⟨w1.heap.size, 0, none⟩ = some (.int .i64 P) ∧ w'.cell? ⟨w1.heap.size, 1, none⟩ = some (.int .i64 K) ∧ w'.cell? ⟨w1.heap.size, 2, none⟩ = some (.slice (some ⟨G, 0, none⟩) n n)) (first | with_reducible exact box3_far P_3 | with_reducible exact box3_far P_1 | with_reducible exact box3_far P_0) (first | (go_at_call 65; (with_reducible refine (impl_ratFromInt z _ hzb).mono ?_); rintro e w4 ⟨g, r, v, dd, u, rfl, hq, q1, q2, hap, hb2⟩; obtain ⟨A2, c2, rfl⟩ := own_slice q1.2; obtain ⟨B2, d2, rfl⟩ := own_slice q2.2; obtain ⟨⟨x0, x1, x2, p0, p1, p2, f0, f1, f2⟩, s1, s2⟩ := store_el (g := g) OD.out BD.out hb2 hlt q1 q2 hap; have HO := Lib.hid s1; have HB := Lib.hid s2; have HH := Lib.hid (has_store (g := g) (r := r) (d := dd) (v := .slice A2 r.length c2) (u := .slice B2 dd.length d2) hh.out ((rint_of hq).symm ▸ HZI.out) hlt); have P_1 := Lib.hid (P_0.out.below hb2 P_0.out.lt); have P_3 := Lib.hid (P_1.out.set3 (G := G) (by omega) (i * 3) (i * 3 + 1) (i * 3 + 2) (.bool g) (.slice A2 r.length c2) (.slice B2 dd.length d2)); clear s1 s2 hq q1 q2 hap hb2))
      go_wp2_with fail
      go_roundw
      case rel => exact ⟨i + 1, _, by omega, by go_num, HO, HH, P_3, HB⟩
      case measure => simp [intOf]; omega
    · obtain rfl : i = n := by omega
      have HH : Hid (Has L zs) := by rw [← upTo_all HZL.out]; exact hh
      have ht_3 := Lib.hid (ht_0.out.below hb.out (by omega))
      have BW_3 := Lib.hid (BW_0.out.trans (hb.out.mono BW_0.out.size))
      have HGD : Hid (Goods zs) := by rw [HZ.out]; exact mints_goods (by rw [HX.out.len]; omega)
      have HQ : Hid (MatrixOfIs P K xs P K zs) := .inl ⟨⟨by omega, by omega, by rw [HUU.out, HX.out.len]⟩, rfl, rfl, HZ.out⟩
      have hX2 := hX
      have eht0 := ht_3.out.cell 0
      have eht1 := ht_3.out.cell 1
      have eht2 := ht_3.out.cell 2
      have fht0 := ht_3.out.free 0
      have fht1 := ht_3.out.free 1
      have fht2 := ht_3.out.free 2
      simp at eht0 eht1 eht2
      have ex0 := hX2.out.cell 0
      have ex1 := hX2.out.cell 1
      have ex2 := hX2.out.cell 2
      simp at ex0 ex1 ex2
      go_wp2_with fail
      refine bodyPost_ret (v := .agg #[.int .i64 P, .int .i64 K, .slice (some ⟨G, 0, none⟩) i i]) (by simp [results, Try.results29, eht0, eht1, eht2, go_sem]) rfl ?_
      exact matEnd_store ht_3.out (Nat.le_refl _) BW_3.out HQ.out HGD.out HZL.out ho.out BW_0.out.size HH.out
theorem impl_matrixOf (rows cols : Int) (A : Option Addr) (n c : Nat) (xs : List Int) (w : World) (hr : -9223372036854775808 ≤ rows ∧ rows ≤ 9223372036854775807) (hc : -9223372036854775808 ≤ cols ∧ cols ≤ 9223372036854775807) (h : InI w A n xs) :
    Calls Try.prog 29 #[.int .i64 rows, .int .i64 cols, .slice A n c] w fun e w' => ∃ p k r V, e = .returned (.agg #[.int .i64 p, .int .i64 k, V]) ∧ MatrixOfIs rows cols xs p k r ∧ ResV w w' V r ∧ Below w.heap.size w w' := (impl_matrixOf0 rows cols A n c xs w h hr hc).mono fun _ _ h => h
end Go.Proofs.Ytmclfoahfifmfaa
