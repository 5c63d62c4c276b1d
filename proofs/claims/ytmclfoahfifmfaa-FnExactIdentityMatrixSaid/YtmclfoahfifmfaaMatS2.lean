/- Contracts of matrices, by the model: made of integers, the identity. -/
import Derived.Test.YtmclfoahfifmfaaMatS
import Derived.Test.YtmclfoahfifmfaaGW
import Derived.Deep.RegionLaw
namespace Go.Proofs.Ytmclfoahfifmfaa
set_option maxRecDepth 100000
open Go.RowKit

set_option maxHeartbeats 3200000 in
theorem spec_matrixOf0 (rows cols : Int) (A : Option Addr) (n c : Nat) (xs : List Int) (w : World) (h : InI w A n xs) (_hr : -9223372036854775808 ≤ rows ∧ rows ≤ 9223372036854775807) (_hc : -9223372036854775808 ≤ cols ∧ cols ≤ 9223372036854775807) :
    Calls Try.prog 27 #[.int .i64 rows, .int .i64 cols, .slice A n c] w fun e w' => MatEnd (MatrixOfIs rows cols xs) w w' e := by
  obtain ⟨i0, hi, hz0, hz1, hz2⟩ := info_parts Try.infoR
  obtain ⟨W0, hW0⟩ : ∃ W, W = (w.alloc (.cells #[.int .i64 0, .int .i64 0, .slice none 0 0] 25)) := ⟨_, rfl⟩
  have ht_0 : Hid (Box W0 (w.heap.size) 25 #[.int .i64 0, .int .i64 0, .slice none 0 0]) := by rw [hW0]; exact (Box.at' (by simp))
  have BW_0 : Hid (Below w.heap.size w W0) := by rw [hW0]; exact ((Below.refl w.heap.size w).alloc (by simp) _)
  have hsz0 : w.heap.size + 1 ≤ W0.heap.size := by rw [hW0]; simp
  have hn := h.le
  have HX := Lib.hid (h.below BW_0.out)
  clear h
  obtain ⟨b1, hb1⟩ : ∃ b, (decide (0 ≤ rows) && decide (rows ≤ 24)) = b := ⟨_, rfl⟩
  have H1 := Lib.hid hb1
  clear hb1
  go_enter Try.func27, Try.ntmps27
  go_wp2_with fail
  rw [← hW0]
  clear hW0
  refine (spec_in rows 0 24 b1 H1.out _).mono ?_
  rintro e w1 ⟨rfl, rfl⟩
  have eht0 := ht_0.out.cell 0
  have eht1 := ht_0.out.cell 1
  have eht2 := ht_0.out.cell 2
  have fht0 := ht_0.out.free 0
  have fht1 := ht_0.out.free 1
  have fht2 := ht_0.out.free 2
  simp at eht0 eht1 eht2
  cases b1
  case false =>
    have HF : Hid (MatrixOfIs rows cols xs 0 0 []) := matIs_no fun h => in_no H1.out h.1
    go_wp2_with fail
    refine bodyPost_ret (v := .agg #[.int .i64 0, .int .i64 0, .slice none 0 0]) (by simp [results, Try.results27, eht0, eht1, eht2, go_sem]) rfl ?_
    exact matEnd_zero HF.out BW_0.out (by omega) _ _ _
  have hp2 := in_yes H1.out
  obtain ⟨b2, hb2⟩ : ∃ b, (decide (0 ≤ cols) && decide (cols ≤ 24)) = b := ⟨_, rfl⟩
  have H2 := Lib.hid hb2
  clear hb2
  go_wp2_with fail
  refine (spec_in cols 0 24 b2 H2.out _).mono ?_
  rintro e w1 ⟨rfl, rfl⟩
  cases b2
  case false =>
    have HF : Hid (MatrixOfIs rows cols xs 0 0 []) := matIs_no fun h => in_no H2.out h.2.1
    go_wp2_with fail
    refine bodyPost_ret (v := .agg #[.int .i64 0, .int .i64 0, .slice none 0 0]) (by simp [results, Try.results27, eht0, eht1, eht2, go_sem]) rfl ?_
    exact matEnd_zero HF.out BW_0.out (by omega) _ _ _
  have hk2 := in_yes H2.out
  obtain ⟨P, rfl⟩ : ∃ P : Nat, rows = P := ⟨rows.toNat, by omega⟩
  obtain ⟨K, rfl⟩ : ∃ K : Nat, cols = K := ⟨cols.toNat, by omega⟩
  have hP24 : P ≤ 24 := by omega
  have hK24 : K ≤ 24 := by omega
  obtain ⟨hPK0, hPK1⟩ := prod576 hP24 hK24
  obtain ⟨u, hu⟩ : ∃ u : Nat, u = P * K := ⟨_, rfl⟩
  have huu : (P : Int) * (K : Int) = u := by rw [hu]; exact (Int.natCast_mul _ _).symm
  have HUU := Lib.hid huu
  clear hu
  by_cases hne : ((n : Int) != (u : Int)) = true
  · have HF : Hid (MatrixOfIs P K xs 0 0 []) := matIs_no fun h => by have h1 := h.2.2; rw [HUU.out, HX.out.1] at h1; simp at hne; omega
    go_wp2_with fail
    refine bodyPost_ret (v := .agg #[.int .i64 0, .int .i64 0, .slice none 0 0]) (by simp [results, Try.results27, eht0, eht1, eht2, go_sem]) rfl ?_
    exact matEnd_zero HF.out BW_0.out (by omega) _ _ _
  have hne2 : ((n : Int) != (u : Int)) = false := by simpa using hne
  obtain rfl : n = u := by simp at hne; omega
  have hn576 : n ≤ 576 := by omega
  obtain ⟨zs, hzs⟩ : ∃ zs, zs = mints xs := ⟨_, rfl⟩
  have HZ := Lib.hid hzs
  have HZL : Hid (zs.length = n) := by rw [hzs]; simp [mints]; exact HX.out.len
  have hlt1 := ht_0.out.lt
  obtain ⟨W2, hW2⟩ : ∃ W, W = W0.alloc (.cells #[.int .i64 P, .int .i64 K, .slice none 0 0] 25) := ⟨_, rfl⟩
  have hbx : Below W0.heap.size W0 W2 := by rw [hW2]; exact (Below.refl _ _).alloc (Nat.le_refl _) _
  have X_2 : Hid (Box W2 W0.heap.size 25 #[.int .i64 P, .int .i64 K, .slice none 0 0]) := by rw [hW2]; exact Box.new _ _ _
  have BZ := Lib.hid hbx
  clear hzs hbx
  clear eht0 fht0 eht1 fht1 eht2 fht2
  go_wp2_with fail
  rw [← hW2]
  clear hW2
  go_loopw [32] (fun y wr => ∃ (i : Nat) (L : List El) (A1 : Option Addr) (c1 : Nat), i ≤ n ∧ y = .int .i64 i ∧ Hid (OwnV wr W0.heap.size (.slice A1 i c1) i L) ∧ Hid (Has L (zs.take i)) ∧ Hid (Box wr W0.heap.size 25 #[.int .i64 P, .int .i64 K, .slice A1 i c1]) ∧ Hid (Below W0.heap.size W0 wr)) (fun y _ => n - (intOf y).toNat)
  case atStart => exact ⟨0, [], none, 0, Nat.zero_le _, rfl, OwnV.none_ _ _, by rw [List.take_zero]; exact trivial, X_2, BZ⟩
  case round =>
    obtain ⟨i, L, A1, c1, hle, rfl, ho, hh, hX, hb⟩ := hrel
    by_cases hlt : i < n
    · have hix : i < xs.length := by rw [HX.out.len]; exact hlt
      obtain ⟨z, hz⟩ : ∃ z, xs[i]? = some z := ⟨_, List.getElem?_eq_getElem hix⟩
      have hzb := HX.out.bd z (List.mem_of_getElem? hz)
      obtain ⟨b0, o0, rfl, hb0, hcs⟩ := (HX.out.below hb.out).rd.at_ (by simp; omega)
      have hcell : wr.cell? ⟨b0, o0 + i, none⟩ = some (.int .i64 z) := (hcs i (by simpa using hix)).trans (by rw [List.getElem_map]; have := hz; rw [List.getElem?_eq_getElem hix] at this; rw [Option.some.inj this])
      have hi0 : (0 : Int) ≤ (i : Int) := by omega
      have hi1 : (i : Int) < (n : Int) := by omega
      have HZI : Hid (zs[i]? = some (rint z)) := by rw [HZ.out]; exact mints_at hz
      have X_0 := Lib.hid hX.out.drew
      have OD := Lib.hid (OwnV.drew ho.out)
      have BD := Lib.hid hb.out.drew
      have ex0 := X_0.out.cell 0
      have ex1 := X_0.out.cell 1
      have ex2 := X_0.out.cell 2
      simp at ex0 ex1 ex2
      clear hz hcs
      go_wp2_with fail
      go_region_law (first | (refine step_append_el rfl _ _ 23 rfl W0.heap.size i0 (.agg #[.bool false, .slice none 0 0, .slice none 0 0]) 56 Try.underlying23 hi hz0 hz1 hz2 rfl _ i L rfl HO.out ⟨g, .slice A2 r.length c2, r.length, r.map (.int .i64), .slice B2 dd.length d2, dd.length, dd.map (.int .i64)⟩ rfl HE.out HFR.out rfl rfl (by unfold maxLen; omega) (by omega) HB.out.size _ ?_; intro V' w3 s1 hg; obtain ⟨A5, c5, rfl⟩ := s1.slice; have X_4 := Lib.hid (X_3.out.grown hg (box_main X_1.out HO.out)); have HO3 := Lib.hid s1; have HB3 := Lib.hid (below_app HB.out HO.out hg); have ey0 := X_4.out.cell 0; have ey1 := X_4.out.cell 1; have ey2 := X_4.out.cell 2; simp at ey0 ey1 ey2; have fy2 := X_4.out.free 2; have X_5 := Lib.hid (X_4.out.setAt2 (.slice A5 (i + 1) c5)); clear s1 hg) | (go_simp; go_at_call 64; (with_reducible refine (spec_ratFromInt z _ hzb).mono ?_); rintro e w4 ⟨g, r, v, dd, u, rfl, hq, q1, q2, hap, hc2⟩; obtain ⟨A2, c2, rfl⟩ := own_slice q1.2; obtain ⟨B2, d2, rfl⟩ := own_slice q2.2; obtain ⟨s1, s2, s3, s4⟩ := new_el (g := g) OD.out BD.out hc2 q1 q2 hap; have HH := Lib.hid (has_append (g := g) (r := r) (d := dd) (v := .slice A2 r.length c2) (u := .slice B2 dd.length d2) hh.out ((rint_of hq).symm ▸ HZI.out)); have HO := Lib.hid s1; have HE := Lib.hid s2; have HFR := Lib.hid s3; have HB := Lib.hid s4; have X_1 := Lib.hid (X_0.out.below hc2 X_0.out.lt); have X_3 := Lib.hid (X_1.out.alloc (.cells #[.bool g, .slice A2 r.length c2, .slice B2 dd.length d2] 42)); have eu0 := X_1.out.cell 0; have eu1 := X_1.out.cell 1; have eu2 := X_1.out.cell 2; have ev0 := X_3.out.cell 0; have ev1 := X_3.out.cell 1; have ev2 := X_3.out.cell 2; simp at eu0 eu1 eu2; have ev2' : (w4.alloc (.cells #[.bool g, .slice A2 r.length c2, .slice B2 dd.length d2] 42)).cell? ⟨W0.heap.size, 2, none⟩ = some (.slice A1 i c1) := ev2; clear ev0 ev1 ev2 s1 s2 s3 s4 hq q1 q2 hap hc2))
      all_goals
        have HO5 := Lib.hid (HO3.out.box_set X_4.out (i := 2) (.slice A5 (i + 1) c5))
        have HB5 := Lib.hid (HB3.out.setCell (p := ⟨W0.heap.size, 2, none⟩) (Nat.le_refl _) (.slice A5 (i + 1) c5))
        go_wp2_with fail
        go_roundw
        case rel => exact ⟨i + 1, _, A5, c5, by omega, by go_num, HO5, HH, X_5, HB5⟩
        case measure => simp [intOf]; omega
    · obtain rfl : i = n := by omega
      have HH : Hid (Has L zs) := by have := hh.out; rwa [List.take_of_length_le (by rw [HZL.out]; omega)] at this
      have ht_3 := Lib.hid (ht_0.out.below hb.out (by omega))
      have BW_3 := Lib.hid (BW_0.out.trans (hb.out.mono BW_0.out.size))
      have HGD : Hid (Goods zs) := by rw [HZ.out]; exact mints_goods (by rw [HX.out.len]; omega)
      have HQ : Hid (MatrixOfIs P K xs P K zs) := .inl ⟨⟨by omega, by omega, by rw [HUU.out, HX.out.len]⟩, rfl, rfl, HZ.out⟩
      have eht0 := ht_3.out.cell 0
      have eht1 := ht_3.out.cell 1
      have eht2 := ht_3.out.cell 2
      have fht0 := ht_3.out.free 0
      have fht1 := ht_3.out.free 1
      have fht2 := ht_3.out.free 2
      simp at eht0 eht1 eht2
      have ex0 := hX.out.cell 0
      have ex1 := hX.out.cell 1
      have ex2 := hX.out.cell 2
      simp at ex0 ex1 ex2
      go_wp2_with fail
      refine bodyPost_ret (v := .agg #[.int .i64 P, .int .i64 K, .slice A1 i c1]) (by simp [results, Try.results27, eht0, eht1, eht2, go_sem]) rfl ?_
      exact matEnd_store ht_3.out (Nat.le_refl _) BW_3.out HQ.out HGD.out HZL.out ho.out BW_0.out.size HH.out
theorem spec_matrixOf (rows cols : Int) (A : Option Addr) (n c : Nat) (xs : List Int) (w : World) (hr : -9223372036854775808 ≤ rows ∧ rows ≤ 9223372036854775807) (hc : -9223372036854775808 ≤ cols ∧ cols ≤ 9223372036854775807) (h : InI w A n xs) :
    Calls Try.prog 27 #[.int .i64 rows, .int .i64 cols, .slice A n c] w fun e w' => ∃ p k r V, e = .returned (.agg #[.int .i64 p, .int .i64 k, V]) ∧ MatrixOfIs rows cols xs p k r ∧ ResV w w' V r ∧ Below w.heap.size w w' := (spec_matrixOf0 rows cols A n c xs w h hr hc).mono fun _ _ h => h
end Go.Proofs.Ytmclfoahfifmfaa
