/- Contracts of matrices, by the program: the identity. -/
import Derived.Test.YtdehcddjkcpnfaaGreatMatI
import Derived.Test.YtdehcddjkcpnfaaGreatMatK
import Derived.Test.YtdehcddjkcpnfaaGreatGW
import Derived.Test.YtdehcddjkcpnfaaGreatMatS3
namespace Go.Proofs.YtdehcddjkcpnfaaGreat
set_option maxRecDepth 100000
open Go.RowKit

theorem ident_row {n i : Nat} (hi : i < n) : mrow n (ident n) i = (List.replicate n (rint 0)).set i (rint 1) := by
  apply List.ext_getElem?
  intro j
  by_cases hj : j < n
  · rw [mrow_at hj, List.getElem?_set]
    have hlt : i * n + j < n * n := cell_lt hi hj
    have e1 := div_of (P := n) (j := i) hj
    have e2 := mod_of (P := n) (j := i) hj
    by_cases e : i = j
    · subst e; simp [ident, hlt, e1, e2, hj]
    · simp [ident, hlt, e1, e2, hj, e]
  · have hl : (ident n).length = n * n := by simp [ident]
    rw [List.getElem?_eq_none (by rw [mrow_length hl hi]; omega), List.getElem?_eq_none (by simp; omega)]
theorem upTo_row {zs ss : List RD} {u m N : Nat} (hz : zs.length = N) (hu : u + m ≤ N) (hs : (zs.drop u).take m = ss) : (upTo zs u N).take u ++ ss ++ (upTo zs u N).drop (u + m) = upTo zs (u + m) N := by
  have h1 : (zs.take u).length = u := by rw [List.length_take]; omega
  unfold upTo
  rw [List.take_append, h1, Nat.sub_self, List.take_zero, List.append_nil, List.take_take, Nat.min_self, List.drop_append, h1, List.drop_eq_nil_of_le (by omega), List.nil_append, show u + m - u = m by omega, List.drop_replicate, ← hs, ← List.take_add, show N - u - m = N - (u + m) by omega]
set_option maxHeartbeats 3200000 in
theorem impl_identityMatrix0 (n : Int) (w : World) (_hn : -9223372036854775808 ≤ n ∧ n ≤ 9223372036854775807) :
    Calls Tryz.prog 53 #[.int .i64 n] w fun e w' => MatEnd (IdentityMatrixIs n) w w' e := by
  obtain ⟨i0, hi, hz0, hz1, hz2⟩ := info_parts Tryz.infoR
  have hsz : (Tryz.prog.info? 30).map (·.size) = some 3 := by rw [hi]; simp [hz1]
  obtain ⟨W0, hW0⟩ : ∃ W, W = (w.alloc (.cells #[.int .i64 0, .int .i64 0, .slice none 0 0] 47)) := ⟨_, rfl⟩
  have ht_0 : Hid (Box W0 (w.heap.size) 47 #[.int .i64 0, .int .i64 0, .slice none 0 0]) := by rw [hW0]; exact (Box.at' (by simp))
  have BW_0 : Hid (Below w.heap.size w W0) := by rw [hW0]; exact ((Below.refl w.heap.size w).alloc (by simp) _)
  have hsz0 : w.heap.size + 1 ≤ W0.heap.size := by rw [hW0]; simp
  obtain ⟨b1, hb1⟩ : ∃ b, (decide (0 ≤ n) && decide (n ≤ 24)) = b := ⟨_, rfl⟩
  have H1 := Lib.hid hb1
  clear hb1
  go_enter Tryz.func53, Tryz.ntmps53
  go_wp2_with fail
  rw [← hW0]
  clear hW0
  refine (impl_isSize n b1 H1.out _).mono ?_
  rintro e w1 ⟨rfl, rfl⟩
  cases b1
  case false =>
    have HF : Hid (IdentityMatrixIs n 0 0 []) := matIs_no fun h => in_no H1.out h
    have eht0 := ht_0.out.cell 0
    have eht1 := ht_0.out.cell 1
    have eht2 := ht_0.out.cell 2
    have fht0 := ht_0.out.free 0
    have fht1 := ht_0.out.free 1
    have fht2 := ht_0.out.free 2
    simp at eht0 eht1 eht2
    go_wp2_with fail
    refine bodyPost_ret (v := .agg #[.int .i64 0, .int .i64 0, .slice none 0 0]) (by simp [results, Tryz.results53, eht0, eht1, eht2, go_sem]) rfl ?_
    exact matEnd_zero HF.out BW_0.out (by omega) _ _ _
  have hp2 := in_yes H1.out
  obtain ⟨K, rfl⟩ : ∃ P : Nat, n = P := ⟨n.toNat, by omega⟩
  have hK24 : K ≤ 24 := by omega
  have hm := mul_le_576 hK24 hK24
  obtain ⟨N, hN⟩ : ∃ N, N = K * K := ⟨_, rfl⟩
  have HN := Lib.hid hN
  rw [← hN] at hm
  obtain ⟨zs, hzs⟩ : ∃ zs, zs = ident K := ⟨_, rfl⟩
  have HZ := Lib.hid hzs
  have HZL : Hid (zs.length = N) := by unfold Hid; rw [hzs, hN]; simp [ident]
  clear hzs
  go_wp2_with fail
  refine (impl_newMatrix K K _ hK24 hK24).mono ?_
  rintro e w1 ⟨G, rfl, ho, hb⟩
  rw [← hN] at ho ⊢
  have HB1 := Lib.hid hb
  clear hN
  have ht_1 := Lib.hid (ht_0.out.below hb ht_0.out.lt)
  have BW_1 := Lib.hid (BW_0.out.trans (hb.mono BW_0.out.size))
  clear hb
  obtain ⟨W2, hW2⟩ : ∃ W, W = w1.alloc (.cells #[.int .i64 K, .int .i64 K, .slice (some ⟨G, 0, none⟩) N N] 47) := ⟨_, rfl⟩
  have hbx : Below w1.heap.size w1 W2 := by rw [hW2]; exact (Below.refl _ _).alloc (Nat.le_refl _) _
  have X_2 : Hid (Box W2 w1.heap.size 47 #[.int .i64 K, .int .i64 K, .slice (some ⟨G, 0, none⟩) N N]) := by rw [hW2]; exact Box.new _ _ _
  have O2 : Hid (OwnV W2 W0.heap.size (.slice (some ⟨G, 0, none⟩) N N) N (List.replicate N El.zero)) := ho.below hbx
  have BZ : Hid (Below W0.heap.size W0 W2) := HB1.out.trans (hbx.mono HB1.out.size)
  have HG : Hid (0 < N → W0.heap.size ≤ G ∧ G < w1.heap.size) := fun h0 => by
    obtain ⟨g, hg, h1, h2⟩ := own_at' ho.2.1 h0
    cases hg; exact ⟨h1, h2⟩
  have hW1 := HB1.out.size
  have hlt0 := ht_0.out.lt
  clear ho hbx
  go_wp2_with fail
  rw [← hW2]
  clear hW2
  go_loopw [13] (fun y wr => ∃ (i : Nat) (L : List El), i ≤ K ∧ y = .int .i64 i ∧ Hid (OwnV wr W0.heap.size (.slice (some ⟨G, 0, none⟩) N N) N L) ∧ Hid (Has L (upTo zs (i * K) N)) ∧ Hid (Box wr w1.heap.size 47 #[.int .i64 K, .int .i64 K, .slice (some ⟨G, 0, none⟩) N N]) ∧ Hid (Below W0.heap.size W0 wr)) (fun y _ => K - (intOf y).toNat)
  case atStart => exact ⟨0, _, Nat.zero_le _, rfl, O2, by rw [Nat.zero_mul, upTo_zero]; exact has_zeros N, X_2, BZ⟩
  case round =>
    obtain ⟨i, L, hle, rfl, ho, hh, hX, hb⟩ := hrel
    by_cases hlt : i < K
    · have hir : i * K + K ≤ N := by rw [HN.out]; exact row_le hlt
      obtain ⟨hg0, hg1⟩ := HG.out (by omega)
      have hi0 : (0 : Int) ≤ (i : Int) := by omega
      have hi1 : (i : Int) < (K : Int) := by omega
      have ex0 := hX.out.cell 0
      have ex1 := hX.out.cell 1
      have ex2 := hX.out.cell 2
      simp at ex0 ex1 ex2
      go_wp2_with fail
      clear ex0 ex1 ex2
      refine (impl_rowAt K K i (some ⟨G, 0, none⟩) N N _ hir (by omega) (Nat.le_refl _) (fun _ => ⟨G, 0, rfl⟩) (by omega) hK24).mono ?_
      rintro e w3 ⟨A', c', rfl, _, hat, hb3⟩
      obtain ⟨u, hu⟩ : ∃ u, u = i * K := ⟨_, rfl⟩
      have HU := Lib.hid hu
      rw [← hu] at hat hir
      have hA' : A' = some ⟨G, u * 3, none⟩ := by
        rcases hat with h0 | ⟨b, o, hA, hA'⟩
        · omega
        · cases hA; rw [hA', Nat.zero_add]
      subst hA'
      have O3 := Lib.hid (ho.out.below hb3)
      have X_3 := Lib.hid (hX.out.below hb3 hX.out.lt)
      have B3 := Lib.hid (hb.out.trans (hb3.mono hb.out.size))
      clear hat hb3 hu
      go_wp2_with fail
      refine (impl_unitVector K i _ (by omega) (by omega)).mono ?_
      rintro e w4 ⟨ss, V, rfl, hss, ⟨_, _, M, hoM, hhM⟩, hb4⟩
      have hss : ss = (List.replicate K (rint 0)).set i (rint 1) := by
        unfold UnitVectorIs at hss
        rw [if_pos (by omega)] at hss
        simpa using hss
      have hsl : ss.length = K := by rw [hss]; simp
      rw [hsl] at hoM
      obtain ⟨A2, c2, rfl⟩ := hoM.slice
      obtain ⟨g2, rfl, hg2, _⟩ := own_at' hoM.2.1 (by omega)
      have O4 := Lib.hid (O3.out.below hb4)
      have X_4 := Lib.hid (X_3.out.below hb4 X_3.out.lt)
      have B4 := Lib.hid (B3.out.trans (hb4.mono B3.out.size))
      have hw3 : W0.heap.size ≤ w3.heap.size := B3.out.size
      have HFar : Hid (∀ x ∈ L, ∀ y ∈ M, Far x y) := fun x hx y hy k hk hk' => by
        have h1 := ((O3.out.2.2.1 x hx).lt k hk).2
        have h2 := ((hoM.2.2.1 y hy).lt k hk').1
        omega
      have HM := Lib.hid hoM
      have HH5 : Hid (Has (L.take u ++ (M ++ L.drop (u + K))) (upTo zs ((i + 1) * K) N)) := by
        rw [← List.append_assoc]
        have h1 : (zs.drop u).take K = ss := by rw [hss, ← ident_row hlt, HZ.out, HU.out]; rfl
        rw [Nat.add_mul, Nat.one_mul, ← HU.out, ← upTo_row HZL.out hir h1]
        have h2 := hh.out
        rw [← HU.out] at h2
        exact (Has.append (Has.append (Has.take u h2) hhM) (Has.drop (u + K) h2))
      clear hss hsl hoM hhM hb4
      go_wp2_with (refine wpList_copy_el (o := ⟨some 22, _, _, _, _, _⟩) rfl (.tmp 18) (.tmp 21) 26 26 rfl Tryz.underlying26 hsz G u N N K c2 g2 c' rfl rfl W0.heap.size w3.heap.size L M O4.out HM.out hw3 HFar.out hir W0 B4.out ?_)
      intro w5 h1 h2 h3
      have HO5 := Lib.hid h1
      have HB5 := Lib.hid h2
      have X_5 : Hid (Box w5 w1.heap.size 47 #[.int .i64 K, .int .i64 K, .slice (some ⟨G, 0, none⟩) N N]) := (h3.block _ X_4.out.lt (by omega)).trans X_4.out
      clear h1 h2 h3
      go_wp2_with fail
      go_roundw
      case rel => exact ⟨i + 1, _, by omega, by go_num, HO5, HH5, X_5, HB5⟩
      case measure => simp [intOf]; omega
    · obtain rfl : i = K := by omega
      have HH : Hid (Has L (ident i)) := by
        have h1 := hh.out
        rw [← HN.out, upTo_all HZL.out, HZ.out] at h1
        exact h1
      have ht_3 := Lib.hid (ht_0.out.below hb.out (by omega))
      have BW_3 := Lib.hid (BW_0.out.trans (hb.out.mono BW_0.out.size))
      have HU : Hid ((ident i).length = N) := by rw [← HZ.out]; exact HZL.out
      have HGD : Hid (Goods (ident i)) := by rw [← identTo_all]; exact identTo_goods (by omega)
      have HQ : Hid (IdentityMatrixIs i i i (ident i)) := matIs_yes (by omega)
      have eht0 := ht_3.out.cell 0
      have eht1 := ht_3.out.cell 1
      have eht2 := ht_3.out.cell 2
      have fht0 := ht_3.out.free 0
      have fht1 := ht_3.out.free 1
      have fht2 := ht_3.out.free 2
      simp at eht0 eht1 eht2
      have ex0 := hX.out.cell 0
      have ex1 := hX.out.cell 1
      have ex2 := hX.out.cell 2
      simp at ex0 ex1 ex2
      go_wp2_with fail
      refine bodyPost_ret (v := .agg #[.int .i64 i, .int .i64 i, .slice (some ⟨G, 0, none⟩) N N]) (by simp [results, Tryz.results53, eht0, eht1, eht2, go_sem]) rfl ?_
      exact matEnd_store ht_3.out (Nat.le_refl _) BW_3.out HQ.out HGD.out HU.out ho.out BW_0.out.size HH.out
end Go.Proofs.YtdehcddjkcpnfaaGreat
