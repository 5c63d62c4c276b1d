/- Contracts of the elimination, by the model: Reduce, RankOf. -/
import Derived.Test.YtibheldbjjdinaaGreatElS3
import Derived.Test.YtibheldbjjdinaaGreatElS4
import Derived.Test.YtibheldbjjdinaaGreatElimR
namespace Go.Proofs.YtibheldbjjdinaaGreat
set_option maxRecDepth 100000
open Go.RowKit

theorem est_pv_le {P K : Nat} (rs : List RD) : ∀ k, (est P K rs k).pv.length ≤ P
  | 0 => Nat.zero_le _
  | k + 1 => by
    have h := est_pv_le (P := P) (K := K) rs k
    rw [est_succ]
    by_cases hc : (est P K rs k).pv.length < P ∧ AllOk (est P K rs k).rs
    · cases hf : firstRow P K (est P K rs k).rs (est P K rs k).pv.length k with
      | none => rw [estep_none hf]; exact h
      | some i => rw [estep_some hc.1 hc.2 hf]; simp; omega
    · rw [estep_done hc]; exact h
theorem fin_nat (P K : Nat) (rs : List RD) : fin P K rs = est P K rs K := by unfold fin; simp
set_option maxHeartbeats 6400000 in
theorem spec_reduce0 (p k : Int) (A : Option Addr) (n c : Nat) (rs : List RD) (w : World) (h : InV w A n rs) (hp : -9223372036854775808 ≤ p ∧ p ≤ 9223372036854775807) (hk : -9223372036854775808 ≤ k ∧ k ≤ 9223372036854775807) :
    Calls Tryz.prog 28 #[.agg #[.int .i64 p, .int .i64 k, .slice A n c]] w fun e w' => RedMEnd (ReduceIs p k rs) w w' e := by
  obtain ⟨W0, hW0⟩ : ∃ W, W = ((w.alloc (.cells #[.int .i64 p, .int .i64 k, .slice A n c] 25)).alloc (.cells #[.int .i64 0, .int .i64 0, .slice none 0 0] 25)) := ⟨_, rfl⟩
  have hm0_0 : Hid (Box W0 (w.heap.size) 25 #[.int .i64 p, .int .i64 k, .slice A n c]) := by rw [hW0]; exact ((Box.at' (by simp)).alloc _)
  have ht_0 : Hid (Box W0 (w.heap.size + 1) 25 #[.int .i64 0, .int .i64 0, .slice none 0 0]) := by rw [hW0]; exact (Box.at' (by simp))
  have BW_0 : Hid (Below w.heap.size w W0) := by rw [hW0]; exact (((Below.refl w.heap.size w).alloc (by simp) _).alloc (by simp) _)
  have hsz0 : w.heap.size + 1 + 1 ≤ W0.heap.size := by rw [hW0]; simp
  have hn := h.2.1
  have HV := Lib.hid (h.below BW_0.out)
  clear h
  go_enter Tryz.func28, Tryz.ntmps28
  go_wp2_with fail
  rw [← hW0]
  clear hW0
  refine (spec_matrixOk0 p k A n c rs _ HV.out hp hk).mono ?_
  rintro e w1 ⟨b, rfl, hq, hb⟩
  have hm0_1 := Lib.hid (hm0_0.out.below hb hm0_0.out.lt)
  have ht_1 := Lib.hid (ht_0.out.below hb ht_0.out.lt)
  have BW_1 := Lib.hid (BW_0.out.trans (hb.mono BW_0.out.size))
  replace HV := Lib.hid (HV.out.below hb)
  clear hb
  have ehm00 := hm0_1.out.cell 0
  have ehm01 := hm0_1.out.cell 1
  have ehm02 := hm0_1.out.cell 2
  have eht0 := ht_1.out.cell 0
  have eht1 := ht_1.out.cell 1
  have eht2 := ht_1.out.cell 2
  have fht0 := ht_1.out.free 0
  have fht1 := ht_1.out.free 1
  have fht2 := ht_1.out.free 2
  simp at ehm00 ehm01 ehm02 eht0 eht1 eht2
  cases b
  case false =>
    have HZ : Hid (ReduceIs p k rs 0 0 [] [] false) := .inr ⟨fun h => (by have h1 := hq.2 h.1; cases h1), rfl, rfl, rfl, rfl, rfl⟩
    clear hq
    go_wp2_with fail
    refine bodyPost_ret (v := .tuple #[.agg #[.int .i64 0, .int .i64 0, .slice none 0 0], .slice none 0 0, .bool false]) (by simp [results, Tryz.results28, eht0, eht1, eht2, go_sem]) rfl ?_
    exact ⟨0, 0, [], _, [], _, false, rfl, HZ.out, resVI_nil _ _, below_store3 BW_1.out (by omega) _ _ _⟩
  have HM := Lib.hid (hq.1 rfl)
  clear hq
  have hp2 := HM.out.1
  have hk2 := HM.out.2.1
  obtain ⟨P, rfl⟩ : ∃ P : Nat, p = P := ⟨p.toNat, by omega⟩
  obtain ⟨K, rfl⟩ : ∃ K : Nat, k = K := ⟨k.toNat, by omega⟩
  have hP24 : P ≤ 24 := by omega
  have hK24 : K ≤ 24 := by omega
  have HNPK : Hid (n = P * K) := by have h1 := HM.out.plen; rw [HV.out.1] at h1; exact h1
  have hN5 : n ≤ 576 := by rw [HNPK.out]; exact mul_le_576 hP24 hK24
  have hsz1 := BW_1.out.size
  go_wp2_with fail
  clear ehm00 ehm01 ehm02 eht0 fht0 eht1 fht1 eht2 fht2
  refine (spec_l06CopyS P K A n c rs _ HV.out HM.out.all hN5).mono ?_
  rintro e w2 ⟨G, c2, L2, rfl, ho, hh, hb⟩
  obtain ⟨W3, hW3⟩ : ∃ W, W = w2.alloc (.cells #[.int .i64 P, .int .i64 K, .slice (some ⟨G, 0, none⟩) n c2] 25) := ⟨_, rfl⟩
  have hbx : Below w2.heap.size w2 W3 := by rw [hW3]; exact (Below.refl _ _).alloc (Nat.le_refl _) _
  have X_3 : Hid (Box W3 w2.heap.size 25 #[.int .i64 P, .int .i64 K, .slice (some ⟨G, 0, none⟩) n c2]) := by rw [hW3]; exact Box.new _ _ _
  have O3 := Lib.hid (ho.below hbx)
  have HH3 := Lib.hid hh
  have B3 := Lib.hid (hb.trans (hbx.mono hb.size))
  have hs12 := hb.size
  have hs23 := hbx.size
  have hGb : w1.heap.size ≤ G ∧ G < w2.heap.size := own_at0 ho.2.1
  have hb13 : w1.heap.size ≤ W3.heap.size := by omega
  clear ho hh hb hbx
  go_wp2_with fail
  rw [← hW3]
  clear hW3
  refine (spec_l07Reduce w1.heap.size G n c2 P K rs L2 _ O3.out HH3.out HNPK.out HM.out hb13).mono ?_
  rintro e w4 ⟨s, L, Lf, Ap, Af, n4, cp, nf, cf, rfl, hs, hl, hnP, hM, _, hW⟩
  have hne : w2.heap.size ≠ G := by omega
  have X_4 := Lib.hid (wrote_box hW X_3.out hne)
  have B4 := Lib.hid (Wrote.below B3.out hW (fun k hk => by subst hk; exact hGb.1) hb13)
  have M4 := Lib.hid hM
  have HS := Lib.hid hs
  have HL := Lib.hid hl
  have HGD : Hid (Goods s.rs) := by
    have h1 := est_good HM.out K (Nat.le_refl _)
    rw [← hs] at h1
    exact ⟨by rw [h1.2, ← HNPK.out]; omega, h1.1⟩
  have HSL : Hid (s.rs.length = n) := by
    have h1 := (est_good HM.out K (Nat.le_refl _)).2
    rw [← hs, ← HNPK.out] at h1
    exact h1
  have hn20 : n ≤ 1048576 := by omega
  have HI : Hid (InV w4 (some ⟨G, 0, none⟩) n s.rs) := hM.own.in_ hM.has hn20 HGD.out.fits
  have ex0 := X_4.out.cell 0
  have ex1 := X_4.out.cell 1
  have ex2 := X_4.out.cell 2
  simp at ex0 ex1 ex2
  clear hs hl hM hW X_3 O3 B3
  go_wp2_with fail
  clear ex0 ex1 ex2
  refine (spec_l05Fine (some ⟨G, 0, none⟩) n c2 s.rs _ HI.out HGD.out).mono ?_
  rintro e w5 ⟨b5, rfl, hq5, hb5⟩
  have X_5 := Lib.hid (X_4.out.below hb5 X_4.out.lt)
  have M5 := Lib.hid (M4.out.below hb5)
  have B5 := Lib.hid (B4.out.trans (hb5.mono B4.out.size))
  have ht_5 := Lib.hid (ht_1.out.below B5.out ht_1.out.lt)
  have BW_5 := Lib.hid (BW_1.out.trans (B5.out.mono BW_1.out.size))
  have eht0 := ht_5.out.cell 0
  have eht1 := ht_5.out.cell 1
  have eht2 := ht_5.out.cell 2
  have fht0 := ht_5.out.free 0
  have fht1 := ht_5.out.free 1
  have fht2 := ht_5.out.free 2
  simp at eht0 eht1 eht2
  cases b5
  case false =>
    have HZ : Hid (ReduceIs P K rs 0 0 [] [] false) := .inr ⟨(fun h => by have h2 := (Elim.nat.1 h).2; rw [← HS.out] at h2; have h3 := hq5.2 h2; cases h3), rfl, rfl, rfl, rfl, rfl⟩
    clear hq5 hb5
    go_wp2_with fail
    refine bodyPost_ret (v := .tuple #[.agg #[.int .i64 0, .int .i64 0, .slice none 0 0], .slice none 0 0, .bool false]) (by simp [results, Tryz.results28, eht0, eht1, eht2, go_sem]) rfl ?_
    exact ⟨0, 0, [], _, [], _, false, rfl, HZ.out, resVI_nil _ _, below_store3 BW_5.out (by omega) _ _ _⟩
  have HQ : Hid (ReduceIs P K rs P K s.rs (pvs s.pv) true) := .inl ⟨Elim.nat.2 ⟨HM.out, by rw [← HS.out]; exact hq5.1 rfl⟩, rfl, rfl, by rw [fin_nat, ← HS.out], by rw [fin_nat, ← HS.out], rfl⟩
  have ex0 := X_5.out.cell 0
  have ex1 := X_5.out.cell 1
  have ex2 := X_5.out.cell 2
  simp at ex0 ex1 ex2
  clear hq5 hb5
  go_wp2_with fail
  refine bodyPost_ret (v := .tuple #[.agg #[.int .i64 P, .int .i64 K, .slice (some ⟨G, 0, none⟩) n c2], .slice Ap n4 cp, .bool true]) (by simp [results, Tryz.results28, eht0, eht1, eht2, go_sem]) rfl ?_
  exact ⟨P, K, s.rs, _, pvs s.pv, _, true, rfl, HQ.out, (resVI_mk HGD.out HSL.out M5.out.own hsz1 M5.out.has M5.out.piv HL.out (by omega) (off_mono M5.out.off fun x hx => List.mem_append_right _ hx)).box3 ht_5.out _ _ _, below_store3 BW_5.out (by omega) _ _ _⟩
theorem spec_reduce (p k : Int) (A : Option Addr) (n c : Nat) (rs : List RD) (w : World) (h : InV w A n rs) (hp : -9223372036854775808 ≤ p ∧ p ≤ 9223372036854775807) (hk : -9223372036854775808 ≤ k ∧ k ≤ 9223372036854775807) (_hc : n ≤ c) :
    Calls Tryz.prog 28 #[.agg #[.int .i64 p, .int .i64 k, .slice A n c]] w fun e w' => ∃ q j r V l v b, e = .returned (.tuple #[.agg #[.int .i64 q, .int .i64 j, V], v, .bool b]) ∧ ReduceIs p k rs q j r l b ∧ ResVI w w' V r v l ∧ Below w.heap.size w w' := (spec_reduce0 p k A n c rs w h hp hk).mono fun _ _ h => h
set_option maxHeartbeats 3200000 in
theorem spec_rankOf0 (p k : Int) (A : Option Addr) (n c : Nat) (rs : List RD) (w : World) (h : InV w A n rs) (hp : -9223372036854775808 ≤ p ∧ p ≤ 9223372036854775807) (hk : -9223372036854775808 ≤ k ∧ k ≤ 9223372036854775807) :
    Calls Tryz.prog 36 #[.agg #[.int .i64 p, .int .i64 k, .slice A n c]] w fun e w' => IntEnd (RankOfIs p k rs) w w' e := by
  obtain ⟨W0, hW0⟩ : ∃ W, W = (w.alloc (.cells #[.int .i64 p, .int .i64 k, .slice A n c] 25)) := ⟨_, rfl⟩
  have hm0_0 : Hid (Box W0 (w.heap.size) 25 #[.int .i64 p, .int .i64 k, .slice A n c]) := by rw [hW0]; exact (Box.at' (by simp))
  have BW_0 : Hid (Below w.heap.size w W0) := by rw [hW0]; exact ((Below.refl w.heap.size w).alloc (by simp) _)
  have hsz0 : w.heap.size + 1 ≤ W0.heap.size := by rw [hW0]; simp
  have HV := Lib.hid (h.below BW_0.out)
  clear h
  go_enter Tryz.func36, Tryz.ntmps36
  go_wp2_with fail
  rw [← hW0]
  clear hW0
  refine (spec_reduce0 p k A n c rs _ HV.out hp hk).mono ?_
  rintro e w1 ⟨q, j, r, V, l, v, b, rfl, hq, ⟨hl1, hl2, hl3, L, ho, hh, hv, hof⟩, hb⟩
  obtain ⟨A1, c1, rfl⟩ := ho.slice
  obtain ⟨B1, d1, rfl⟩ := own_slice hv
  have BW_1 := Lib.hid (BW_0.out.trans (hb.mono BW_0.out.size))
  have BW_2 := Lib.hid (BW_1.out.alloc BW_1.out.size (.cells #[.int .i64 q, .int .i64 j, .slice A1 r.length c1] 25))
  have HQ := Lib.hid hq
  clear hq hl1 hl2 ho hh hv hof hb
  cases b
  case false =>
    have HF : Hid (∀ W, Below w.heap.size w W → IntEnd (RankOfIs p k rs) w W (.returned (.int .i64 (-1)))) := fun W hW => ⟨-1, rfl, .inr ⟨(by rcases HQ.out with ⟨_, _, _, _, _, h⟩ | ⟨h, _⟩; cases h; exact h), rfl⟩, hW⟩
    go_wp2_with fail
    go_ret
    exact HF.out _ BW_2.out
  have HF : Hid (∀ W, Below w.heap.size w W → IntEnd (RankOfIs p k rs) w W (.returned (.int .i64 (l.length : Int)))) := fun W hW => ⟨l.length, rfl, .inl (by rcases HQ.out with ⟨h1, _, _, _, h2, _⟩ | ⟨_, _, _, _, _, h⟩; exact ⟨h1, by rw [h2, pvs_length]⟩; cases h), hW⟩
  go_wp2_with fail
  go_ret
  exact HF.out _ BW_2.out
theorem spec_rankOf (p k : Int) (A : Option Addr) (n c : Nat) (rs : List RD) (w : World) (h : InV w A n rs) (hp : -9223372036854775808 ≤ p ∧ p ≤ 9223372036854775807) (hk : -9223372036854775808 ≤ k ∧ k ≤ 9223372036854775807) (_hc : n ≤ c) :
    Calls Tryz.prog 36 #[.agg #[.int .i64 p, .int .i64 k, .slice A n c]] w fun e w' => ∃ r, e = .returned (.int .i64 r) ∧ RankOfIs p k rs r ∧ Below w.heap.size w w' := (spec_rankOf0 p k A n c rs w h hp hk).mono fun _ _ h => h
end Go.Proofs.YtibheldbjjdinaaGreat
