/- Contracts of the elimination, by the model: copies that lie at a block's head; Reduce, RankOf. -/
import Derived.Test.YthjbfdifeffilaaGreatElS1
import Derived.Test.YthjbfdifeffilaaGreatElS3
import Derived.Test.YthjbfdifeffilaaGreatElimR
namespace Go.Proofs.YthjbfdifeffilaaGreat
set_option maxRecDepth 100000
open Go.RowKit

def CopyGEnd (n : Nat) (rs : List RD) (w w' : World) (e : Ending) : Prop := ∃ G c L, e = .returned (.slice (some ⟨G, 0, none⟩) n c) ∧ OwnV w' w.heap.size (.slice (some ⟨G, 0, none⟩) n c) n L ∧ Has L rs ∧ Below w.heap.size w w'
set_option maxHeartbeats 3200000 in
theorem spec_l05CopyS (A : Option Addr) (n c : Nat) (rs : List RD) (w : World) (h : InV w A n rs) (hv : ∀ r ∈ rs, r.ok) (h5 : n ≤ 576) :
    Calls Tryz.prog 190 #[.slice A n c] w fun e w' => CopyGEnd n rs w w' e := by
  obtain ⟨i0, hi, hz0, hz1, hz2⟩ := info_parts Tryz.infoR
  have hn := h.2.1
  have HV := Lib.hid h
  have HK := Lib.hid hv
  clear h hv
  go_enter Tryz.func190, Tryz.ntmps190
  go_wp2_with fail
  go_loopw [3, 9] (fun x y wr => ∃ (i : Nat) (L : List El) (g1 c1 : Nat), i ≤ n ∧ y = .int .i64 i ∧ x = .slice (some ⟨g1, 0, none⟩) i c1 ∧ Hid (OwnV wr w.heap.size (.slice (some ⟨g1, 0, none⟩) i c1) i L) ∧ Hid (Has L (rs.take i)) ∧ Hid (Below w.heap.size w wr)) (fun _ y _ => n - (intOf y).toNat)
  case atStart => exact ⟨0, [], _, _, Nat.zero_le _, rfl, rfl, OwnV.empty _ _, by rw [List.take_zero]; exact trivial, (Below.refl _ _).alloc (Nat.le_refl _) _⟩
  case round =>
    obtain ⟨i, L, g1, c1, hle, rfl, rfl, ho, hh, hb⟩ := hrel
    by_cases hlt : i < n
    · obtain ⟨b1, o1, rfl, hb1, r1, hr1, A3, n3, c3, B3, m3, d3, at1, i1, ra1, j1, rb1⟩ := HV.out.atB hb.out i hlt
      have hi0 : (0 : Int) ≤ (i : Int) := by omega
      have hi1 : (i : Int) < (n : Int) := by omega
      have K1 : Hid r1.ok := HK.out _ (List.mem_of_getElem? hr1)
      have HR1 : Hid (rs[i]? = some ⟨r1.g, r1.xs, r1.ds⟩) := hr1
      have hn3 := i1.2.1
      have hm3 := j1.2.1
      obtain ⟨e10, e11, e12⟩ := at1
      have hbx : Below wr.heap.size wr (wr.alloc (.cells #[.bool r1.g, .slice A3 n3 c3, .slice B3 m3 d3] 35)) := (Below.refl _ _).alloc (Nat.le_refl _) _
      have I1 := Lib.hid (i1.below hbx)
      have J1 := Lib.hid (j1.below hbx)
      have RA1 := Lib.hid ra1
      have RB1 := Lib.hid rb1
      have OD := Lib.hid (ho.out.below hbx)
      have BD := Lib.hid (hb.out.trans (hbx.mono hb.out.size))
      clear i1 j1 hr1 ra1 rb1 hbx
      go_wp2_with fail
      clear e10 e11 e12
      refine (spec_l04Copy r1.g A3 n3 c3 r1.xs B3 m3 d3 r1.ds _ I1.out RA1.out J1.out RB1.out (by have := K1.out.2.2.2.2.1; omega) (by have := K1.out.2.2.2.2.2; omega)).mono ?_
      rintro e w2 ⟨g, r, v, dd, u, rfl, hq, q1, q2, hap, hc2⟩
      obtain ⟨k1, k2, k3⟩ := hq
      obtain ⟨A2, c2, rfl⟩ := own_slice q1.2
      obtain ⟨B2, d2, rfl⟩ := own_slice q2.2
      obtain ⟨s1, s2, s3, s4⟩ := new_el (g := g) OD.out BD.out hc2 q1 q2 hap
      have HH := Lib.hid (has_append (g := g) (r := r) (d := dd) (v := .slice A2 r.length c2) (u := .slice B2 dd.length d2) hh.out (by rw [k1, k2, k3]; exact HR1.out))
      have HO := Lib.hid s1
      have HE := Lib.hid s2
      have HFR := Lib.hid s3
      have HB := Lib.hid s4
      clear s1 s2 s3 s4 q1 q2 hap hc2 k1 k2 k3
      go_wp2_with (at_builtin; refine wpList_append_el rfl _ _ 23 rfl w.heap.size i0 (.agg #[.bool false, .slice none 0 0, .slice none 0 0]) 56 Tryz.underlying23 hi hz0 hz1 hz2 rfl _ i L rfl HO.out ⟨g, .slice A2 r.length c2, r.length, r.map (.int .i64), .slice B2 dd.length d2, dd.length, dd.map (.int .i64)⟩ rfl HE.out HFR.out rfl rfl (by unfold maxLen; omega) (by omega) HB.out.size _ ?_)
      intro V' w3 s1 hg
      obtain ⟨A5, c5, rfl⟩ := s1.slice
      obtain ⟨g5, hg5, _⟩ := own_at' s1.2.1 (by omega)
      subst hg5
      have HO3 := Lib.hid s1
      have HB3 := Lib.hid (below_app HB.out HO.out hg)
      clear s1 hg
      go_wp2_with fail
      go_roundw
      case rel => exact ⟨i + 1, _, g5, c5, by omega, by go_num, rfl, HO3, HH, HB3⟩
      case measure => simp [intOf]; omega
    · obtain rfl : i = n := by omega
      have HH : Hid (Has L rs) := by have := hh.out; rwa [List.take_of_length_le (by rw [HV.out.1]; omega)] at this
      have HF : Hid (CopyGEnd i rs w wr (.returned (.slice (some ⟨g1, 0, none⟩) i c1))) := ⟨g1, c1, L, rfl, ho.out, HH.out, hb.out⟩
      go_wp2_with fail
      go_ret
      exact HF.out
def CopyMGEnd (P K n : Nat) (rs : List RD) (w w' : World) (e : Ending) : Prop := ∃ G c L, e = .returned (.agg #[.int .i64 P, .int .i64 K, .slice (some ⟨G, 0, none⟩) n c]) ∧ OwnV w' w.heap.size (.slice (some ⟨G, 0, none⟩) n c) n L ∧ Has L rs ∧ Below w.heap.size w w'
set_option maxHeartbeats 1600000 in
theorem spec_l06CopyS (P K : Nat) (A : Option Addr) (n c : Nat) (rs : List RD) (w : World) (h : InV w A n rs) (hv : ∀ r ∈ rs, r.ok) (h5 : n ≤ 576) :
    Calls Tryz.prog 156 #[.agg #[.int .i64 P, .int .i64 K, .slice A n c]] w fun e w' => CopyMGEnd P K n rs w w' e := by
  obtain ⟨W0, hW0⟩ : ∃ W, W = ((w.alloc (.cells #[.int .i64 P, .int .i64 K, .slice A n c] 25)).alloc (.cells #[.int .i64 0, .int .i64 0, .slice none 0 0] 25)) := ⟨_, rfl⟩
  have hm0_0 : Hid (Box W0 (w.heap.size) 25 #[.int .i64 P, .int .i64 K, .slice A n c]) := by rw [hW0]; exact ((Box.at' (by simp)).alloc _)
  have ht_0 : Hid (Box W0 (w.heap.size + 1) 25 #[.int .i64 0, .int .i64 0, .slice none 0 0]) := by rw [hW0]; exact (Box.at' (by simp))
  have BW_0 : Hid (Below w.heap.size w W0) := by rw [hW0]; exact (((Below.refl w.heap.size w).alloc (by simp) _).alloc (by simp) _)
  have hsz0 : w.heap.size + 1 + 1 ≤ W0.heap.size := by rw [hW0]; simp
  have HV := Lib.hid (h.below BW_0.out)
  clear h
  go_enter Tryz.func156, Tryz.ntmps156
  go_wp2_with fail
  rw [← hW0]
  clear hW0
  have hbd : Below W0.heap.size W0 W0.drew := (Below.refl _ _).drew
  have D_0 := Lib.hid (hm0_0.out.below hbd hm0_0.out.lt)
  have T_0 := Lib.hid (ht_0.out.below hbd ht_0.out.lt)
  have V_0 := Lib.hid (HV.out.below hbd)
  have BW_d := Lib.hid (BW_0.out.trans (hbd.mono BW_0.out.size))
  have HVO := Lib.hid hv
  have hsz1 := BW_d.out.size
  have hne : w.heap.size ≠ w.heap.size + 1 := by omega
  clear hbd hv
  go_region_held3 (fun w' => w'.cell? ⟨w.heap.size, 0, none⟩ = some (.int .i64 P) ∧ w'.cell? ⟨w.heap.size, 1, none⟩ = some (.int .i64 K) ∧ w'.cell? ⟨w.heap.size, 2, none⟩ = some (.slice A n c)) (first | with_reducible exact box3_far D_2 | with_reducible exact box3_far D_1 | with_reducible exact box3_far D_0) (first | (go_at_call 190; (with_reducible refine (spec_l05CopyS A n c rs _ V_0.out HVO.out h5).mono ?_); rintro e w1 ⟨G1, c1, L, rfl, ho, hh, hb⟩; have HO := Lib.hid ho; have HH := Lib.hid hh; have D_1 := Lib.hid (D_0.out.below hb D_0.out.lt); have ht_1 := Lib.hid (T_0.out.below hb T_0.out.lt); have BW_1 := Lib.hid (BW_d.out.trans (hb.mono BW_d.out.size)); have D_2 := Lib.hid (D_1.out.set3 hne 0 1 2 (.int .i64 P) (.int .i64 K) (.slice (some ⟨G1, 0, none⟩) n c1)); have eht0 := ht_1.out.cell 0; have eht1 := ht_1.out.cell 1; have eht2 := ht_1.out.cell 2; simp at eht0 eht1 eht2; have fht0 := ht_1.out.free 0; have fht1 := ht_1.out.free 1; have fht2 := ht_1.out.free 2; clear ho hh hb))
  go_wp2_with fail
  refine bodyPost_ret (v := .agg #[.int .i64 P, .int .i64 K, (.slice (some ⟨G1, 0, none⟩) n c1)]) (by simp [results, Tryz.results156, eht0, eht1, eht2, go_sem]) rfl ?_
  exact ⟨G1, c1, L, rfl, (HO.out.lower hsz1).box_set3 ht_1.out _ _ _, HH.out, below_store3 BW_1.out (by omega) _ _ _⟩
end Go.Proofs.YthjbfdifeffilaaGreat
namespace Go.Proofs.YthjbfdifeffilaaGreat
set_option maxRecDepth 100000
open Go.RowKit

theorem est_pv_le {P K : Nat} (rs : List RD) : ∀ k, (est P K rs k).pv.length ≤ P
  | 0 => Nat.zero_le _
  | k + 1 => by
    have h := est_pv_le (P := P) (K := K) rs k
    rw [est_succ]
    by_cases hc : (est P K rs k).pv.length < P ∧ AllOk (est P K rs k).rs
    · cases hf : firstRow P K (est P K rs k).rs (est P K rs k).pv.length k with
      | none => rw [estep_none hf]; exact h
      | some i => rw [estep_some hc.1 hc.2 hf]; simp; omega
    · rw [estep_done hc]; exact h
theorem fin_nat (P K : Nat) (rs : List RD) : fin P K rs = est P K rs K := by unfold fin; simp
set_option maxHeartbeats 6400000 in
theorem spec_reduce0 (p k : Int) (A : Option Addr) (n c : Nat) (rs : List RD) (w : World) (h : InV w A n rs) (hp : -9223372036854775808 ≤ p ∧ p ≤ 9223372036854775807) (hk : -9223372036854775808 ≤ k ∧ k ≤ 9223372036854775807) :
    Calls Tryz.prog 100 #[.agg #[.int .i64 p, .int .i64 k, .slice A n c]] w fun e w' => RedMEnd (ReduceIs p k rs) w w' e := by
  obtain ⟨W0, hW0⟩ : ∃ W, W = ((w.alloc (.cells #[.int .i64 p, .int .i64 k, .slice A n c] 25)).alloc (.cells #[.int .i64 0, .int .i64 0, .slice none 0 0] 25)) := ⟨_, rfl⟩
  have hm0_0 : Hid (Box W0 (w.heap.size) 25 #[.int .i64 p, .int .i64 k, .slice A n c]) := by rw [hW0]; exact ((Box.at' (by simp)).alloc _)
  have ht_0 : Hid (Box W0 (w.heap.size + 1) 25 #[.int .i64 0, .int .i64 0, .slice none 0 0]) := by rw [hW0]; exact (Box.at' (by simp))
  have BW_0 : Hid (Below w.heap.size w W0) := by rw [hW0]; exact (((Below.refl w.heap.size w).alloc (by simp) _).alloc (by simp) _)
  have hsz0 : w.heap.size + 1 + 1 ≤ W0.heap.size := by rw [hW0]; simp
  have hn := h.2.1
  have HV := Lib.hid (h.below BW_0.out)
  clear h
  go_enter Tryz.func100, Tryz.ntmps100
  go_wp2_with fail
  rw [← hW0]
  clear hW0
  refine (spec_matrixOk0 p k A n c rs _ HV.out hp hk).mono ?_
  rintro e w1 ⟨b, rfl, hq, hb⟩
  have hm0_1 := Lib.hid (hm0_0.out.below hb hm0_0.out.lt)
  have ht_1 := Lib.hid (ht_0.out.below hb ht_0.out.lt)
  have BW_1 := Lib.hid (BW_0.out.trans (hb.mono BW_0.out.size))
  replace HV := Lib.hid (HV.out.below hb)
  clear hb
  have ehm00 := hm0_1.out.cell 0
  have ehm01 := hm0_1.out.cell 1
  have ehm02 := hm0_1.out.cell 2
  have eht0 := ht_1.out.cell 0
  have eht1 := ht_1.out.cell 1
  have eht2 := ht_1.out.cell 2
  have fht0 := ht_1.out.free 0
  have fht1 := ht_1.out.free 1
  have fht2 := ht_1.out.free 2
  simp at ehm00 ehm01 ehm02 eht0 eht1 eht2
  cases b
  case false =>
    have HZ : Hid (ReduceIs p k rs 0 0 [] [] false) := .inr ⟨fun h => (by have h1 := hq.2 h.1; cases h1), rfl, rfl, rfl, rfl, rfl⟩
    clear hq
    go_wp2_with fail
    refine bodyPost_ret (v := .tuple #[.agg #[.int .i64 0, .int .i64 0, .slice none 0 0], .slice none 0 0, .bool false]) (by simp [results, Tryz.results100, eht0, eht1, eht2, go_sem]) rfl ?_
    exact ⟨0, 0, [], _, [], _, false, rfl, HZ.out, resVI_nil _ _, below_store3 BW_1.out (by omega) _ _ _⟩
  have HM := Lib.hid (hq.1 rfl)
  clear hq
  have hp2 := HM.out.1
  have hk2 := HM.out.2.1
  obtain ⟨P, rfl⟩ : ∃ P : Nat, p = P := ⟨p.toNat, by omega⟩
  obtain ⟨K, rfl⟩ : ∃ K : Nat, k = K := ⟨k.toNat, by omega⟩
  have hP24 : P ≤ 24 := by omega
  have hK24 : K ≤ 24 := by omega
  have HNPK : Hid (n = P * K) := by have h1 := HM.out.plen; rw [HV.out.1] at h1; exact h1
  have hN5 : n ≤ 576 := by rw [HNPK.out]; exact mul_le_576 hP24 hK24
  have hsz1 := BW_1.out.size
  go_wp2_with fail
  clear ehm00 ehm01 ehm02 eht0 fht0 eht1 fht1 eht2 fht2
  refine (spec_l06CopyS P K A n c rs _ HV.out HM.out.all hN5).mono ?_
  rintro e w2 ⟨G, c2, L2, rfl, ho, hh, hb⟩
  obtain ⟨W3, hW3⟩ : ∃ W, W = w2.alloc (.cells #[.int .i64 P, .int .i64 K, .slice (some ⟨G, 0, none⟩) n c2] 25) := ⟨_, rfl⟩
  have hbx : Below w2.heap.size w2 W3 := by rw [hW3]; exact (Below.refl _ _).alloc (Nat.le_refl _) _
  have X_3 : Hid (Box W3 w2.heap.size 25 #[.int .i64 P, .int .i64 K, .slice (some ⟨G, 0, none⟩) n c2]) := by rw [hW3]; exact Box.new _ _ _
  have O3 := Lib.hid (ho.below hbx)
  have HH3 := Lib.hid hh
  have B3 := Lib.hid (hb.trans (hbx.mono hb.size))
  have hs12 := hb.size
  have hs23 := hbx.size
  have hGb : w1.heap.size ≤ G ∧ G < w2.heap.size := own_at0 ho.2.1
  have hb13 : w1.heap.size ≤ W3.heap.size := by omega
  clear ho hh hb hbx
  go_wp2_with fail
  rw [← hW3]
  clear hW3
  refine (spec_l07Reduce w1.heap.size G n c2 P K rs L2 _ O3.out HH3.out HNPK.out HM.out hb13).mono ?_
  rintro e w4 ⟨s, L, Lf, Ap, Af, n4, cp, nf, cf, rfl, hs, hl, hnP, hM, _, hW⟩
  have hne : w2.heap.size ≠ G := by omega
  have X_4 := Lib.hid (wrote_box hW X_3.out hne)
  have B4 := Lib.hid (Wrote.below B3.out hW (fun k hk => by subst hk; exact hGb.1) hb13)
  have M4 := Lib.hid hM
  have HS := Lib.hid hs
  have HL := Lib.hid hl
  have HGD : Hid (Goods s.rs) := by
    have h1 := est_good HM.out K (Nat.le_refl _)
    rw [← hs] at h1
    exact ⟨by rw [h1.2, ← HNPK.out]; omega, h1.1⟩
  have HSL : Hid (s.rs.length = n) := by
    have h1 := (est_good HM.out K (Nat.le_refl _)).2
    rw [← hs, ← HNPK.out] at h1
    exact h1
  have hn20 : n ≤ 1048576 := by omega
  have HI : Hid (InV w4 (some ⟨G, 0, none⟩) n s.rs) := hM.own.in_ hM.has hn20 HGD.out.fits
  have ex0 := X_4.out.cell 0
  have ex1 := X_4.out.cell 1
  have ex2 := X_4.out.cell 2
  simp at ex0 ex1 ex2
  clear hs hl hM hW X_3 O3 B3
  go_wp2_with fail
  clear ex0 ex1 ex2
  refine (spec_l05Fine (some ⟨G, 0, none⟩) n c2 s.rs _ HI.out HGD.out).mono ?_
  rintro e w5 ⟨b5, rfl, hq5, hb5⟩
  have X_5 := Lib.hid (X_4.out.below hb5 X_4.out.lt)
  have M5 := Lib.hid (M4.out.below hb5)
  have B5 := Lib.hid (B4.out.trans (hb5.mono B4.out.size))
  have ht_5 := Lib.hid (ht_1.out.below B5.out ht_1.out.lt)
  have BW_5 := Lib.hid (BW_1.out.trans (B5.out.mono BW_1.out.size))
  have eht0 := ht_5.out.cell 0
  have eht1 := ht_5.out.cell 1
  have eht2 := ht_5.out.cell 2
  have fht0 := ht_5.out.free 0
  have fht1 := ht_5.out.free 1
  have fht2 := ht_5.out.free 2
  simp at eht0 eht1 eht2
  cases b5
  case false =>
    have HZ : Hid (ReduceIs P K rs 0 0 [] [] false) := .inr ⟨(fun h => by have h2 := (Elim.nat.1 h).2; rw [← HS.out] at h2; have h3 := hq5.2 h2; cases h3), rfl, rfl, rfl, rfl, rfl⟩
    clear hq5 hb5
    go_wp2_with fail
    refine bodyPost_ret (v := .tuple #[.agg #[.int .i64 0, .int .i64 0, .slice none 0 0], .slice none 0 0, .bool false]) (by simp [results, Tryz.results100, eht0, eht1, eht2, go_sem]) rfl ?_
    exact ⟨0, 0, [], _, [], _, false, rfl, HZ.out, resVI_nil _ _, below_store3 BW_5.out (by omega) _ _ _⟩
  have HQ : Hid (ReduceIs P K rs P K s.rs (pvs s.pv) true) := .inl ⟨Elim.nat.2 ⟨HM.out, by rw [← HS.out]; exact hq5.1 rfl⟩, rfl, rfl, by rw [fin_nat, ← HS.out], by rw [fin_nat, ← HS.out], rfl⟩
  have ex0 := X_5.out.cell 0
  have ex1 := X_5.out.cell 1
  have ex2 := X_5.out.cell 2
  simp at ex0 ex1 ex2
  clear hq5 hb5
  go_wp2_with fail
  refine bodyPost_ret (v := .tuple #[.agg #[.int .i64 P, .int .i64 K, .slice (some ⟨G, 0, none⟩) n c2], .slice Ap n4 cp, .bool true]) (by simp [results, Tryz.results100, eht0, eht1, eht2, go_sem]) rfl ?_
  exact ⟨P, K, s.rs, _, pvs s.pv, _, true, rfl, HQ.out, (resVI_mk HGD.out HSL.out M5.out.own hsz1 M5.out.has M5.out.piv HL.out (by omega) (off_mono M5.out.off fun x hx => List.mem_append_right _ hx)).box3 ht_5.out _ _ _, below_store3 BW_5.out (by omega) _ _ _⟩
end Go.Proofs.YthjbfdifeffilaaGreat
