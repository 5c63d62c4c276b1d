/- Contracts of the elimination, by the model: Determinant. -/
import Derived.Test.YtibheldbjjdinaaGreatElS3
import Derived.Test.YtibheldbjjdinaaGreatElS4
import Derived.Test.YtibheldbjjdinaaGreatElS5
import Derived.Test.YtibheldbjjdinaaGreatElimR
import Derived.Test.YtibheldbjjdinaaGreatVecB3
import Derived.Deep.RegionWith
namespace Go.Proofs.YtibheldbjjdinaaGreat
set_option maxRecDepth 100000
open Go.RowKit

theorem in_of_own {w : World} {base n c : Nat} {A : Option Addr} {L : List El} {rs : List RD} (hl' : L.length = n) (h : w.ownsRow base 34 3 (.slice A n c) n (flat L)) (he : ∀ e ∈ L, e.own w base) (hh : Has L rs) (hn : n ≤ 1048576) (hf : ∀ r ∈ rs, r.fits) : InV w A n rs := by
  have hl := hh.length
  refine ⟨by omega, hn, ?_⟩
  by_cases h0 : n = 0
  · exact .inl h0
  right
  rcases h.2 with ⟨_, h1⟩ | ⟨g, cap, cur, hv, _, hg, _⟩
  · exact absurd h1 h0
  · cases hv
    refine ⟨g, 0, rfl, ?_, fun j hj => ?_⟩
    · exact (h.lt g rfl).2
    · rw [Nat.zero_add]
      obtain ⟨k0, k1, k2⟩ := flat_at L j (by omega)
      have c0 := (h.cellAt (j * 3) (by omega)).trans k0
      have c1 := (h.cellAt (j * 3 + 1) (by omega)).trans k1
      have c2 := (h.cellAt (j * 3 + 2) (by omega)).trans k2
      obtain ⟨e0, e1, e2, e3, e4⟩ := hh.at_ j (by omega) hj
      obtain ⟨o1, o2, _⟩ := he L[j] (List.getElem_mem _)
      obtain ⟨⟨f1, f2⟩, f3, f4⟩ := hf rs[j] (List.getElem_mem _)
      obtain ⟨A1, d1, hA1⟩ := own_slice o1
      obtain ⟨A2, d2, hA2⟩ := own_slice o2
      rw [hA1, e1, e2] at o1
      rw [hA2, e3, e4] at o2
      rw [e0] at c0
      rw [hA1, e1] at c1
      rw [hA2, e3] at c2
      exact ⟨A1, _, d1, A2, _, d2, c0, c1, c2, ⟨rfl, f1, Reads.of_own o1, f3⟩, room_own o1, ⟨rfl, f2, Reads.of_own o2, f4⟩, room_own o2⟩
theorem est_fs {P K : Nat} {rs : List RD} (h : MOk P K rs) : ∀ k, k ≤ K → (est P K rs k).fs.length ≤ 2 * k ∧ ∀ r ∈ (est P K rs k).fs, r.ok ∨ r = RD.zero
  | 0, _ => ⟨Nat.zero_le _, fun r hr => by simp [est_zero] at hr⟩
  | k + 1, hk => by
    obtain ⟨h1, h2⟩ := est_fs h k (by omega)
    obtain ⟨g1, g2⟩ := est_good h k (by omega)
    rw [est_succ]
    by_cases hc : (est P K rs k).pv.length < P ∧ AllOk (est P K rs k).rs
    · cases hf : firstRow P K (est P K rs k).rs (est P K rs k).pv.length k with
      | none => rw [estep_none hf]; exact ⟨by omega, h2⟩
      | some i =>
        rw [estep_some hc.1 hc.2 hf]
        refine ⟨?_, fun r hr => ?_⟩
        · have : ((if i = (est P K rs k).pv.length then [] else [rint (-1)]) ++ [cell K (est P K rs k).rs i k]).length ≤ 2 := by split <;> simp
          simp only [List.length_append] at this ⊢
          omega
        · simp only [List.mem_append, List.mem_singleton] at hr
          rcases hr with hr | hr | rfl
          · exact h2 r hr
          · split at hr
            · cases hr
            · rw [List.mem_singleton.1 hr]; exact rint_good _
          · exact g1 _ (cell_mem g2 (of_firstRow hf).2.1 (by omega))
    · rw [estep_done hc]; exact ⟨by omega, h2⟩
theorem prod_take {fs : List RD} {i : Nat} {r : RD} (h : fs[i]? = some r) : prod (fs.take (i + 1)) = rmul (prod (fs.take i)) r := by
  rw [List.take_add_one, h]
  exact prod_snoc _ _
theorem detS_no {p k : Int} {rs : List RD} (h : ¬ (Elim p k rs ∧ p = k)) : DeterminantIs p k rs false [] [] false := .inr ⟨h, rfl, rfl⟩
theorem detS_low {p k : Int} {rs : List RD} (h : Elim p k rs ∧ p = k) (hl : ((fin p k rs).pv.length : Int) < p) {g : Bool} {l d : List Int} (hr : RatFromIntIs 0 g l d) : DeterminantIs p k rs g l d true := by
  have e : detv p k rs = R0 := by unfold detv; rw [if_pos hl]
  exact .inl ⟨h, by rw [e, rint_of hr, rint0], by rw [e]; exact ⟨fun _ => R0_ok, fun _ => rfl⟩⟩
theorem detS_prod {p k : Int} {rs : List RD} (h : Elim p k rs ∧ p = k) (hl : (p : Int) ≤ ((fin p k rs).pv.length : Int)) {q : RD} (hq : q = prod (fin p k rs).fs) {b : Bool} (hb : b = true ↔ q.ds = []) : DeterminantIs p k rs q.g q.xs q.ds (!b) := by
  have e : detv p k rs = q := by unfold detv; rw [if_neg (Int.not_lt.2 hl), hq]
  have hg : q.ok ∨ q = RD.zero := by rw [hq]; exact prod_good _
  have hn := good_nil hg
  refine .inl ⟨h, e.symm, ?_⟩
  rw [e]
  cases b
  · exact ⟨fun _ => Classical.byContradiction fun hk => (by have h1 := hb.2 (hn.2 hk); cases h1), fun _ => rfl⟩
  · exact ⟨fun h1 => (by cases h1), fun h1 => absurd h1 (hn.1 (hb.1 rfl))⟩
theorem ratS_end {Q : Bool → List Int → List Int → Bool → Prop} {w W : World} {gb : Nat} {cs : Array Value} {s : Bool} {r ds : List Int} {A B : Option Addr} {c d base1 base2 : Nat} {b : Bool} (hbx : Box W gb 34 cs) (hg : w.heap.size ≤ gb) (hb : Below w.heap.size w W) (hQ : Q s r ds b) (hs1 : r.length ≤ 1048576) (hs2 : ds.length ≤ 1048576)
    (h1 : W.ownsRow base1 3 1 (.slice A r.length c) r.length (r.map (.int .i64))) (hb1 : w.heap.size ≤ base1) (h2 : W.ownsRow base2 3 1 (.slice B ds.length d) ds.length (ds.map (.int .i64))) (hb2 : w.heap.size ≤ base2) (hap : Apart (.slice B ds.length d) (.slice A r.length c)) :
    RatOkEnd Q w (((W.setCell ⟨gb, 0, none⟩ (.bool s)).setCell ⟨gb, 1, none⟩ (.slice A r.length c)).setCell ⟨gb, 2, none⟩ (.slice B ds.length d)) (.returned (.tuple #[.agg #[.bool s, .slice A r.length c, .slice B ds.length d], .bool b])) := by
  obtain ⟨g, l, v, e, u, h1, h2, h3, h4, h5, h6⟩ := ratEnd_store (Q := fun g l d => Q g l d b) hbx hg hb hQ rfl rfl (by omega) (by omega) h1 hb1 h2 hb2 hap
  cases h1
  exact ⟨_, l, _, e, _, b, rfl, h2, h3, h4, h5, h6⟩
set_option maxHeartbeats 12800000 in
theorem spec_determinant0 (p k : Int) (A : Option Addr) (n c : Nat) (rs : List RD) (w : World) (h : InV w A n rs) (hp : -9223372036854775808 ≤ p ∧ p ≤ 9223372036854775807) (hk : -9223372036854775808 ≤ k ∧ k ≤ 9223372036854775807) :
    Calls Tryz.prog 37 #[.agg #[.int .i64 p, .int .i64 k, .slice A n c]] w fun e w' => RatOkEnd (DeterminantIs p k rs) w w' e := by
  obtain ⟨W0, hW0⟩ : ∃ W, W = ((w.alloc (.cells #[.int .i64 p, .int .i64 k, .slice A n c] 25)).alloc (.cells #[.bool false, .slice none 0 0, .slice none 0 0] 34)) := ⟨_, rfl⟩
  have hm0_0 : Hid (Box W0 (w.heap.size) 25 #[.int .i64 p, .int .i64 k, .slice A n c]) := by rw [hW0]; exact ((Box.at' (by simp)).alloc _)
  have hs_0 : Hid (Box W0 (w.heap.size + 1) 34 #[.bool false, .slice none 0 0, .slice none 0 0]) := by rw [hW0]; exact (Box.at' (by simp))
  have BW_0 : Hid (Below w.heap.size w W0) := by rw [hW0]; exact (((Below.refl w.heap.size w).alloc (by simp) _).alloc (by simp) _)
  have hsz0 : w.heap.size + 1 + 1 ≤ W0.heap.size := by rw [hW0]; simp
  have hn := h.2.1
  have HV := Lib.hid (h.below BW_0.out)
  clear h
  go_enter Tryz.func37, Tryz.ntmps37
  go_wp2_with fail
  rw [← hW0]
  clear hW0
  refine (spec_matrixOk0 p k A n c rs _ HV.out hp hk).mono ?_
  rintro e w1 ⟨b, rfl, hq, hb⟩
  have hm0_1 := Lib.hid (hm0_0.out.below hb hm0_0.out.lt)
  have hs_1 := Lib.hid (hs_0.out.below hb hs_0.out.lt)
  have BW_1 := Lib.hid (BW_0.out.trans (hb.mono BW_0.out.size))
  replace HV := Lib.hid (HV.out.below hb)
  clear hb
  have ehm00 := hm0_1.out.cell 0
  have ehm01 := hm0_1.out.cell 1
  have ehm02 := hm0_1.out.cell 2
  have ehs0 := hs_1.out.cell 0
  have ehs1 := hs_1.out.cell 1
  have ehs2 := hs_1.out.cell 2
  have fhs0 := hs_1.out.free 0
  have fhs1 := hs_1.out.free 1
  have fhs2 := hs_1.out.free 2
  simp at ehm00 ehm01 ehm02 ehs0 ehs1 ehs2
  cases b
  case false =>
    have HZ : Hid (DeterminantIs p k rs false [] [] false) := detS_no fun h => (by have h1 := hq.2 h.1.1; cases h1)
    clear hq
    go_wp2_with fail
    refine bodyPost_ret (v := .tuple #[.agg #[.bool false, .slice none 0 0, .slice none 0 0], .bool false]) (by simp [results, Tryz.results37, ehs0, ehs1, ehs2, go_sem]) rfl ?_
    exact ratOkEnd_zero HZ.out (below_store3 BW_1.out (by omega) _ _ _)
  have HM := Lib.hid (hq.1 rfl)
  clear hq
  by_cases hpk : (p != k) = true
  · have HZ : Hid (DeterminantIs p k rs false [] [] false) := detS_no fun h => by simp at hpk; exact hpk h.2
    go_wp2_with fail
    refine bodyPost_ret (v := .tuple #[.agg #[.bool false, .slice none 0 0, .slice none 0 0], .bool false]) (by simp [results, Tryz.results37, ehs0, ehs1, ehs2, go_sem]) rfl ?_
    exact ratOkEnd_zero HZ.out (below_store3 BW_1.out (by omega) _ _ _)
  obtain rfl : p = k := by simpa using hpk
  have hpp : (p != p) = false := by simp
  clear hpk
  have hp2 := HM.out.1
  obtain ⟨P, rfl⟩ : ∃ P : Nat, p = P := ⟨p.toNat, by omega⟩
  have hP24 : P ≤ 24 := by omega
  have HNPK : Hid (n = P * P) := by have h1 := HM.out.plen; rw [HV.out.1] at h1; exact h1
  have hN5 : n ≤ 576 := by rw [HNPK.out]; exact mul_le_576 hP24 hP24
  have hsz1 := BW_1.out.size
  go_wp2_with fail
  clear ehm00 ehm01 ehm02 ehs0 fhs0 ehs1 fhs1 ehs2 fhs2
  refine (spec_l06CopyS P P A n c rs _ HV.out HM.out.all hN5).mono ?_
  rintro e w2 ⟨G, c2, L2, rfl, ho, hh, hb⟩
  obtain ⟨W3, hW3⟩ : ∃ W, W = w2.alloc (.cells #[.int .i64 P, .int .i64 P, .slice (some ⟨G, 0, none⟩) n c2] 25) := ⟨_, rfl⟩
  have hbx : Below w2.heap.size w2 W3 := by rw [hW3]; exact (Below.refl _ _).alloc (Nat.le_refl _) _
  have X_3 : Hid (Box W3 w2.heap.size 25 #[.int .i64 P, .int .i64 P, .slice (some ⟨G, 0, none⟩) n c2]) := by rw [hW3]; exact Box.new _ _ _
  have O3 := Lib.hid (ho.below hbx)
  have HH3 := Lib.hid hh
  have B3 := Lib.hid (hb.trans (hbx.mono hb.size))
  have hs12 := hb.size
  have hs23 := hbx.size
  have hGb : w1.heap.size ≤ G ∧ G < w2.heap.size := own_at0 ho.2.1
  have hb13 : w1.heap.size ≤ W3.heap.size := by omega
  clear ho hh hb hbx
  go_wp2_with fail
  rw [← hW3]
  clear hW3
  refine (spec_l07Reduce w1.heap.size G n c2 P P rs L2 _ O3.out HH3.out HNPK.out HM.out hb13).mono ?_
  rintro e w4 ⟨s, L, Lf, Ap, Af, n4, cp, nf, cf, rfl, hs, hl, hnP, hM, hF, hW⟩
  have hne : w2.heap.size ≠ G := by omega
  have X_4 := Lib.hid (wrote_box hW X_3.out hne)
  have B4 := Lib.hid (Wrote.below B3.out hW (fun k hk => by subst hk; exact hGb.1) hb13)
  have M4 := Lib.hid hM
  have HS := Lib.hid hs
  have HL := Lib.hid hl
  have HHF := Lib.hid hF
  have HGD : Hid (Goods s.rs) := by
    have h1 := est_good HM.out P (Nat.le_refl _)
    rw [← hs] at h1
    exact ⟨by rw [h1.2, ← HNPK.out]; omega, h1.1⟩
  have HGF : Hid (Goods s.fs) := by
    have h1 := est_fs HM.out P (Nat.le_refl _)
    rw [← hs] at h1
    exact ⟨by omega, h1.2⟩
  have HLF : Hid (Lf.length = nf) := by
    have h1 := (hM.fac).1
    rw [flat_length] at h1
    unfold Hid
    omega
  have hnf : nf ≤ 1048576 := by
    have h1 := HGF.out.1
    have h2 := hF.length
    have h3 := HLF.out
    omega
  have HSL : Hid (s.rs.length = n) := by
    have h1 := (est_good HM.out P (Nat.le_refl _)).2
    rw [← hs, ← HNPK.out] at h1
    exact h1
  have hn20 : n ≤ 1048576 := by omega
  have HI : Hid (InV w4 (some ⟨G, 0, none⟩) n s.rs) := hM.own.in_ hM.has hn20 HGD.out.fits
  have HF4 : Hid (InV w4 Af nf s.fs) := in_of_own HLF.out hM.fac hM.fel hF hnf HGF.out.fits
  have ex0 := X_4.out.cell 0
  have ex1 := X_4.out.cell 1
  have ex2 := X_4.out.cell 2
  simp at ex0 ex1 ex2
  clear hs hl hM hW hF X_3 O3 B3
  go_wp2_with fail
  clear ex0 ex1 ex2
  refine (spec_l05Fine (some ⟨G, 0, none⟩) n c2 s.rs _ HI.out HGD.out).mono ?_
  rintro e w5 ⟨b5, rfl, hq5, hb5⟩
  have HF5 := Lib.hid (HF4.out.below hb5)
  have B5 := Lib.hid (B4.out.trans (hb5.mono B4.out.size))
  have hs_5 := Lib.hid (hs_1.out.below B5.out hs_1.out.lt)
  have hm0_5 := Lib.hid (hm0_1.out.below B5.out hm0_1.out.lt)
  have BW_5 := Lib.hid (BW_1.out.trans (B5.out.mono BW_1.out.size))
  have hsz5 := BW_5.out.size
  have ehm00 := hm0_5.out.cell 0
  have ehm01 := hm0_5.out.cell 1
  have ehm02 := hm0_5.out.cell 2
  have ehs0 := hs_5.out.cell 0
  have ehs1 := hs_5.out.cell 1
  have ehs2 := hs_5.out.cell 2
  have fhs0 := hs_5.out.free 0
  have fhs1 := hs_5.out.free 1
  have fhs2 := hs_5.out.free 2
  simp at ehm00 ehm01 ehm02 ehs0 ehs1 ehs2
  cases b5
  case false =>
    have HZ : Hid (DeterminantIs P P rs false [] [] false) := detS_no fun h => (by have h2 := (Elim.nat.1 h.1).2; rw [← HS.out] at h2; have h3 := hq5.2 h2; cases h3)
    clear hq5 hb5
    go_wp2_with fail
    refine bodyPost_ret (v := .tuple #[.agg #[.bool false, .slice none 0 0, .slice none 0 0], .bool false]) (by simp [results, Tryz.results37, ehs0, ehs1, ehs2, go_sem]) rfl ?_
    exact ratOkEnd_zero HZ.out (below_store3 BW_5.out (by omega) _ _ _)
  have HE : Hid (Elim P P rs) := Elim.nat.2 ⟨HM.out, by rw [← HS.out]; exact hq5.1 rfl⟩
  have HPV : Hid ((fin P P rs).pv.length = n4) := by unfold Hid; rw [fin_nat, ← HS.out]; exact HL.out
  have HFS : Hid ((fin P P rs).fs = s.fs) := by unfold Hid; rw [fin_nat, ← HS.out]
  clear hq5 hb5
  by_cases hlt : n4 < P
  · have hlt2 : (n4 : Int) < (P : Int) := by omega
    have HLT : Hid (((fin P P rs).pv.length : Int) < P) := by unfold Hid; rw [HPV.out]; exact hlt2
    go_wp2_with fail
    refine (spec_l05Zero _).mono ?_
    rintro e w6 ⟨g3, l3, v3, x3, y3, rfl, hq3, q1, q2, hap, hb3⟩
    obtain ⟨A3, c3, rfl⟩ := own_slice q1.2
    obtain ⟨B3, d3, rfl⟩ := own_slice q2.2
    have hs_6 := Lib.hid (hs_5.out.below hb3 hs_5.out.lt)
    have BW_6 := Lib.hid (BW_5.out.trans (hb3.mono BW_5.out.size))
    have HD : Hid (DeterminantIs P P rs g3 l3 x3 true) := detS_low ⟨HE.out, rfl⟩ HLT.out hq3
    have HO1 := Lib.hid q1.2
    have HO2 := Lib.hid q2.2
    have HAP := Lib.hid hap
    obtain ⟨rfl, rfl, rfl⟩ := RD.mk.inj ((rint_of hq3).trans rint0)
    clear ehm00 ehm01 ehm02 ehs0 fhs0 ehs1 fhs1 ehs2 fhs2
    have ehs0 := hs_6.out.cell 0
    have ehs1 := hs_6.out.cell 1
    have ehs2 := hs_6.out.cell 2
    have fhs0 := hs_6.out.free 0
    have fhs1 := hs_6.out.free 1
    have fhs2 := hs_6.out.free 2
    simp at ehs0 ehs1 ehs2
    clear hq3 q1 q2 hap hb3
    go_wp2_with fail
    refine bodyPost_ret (v := .tuple #[.agg #[.bool false, .slice A3 ([] : List Int).length c3, .slice B3 ([1] : List Int).length d3], .bool true]) (by simp [results, Tryz.results37, ehs0, ehs1, ehs2, go_sem]) rfl ?_
    exact ratS_end hs_6.out (by omega) BW_6.out HD.out (by decide) (by decide) HO1.out hsz5 HO2.out hsz5 HAP.out
  have hlt2 : ¬ ((n4 : Int) < (P : Int)) := by omega
  have HLT : Hid ((P : Int) ≤ ((fin P P rs).pv.length : Int)) := by unfold Hid; rw [HPV.out]; omega
  go_wp2_with fail
  clear ehm00 ehm01 ehm02 ehs0 fhs0 ehs1 fhs1 ehs2 fhs2
  refine (spec_ratFromInt 1 _ (by omega)).mono ?_
  rintro e w6 ⟨g, r, v, dd, u, rfl, hq, q1, q2, hap, hb⟩
  obtain ⟨A6, c6, rfl⟩ := own_slice q1.2
  obtain ⟨B6, d6, rfl⟩ := own_slice q2.2
  have HR0 : Hid (RD.mk g r dd = prod (s.fs.take 0)) := by
    unfold Hid
    rw [List.take_zero, prod_nil]
    exact (rint_of hq).trans rint1
  have hs_6 := Lib.hid (hs_5.out.below hb hs_5.out.lt)
  have HF6 := Lib.hid (HF5.out.below hb)
  have BW_6 := Lib.hid (BW_5.out.trans (hb.mono BW_5.out.size))
  have HB6 : Hid (Below w6.heap.size w6 (w6.alloc (.cells #[.bool g, .slice A6 r.length c6, .slice B6 dd.length d6] 34))) := (Below.refl _ _).alloc (Nat.le_refl _) _
  have S0 : Hid (RSum (w6.alloc (.cells #[.bool g, .slice A6 r.length c6, .slice B6 dd.length d6] 34)) w.heap.size w6.heap.size ⟨g, r, dd⟩ A6 c6 B6 d6) :=
    ⟨Box.new _ _ _, own_base (q1.2.alloc _) BW_5.out.size, own_base (q2.2.alloc _) BW_5.out.size, hap⟩
  have hsz6 := BW_6.out.size
  have hslt := hs_6.out.lt
  have HNE : Hid (w6.heap.size ≠ w.heap.size + 1) := by unfold Hid; omega
  clear hq q1 q2 hap hb
  go_wp2_with fail
  go_loopw [42] (fun y wr => ∃ (i : Nat) (q : RD) (As : Option Addr) (cs : Nat) (Bs : Option Addr) (ds : Nat), i ≤ nf ∧ y = .int .i64 i ∧ Hid (q = prod (s.fs.take i)) ∧ Hid (RSum wr w.heap.size w6.heap.size q As cs Bs ds) ∧ Hid (Below w6.heap.size w6 wr)) (fun y _ => nf - (intOf y).toNat)
  case atStart => exact ⟨0, _, _, _, _, _, Nat.zero_le _, rfl, HR0, S0, HB6⟩
  case round =>
    obtain ⟨i, q, As, cs, Bs, ds, hle, rfl, heq, hsum, hb⟩ := hrel
    have HG : Hid (q.ok ∨ q = RD.zero) := by rw [heq.out]; exact prod_good _
    by_cases hlt : i < nf
    · obtain ⟨b1, o1, rfl, hb1, r1, hr1, A3, n3, c3, B3, m3, d3, at1, i1, ra1, j1, rb1⟩ := HF6.out.atB hb.out i hlt
      have hi0 : (0 : Int) ≤ (i : Int) := by omega
      have hi1 : (i : Int) < (nf : Int) := by omega
      have hw0 : w6.heap.size ≤ wr.heap.size := hb.out.size
      have GR : Hid (r1.ok ∨ r1 = RD.zero) := HGF.out.2 _ (List.mem_of_getElem? hr1)
      have HPR : Hid (prod (s.fs.take (i + 1)) = rmul q r1) := by rw [heq.out]; exact prod_take hr1
      have hbx : Below wr.heap.size wr (wr.alloc (.cells #[.bool r1.g, .slice A3 n3 c3, .slice B3 m3 d3] 34)) := (Below.refl _ _).alloc (Nat.le_refl _) _
      have B7 := Lib.hid (hb.out.trans (hbx.mono hw0))
      have S7 := Lib.hid (hsum.out.below hbx)
      have I1 := Lib.hid (i1.below hbx)
      have J1 := Lib.hid (j1.below hbx)
      have RA1 := Lib.hid ra1
      have RB1 := Lib.hid rb1
      have hn3 := i1.2.1
      have hm3 := j1.2.1
      obtain ⟨e10, e11, e12⟩ := at1
      obtain ⟨es0, es1, es2, _, _, _⟩ := S7.out.three
      have hb7s := B7.out.size
      have hbws := hbx.size
      clear i1 j1 hr1 ra1 rb1 hbx
      go_wp2_with fail
      clear e10 e11 e12 es0 es1 es2
      refine (spec_l04MulG q.g As q.xs.length cs q.xs Bs q.ds.length ds q.ds r1.g A3 n3 c3 r1.xs B3 m3 d3 r1.ds _ (S7.out.in1 HG.out) S7.out.room1 (S7.out.in2 HG.out) S7.out.room2 I1.out RA1.out J1.out RB1.out (RD.gr HG.out) (RD.gr GR.out)).mono ?_
      rintro e w8 ⟨g8, r8, v8, dd8, u8, rfl, hq8, q1, q2, hap8, hb8⟩
      obtain ⟨A8, c8, rfl⟩ := own_slice q1.2
      obtain ⟨B8, d8, rfl⟩ := own_slice q2.2
      have HQ8 : Hid (RD.mk g8 r8 dd8 = prod (s.fs.take (i + 1))) := (rmul_of (r := q) (s := r1) hq8).trans HPR.out.symm
      have hst := sum_store (q := ⟨g8, r8, dd8⟩) (W := w6) (base := w.heap.size) (S7.out.below hb8).1 rfl q1.2 q2.2 (by omega) hap8 (B7.out.trans (hb8.mono B7.out.size)) (Nat.le_refl _)
      have HS9 := Lib.hid hst.1
      have HB9 := Lib.hid hst.2
      obtain ⟨fc0, fc1, fc2, fs0, fs1, fs2⟩ := (S7.out.below hb8).three
      clear hq8 q1 q2 hap8 hb8 hst
      go_wp2_with fail
      go_roundw
      case rel => exact ⟨i + 1, ⟨g8, r8, dd8⟩, A8, c8, B8, d8, by omega, by go_num, HQ8, HS9, HB9⟩
      case measure => simp [intOf]; omega
    · obtain rfl : i = nf := by omega
      have hq0 : q = prod (fin P P rs).fs := by
        rw [heq.out, HFS.out, List.take_of_length_le]
        have h1 := HF6.out.1
        omega
      have HQ0 := Lib.hid hq0
      have S8 := Lib.hid hsum.out.drew
      have hs_8 := Lib.hid (hs_6.out.below hb.out hs_6.out.lt).drew
      have BW_8 := Lib.hid (BW_6.out.trans (hb.out.mono BW_6.out.size)).drew
      have hsh := (RD.gr HG.out).short
      have hsh1 := hsh.1
      have hsh2 := hsh.2
      clear hsh hq0 hsum hb
      go_wp2_with fail
      go_region_held3 (fun w' => w'.cell? ⟨w6.heap.size, 0, none⟩ = some (.bool q.g) ∧ w'.cell? ⟨w6.heap.size, 1, none⟩ = some (.slice As q.xs.length cs) ∧ w'.cell? ⟨w6.heap.size, 2, none⟩ = some (.slice Bs q.ds.length ds)) (first | with_reducible exact sum3far S_1 HNE _ _ _ | with_reducible exact sum3 S_1 | with_reducible exact sum3 S8) (first | (go_at_call 80; (with_reducible refine (spec_l05Bad q.g As q.xs.length cs Bs q.ds.length ds q.ds _ rfl (by omega)).mono ?_); rintro e w9 ⟨b, rfl, hi, hb9⟩; have HI9 := Lib.hid hi; have S_1 := Lib.hid (S8.out.below hb9); have hs_9 := Lib.hid (hs_8.out.below hb9 hs_8.out.lt); have BW_9 := Lib.hid (BW_8.out.trans (hb9.mono BW_8.out.size)); clear hi hb9; have ehs0 := hs_9.out.cell 0; have fhs0 := hs_9.out.free 0; have ehs1 := hs_9.out.cell 1; have fhs1 := hs_9.out.free 1; have ehs2 := hs_9.out.cell 2; have fhs2 := hs_9.out.free 2; simp at ehs0 ehs1 ehs2))
      have HQF : Hid (DeterminantIs P P rs q.g q.xs q.ds (!b)) := detS_prod ⟨HE.out, rfl⟩ HLT.out HQ0.out HI9.out
      go_wp2_with fail
      refine bodyPost_ret (v := .tuple #[.agg #[.bool q.g, .slice As q.xs.length cs, .slice Bs q.ds.length ds], .bool (!b)]) (by simp [results, Tryz.results37, ehs0, ehs1, ehs2, go_sem]) rfl ?_
      exact ratOkEnd_sum hs_9.out (by omega) BW_9.out HQF.out HG.out S_1.out
theorem spec_determinant (p k : Int) (A : Option Addr) (n c : Nat) (rs : List RD) (w : World) (h : InV w A n rs) (hp : -9223372036854775808 ≤ p ∧ p ≤ 9223372036854775807) (hk : -9223372036854775808 ≤ k ∧ k ≤ 9223372036854775807) (_hc : n ≤ c) :
    Calls Tryz.prog 37 #[.agg #[.int .i64 p, .int .i64 k, .slice A n c]] w fun e w' => ∃ g r v d u b, e = .returned (.tuple #[.agg #[.bool g, v, u], .bool b]) ∧ DeterminantIs p k rs g r d b ∧ ResI w w' v r ∧ ResI w w' u d ∧ Apart u v ∧ Below w.heap.size w w' := (spec_determinant0 p k A n c rs w h hp hk).mono fun _ _ h => h.said
end Go.Proofs.YtibheldbjjdinaaGreat
