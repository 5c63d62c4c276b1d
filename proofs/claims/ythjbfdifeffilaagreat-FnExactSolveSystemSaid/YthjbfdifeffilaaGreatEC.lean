/- Contracts of the elimination, by the model: Inverse; SolveSystem as a whole. -/
import Derived.Test.YthjbfdifeffilaaGreatEB
import Derived.Test.YthjbfdifeffilaaGreatMatS3
import Derived.Test.YthjbfdifeffilaaGreatGV
import Derived.Deep.RegionLaw
namespace Go.Proofs.YthjbfdifeffilaaGreat
set_option maxRecDepth 100000
open Go.RowKit Go.Deep

theorem OwnV.blk_lt {w : World} {base k o N c : Nat} {L : List El} (h : OwnV w base (.slice (some ⟨k, o, none⟩) N c) N L) : base ≤ k ∧ k < w.heap.size := h.2.1.lt k rfl
theorem own_box_neE {w : World} {base G o N c : Nat} {L : List El} {cs : Array Value} (h : OwnV w base (.slice (some ⟨G, o, none⟩) N c) N L) (hb : Box w G 25 cs) : False := by
  rcases h.2.1.2 with ⟨hv, _⟩ | ⟨g, cap, cur, hv, _, hg, _⟩
  · cases hv
  · cases hv
    unfold Box at hb
    rw [hg] at hb
    injection hb with hb
    injection hb with _ hb
    cases hb
theorem inv_from {P : Nat} {rs r : List RD} {a b : Int} {ok : Bool} (hm : MOk P P rs) (hP : P ≤ 12) (h : (SysOk P P rs (ident P) ∧ a = P ∧ b = P ∧ r = sysR P P rs (ident P) ∧ ok = true) ∨ (¬ SysOk P P rs (ident P) ∧ a = 0 ∧ b = 0 ∧ r = [] ∧ ok = false)) : InverseIs P P rs a b r ok := by
  rcases h with ⟨h1, h2, h3, h4, h5⟩ | ⟨h1, h2⟩
  · exact .inl ⟨⟨⟨hm, rfl, by omega⟩, h1⟩, h2, h3, h4, h5⟩
  · exact .inr ⟨fun h => h1 h.2, h2⟩
theorem inverse_no {p k : Int} {rs : List RD} (h : ¬ (MOk p k rs ∧ p = k ∧ p ≤ 12)) : InverseIs p k rs 0 0 [] false := .inr ⟨fun h1 => h h1.1, rfl, rfl, rfl, rfl⟩
theorem spec_l07BesideN (P : Nat) (A : Option Addr) (n c : Nat) (rs : List RD) (m : Nat) (B : Option Addr) (d : Nat) {Q N : Nat} (w : World) (h1 : InV w A n rs) (h2 : InV w B m (ident P)) (hmP : m = P * P) (hnP : n = P * P) (hcn : n ≤ c) (hcm : m ≤ d) (k1 : MOk P P rs) (k2 : MOk P P (ident P)) (hP24 : P ≤ 24) (hQ : Q = P + P) (hN : N = P * Q) :
    Calls Tryz.prog 152 #[.agg #[.int .i64 P, .int .i64 P, .slice A n c], .agg #[.int .i64 P, .int .i64 P, .slice B m d]] w fun e w' => ∃ A L c, e = .returned (.agg #[.int .i64 P, .int .i64 Q, .slice A N c]) ∧ OwnV w' w.heap.size (.slice A N c) N L ∧ Has L (besTo P P rs (ident P) P) ∧ Below w.heap.size w w' := by
  refine (spec_l07Beside P P A n c rs P P B m d (ident P) w h1 h2 hnP hmP hcn hcm k1.all k2.all hP24 hP24 hP24).mono ?_
  rintro e w' hbe
  obtain ⟨A2, L, c2, N', hN', rfl, h3, h4, h5⟩ := BesideEnd.nat hbe hQ
  obtain rfl : N' = N := by rw [hN', hN]
  exact ⟨A2, L, c2, rfl, h3, h4, h5⟩
theorem hold_in {P : Nat} {w w' : World} {e : Ending} (h : HoldMEnd P P (ident P) w w' e) (hm : MOk P P (ident P)) : ∃ A c n, n = P * P ∧ e = .returned (.agg #[.int .i64 P, .int .i64 P, .slice A n c]) ∧ n ≤ c ∧ InV w' A n (ident P) ∧ Below w.heap.size w w' := by
  obtain ⟨A, c, L, rfl, ho, hh, hb⟩ := h
  have hP := (mok_24 hm).1
  have h5 := mul_le_576 hP hP
  exact ⟨A, c, _, rfl, rfl, own_le ho.2.1, ho.in_ hh (by omega) (fun r hr => (Goods.fits ⟨by have := mok_plen hm; omega, fun x hx => .inl (hm.all x hx)⟩) r hr), hb⟩
set_option maxHeartbeats 12800000 in
theorem spec_l07Inverse (P : Nat) (A : Option Addr) (n c : Nat) (rs : List RD) (w : World) (h1 : InV w A n rs) (hm : MOk P P rs) (hcn : n ≤ c) (hP12 : P ≤ 12) :
    Calls Tryz.prog 96 #[.agg #[.int .i64 P, .int .i64 P, .slice A n c]] w fun e w' => MatOkEnd (InverseIs P P rs) w w' e := by
  obtain ⟨i0, hi, hz0, hz1, hz2⟩ := info_parts Tryz.infoR
  obtain ⟨W0, hW0⟩ : ∃ W, W = ((w.alloc (.cells #[.int .i64 P, .int .i64 P, .slice A n c] 25)).alloc (.cells #[.int .i64 0, .int .i64 0, .slice none 0 0] 25)) := ⟨_, rfl⟩
  have hm0_0 : Hid (Box W0 (w.heap.size) 25 #[.int .i64 P, .int .i64 P, .slice A n c]) := by rw [hW0]; exact ((Box.at' (by simp)).alloc _)
  have ht_0 : Hid (Box W0 (w.heap.size + 1) 25 #[.int .i64 0, .int .i64 0, .slice none 0 0]) := by rw [hW0]; exact (Box.at' (by simp))
  have BW_0 : Hid (Below w.heap.size w W0) := by rw [hW0]; exact (((Below.refl w.heap.size w).alloc (by simp) _).alloc (by simp) _)
  have hsz0 : w.heap.size + 1 + 1 ≤ W0.heap.size := by rw [hW0]; simp
  have H1 := Lib.hid (h1.below BW_0.out)
  have hnP : n = P * P := by rw [← h1.1]; exact mok_plen hm
  have HNP := Lib.hid hnP
  have HM := Lib.hid hm
  have hP24 : P ≤ 24 := by omega
  have HV : Hid (MOk P P (ident P)) := ident_mok hP24
  obtain ⟨Q, hQ⟩ : ∃ Q, Q = P + P := ⟨_, rfl⟩
  obtain ⟨N, hN⟩ : ∃ N, N = P * Q := ⟨_, rfl⟩
  have HQQ := Lib.hid hQ
  have HNN := Lib.hid hN
  have hQ24 : Q ≤ 24 := by omega
  have hN5 : N ≤ 576 := by rw [hN]; exact mul_le_576 hP24 hQ24
  have hsz0' := BW_0.out.size
  have hlt0 := hm0_0.out.lt
  have hltt := ht_0.out.lt
  clear h1 hm hnP hQ hN
  go_enter Tryz.func96, Tryz.ntmps96
  go_wp2_with fail
  rw [← hW0]
  clear hW0
  have ehm00 := hm0_0.out.cell 0
  have ehm01 := hm0_0.out.cell 1
  have ehm02 := hm0_0.out.cell 2
  simp at ehm00 ehm01 ehm02
  go_upto_region 2 with fail
  clear ehm00 ehm01 ehm02
  go_cut [5] (fun s5 wx => ∃ (gb : Nat) (A2 : Option Addr) (c2 : Nat) (L1 : List El), s5 = .pointer (some ⟨gb, 0, none⟩) ∧ W0.heap.size ≤ gb ∧ Hid (Box wx gb 25 #[.int .i64 P, .int .i64 Q, .slice A2 N c2]) ∧ Hid (OwnV wx W0.heap.size (.slice A2 N c2) N L1) ∧ Hid (Has L1 (besTo P P rs (ident P) P)) ∧ Hid (Below W0.heap.size W0 wx))
  case first =>
    have BD : Hid (Below W0.heap.size W0 W0.drew) := (Below.refl _ _).drew
    have Xa := Lib.hid hm0_0.out.drew
    have Ia : Hid (InV W0.drew A n rs) := H1.out.below (Below.refl _ _).drew
    go_region_held3 (fun w' => w'.cell? ⟨w.heap.size, 0, none⟩ = some (.int .i64 P) ∧ w'.cell? ⟨w.heap.size, 1, none⟩ = some (.int .i64 P) ∧ w'.cell? ⟨w.heap.size, 2, none⟩ = some (.slice A n c)) (first | with_reducible exact box3_far Xa | with_reducible exact box3_far (hAlloc Xa _) | with_reducible exact box3_far (hFar3 Xa (by have := NB.out; have := BD.out.size; omega) _ _ _) | with_reducible exact box3_far (hFar3 (hAlloc Xa _) (by have := BD.out.size; omega) _ _ _) | with_reducible exact box3_far (hDrew (hAlloc hm0_0 _))) (first | (go_at_call 152; first | ((with_reducible refine (spec_l07BesideN P A n c rs N1 A1 c1 _ Ia.out It.out HN1.out HNP.out hcn hc1 HM.out HV.out hP24 HQQ.out HNN.out).mono ?_); rintro e w11 ⟨Aba, L, cba, rfl, ho, hh, hb⟩; have Oba := Lib.hid (ho.lower BD.out.size); have Hba := Lib.hid hh; replace BD := Lib.hid (BD.out.trans (hb.mono BD.out.size)); replace Xa := Lib.hid (Xa.out.below hb Xa.out.lt); (try (replace NN := Lib.hid (NN.out.below hb NN.out.lt); have eN0 := NN.out.cell 0; have eN1 := NN.out.cell 1; have eN2 := NN.out.cell 2; simp at eN0 eN1 eN2; have fN0 := NN.out.free 0; have fN1 := NN.out.free 1; have fN2 := NN.out.free 2)); clear ho hh hb) | (have NB : Hid (W0.heap.size ≤ w10.heap.size) := BD.out.size; have NN := Lib.hid (Box.new w10 25 #[.int .i64 0, .int .i64 0, .slice none 0 0]); replace Xa := Lib.hid (Xa.out.alloc (.cells #[.int .i64 0, .int .i64 0, .slice none 0 0] 25)); replace Ia := Lib.hid (Ia.out.below ((Below.refl _ _).alloc (Nat.le_refl _) (.cells #[.int .i64 0, .int .i64 0, .slice none 0 0] 25))); replace It := Lib.hid (It.out.below ((Below.refl _ _).alloc (Nat.le_refl _) (.cells #[.int .i64 0, .int .i64 0, .slice none 0 0] 25))); replace BD := Lib.hid (BD.out.alloc BD.out.size (.cells #[.int .i64 0, .int .i64 0, .slice none 0 0] 25)); ((with_reducible refine (spec_l07BesideN P A n c rs N1 A1 c1 _ Ia.out It.out HN1.out HNP.out hcn hc1 HM.out HV.out hP24 HQQ.out HNN.out).mono ?_); rintro e w11 ⟨Aba, L, cba, rfl, ho, hh, hb⟩; have Oba := Lib.hid (ho.lower BD.out.size); have Hba := Lib.hid hh; replace BD := Lib.hid (BD.out.trans (hb.mono BD.out.size)); replace Xa := Lib.hid (Xa.out.below hb Xa.out.lt); (try (replace NN := Lib.hid (NN.out.below hb NN.out.lt); have eN0 := NN.out.cell 0; have eN1 := NN.out.cell 1; have eN2 := NN.out.cell 2; simp at eN0 eN1 eN2; have fN0 := NN.out.free 0; have fN1 := NN.out.free 1; have fN2 := NN.out.free 2)); clear ho hh hb))) | (go_at_call 137; first | ((with_reducible refine (spec_l06Identity P _ hP24).mono ?_); rintro e w10 hid10; obtain ⟨A1, c1, N1, hN1, rfl, hc1, hit, hb⟩ := hold_in hid10 HV.out; have It := Lib.hid hit; have HN1 := Lib.hid hN1; replace BD := Lib.hid (BD.out.trans (hb.mono BD.out.size)); replace Xa := Lib.hid (Xa.out.below hb Xa.out.lt); replace Ia := Lib.hid (Ia.out.below hb); (try (replace NN := Lib.hid (NN.out.below hb NN.out.lt))); clear hit hb hN1 hid10) | (have NB : Hid (W0.heap.size ≤ W0.heap.size) := Nat.le_refl _; have NN := Lib.hid (Box.new W0 25 #[.int .i64 0, .int .i64 0, .slice none 0 0]).drew; replace Xa := Lib.hid (hm0_0.out.alloc (.cells #[.int .i64 0, .int .i64 0, .slice none 0 0] 25)).drew; replace Ia := Lib.hid (H1.out.below ((Below.refl _ _).alloc (Nat.le_refl _) (.cells #[.int .i64 0, .int .i64 0, .slice none 0 0] 25)).drew); replace BD : Hid (Below W0.heap.size W0 (W0.alloc (.cells #[.int .i64 0, .int .i64 0, .slice none 0 0] 25)).drew) := ((Below.refl _ _).alloc (Nat.le_refl _) _).drew; ((with_reducible refine (spec_l06Identity P _ hP24).mono ?_); rintro e w10 hid10; obtain ⟨A1, c1, N1, hN1, rfl, hc1, hit, hb⟩ := hold_in hid10 HV.out; have It := Lib.hid hit; have HN1 := Lib.hid hN1; replace BD := Lib.hid (BD.out.trans (hb.mono BD.out.size)); replace Xa := Lib.hid (Xa.out.below hb Xa.out.lt); replace Ia := Lib.hid (Ia.out.below hb); (try (replace NN := Lib.hid (NN.out.below hb NN.out.lt))); clear hit hb hN1 hid10))))
    all_goals (have zz := BD.out.size; go_wp2_with fail; go_meet; first | exact ⟨_, _, _, _, rfl, zz, Box.new _ _ _, (Oba.out.alloc _), Hba, BD.out.alloc BD.out.size _⟩ | exact ⟨_, _, _, _, rfl, NB.out, (((NN.out.set_ 0 _).set_ 1 _).set_ 2 _), (Oba.out.box_set3 NN.out _ _ _), Hba, (((BD.out.setCell NB.out _).setCell NB.out _).setCell NB.out _)⟩)
  obtain ⟨gb, A2, c2, L1, rfl, hgb0, X_3, O3', HH1, hbh⟩ := hcut
  have hb := hbh.out
  clear hbh
  obtain ⟨W3, rfl⟩ : ∃ q, q = wc := ⟨_, rfl⟩
  have O3 := Lib.hid (O3'.out.lower hsz0')
  have hm0_3 := Lib.hid (hm0_0.out.below hb hm0_0.out.lt)
  have ht_3 := Lib.hid (ht_0.out.below hb ht_0.out.lt)
  have BW_3 := Lib.hid (BW_0.out.trans (hb.mono BW_0.out.size))
  clear hb
  have MZ : Hid (MOk P Q (besTo P P rs (ident P) P)) := by rw [HQQ.out]; exact besTo_mok HM.out HV.out (by have := HQQ.out; omega)
  have hbase3 : w.heap.size ≤ W3.heap.size := BW_3.out.size
  have hA2 : Hid (∀ k o, A2 = some ⟨k, o, none⟩ → W0.heap.size ≤ k ∧ k ≠ gb) := by
    rintro k o rfl
    refine ⟨O3'.out.blk_lt.1, ?_⟩
    rintro rfl
    exact own_box_neE O3'.out X_3.out
  have ex0 := X_3.out.cell 0
  have ex1 := X_3.out.cell 1
  have ex2 := X_3.out.cell 2
  simp at ex0 ex1 ex2
  go_wp2_with fail
  clear ex0 ex1 ex2
  refine (spec_l07ReduceU w.heap.size P Q N A2 c2 (besTo P P rs (ident P) P) L1 _ O3.out HH1.out HNN.out MZ.out hbase3 (fun _ => by have := HQQ.out; omega)).mono ?_
  rintro e w4 ⟨s, L2, Ap, Af, np, cp, nf, cf, rfl, hs, hpl, hnP, ho, hh, hpr, hW⟩
  have hs' : s = sysE P P rs (ident P) := by rw [hs, HQQ.out]; rfl
  subst hs'
  have B_4 : Hid (Below w.heap.size w w4) := Wrote.below BW_3.out hW (fun k ⟨o, hk⟩ => by have := (hA2.out k o hk).1; omega) hbase3
  have X_4 : Hid (Box w4 gb 25 #[.int .i64 P, .int .i64 Q, .slice A2 N c2]) := (hW.block _ X_3.out.lt (fun ⟨o, hk⟩ => (hA2.out _ o hk).2 rfl)).trans X_3.out
  have ht_4 : Hid (Box w4 (w.heap.size + 1) 25 #[.int .i64 0, .int .i64 0, .slice none 0 0]) := (hW.block _ ht_3.out.lt (fun ⟨o, hk⟩ => by have := (hA2.out _ o hk).1; omega)).trans ht_3.out
  have HPL := Lib.hid hpl
  have O4 := Lib.hid ho
  have HH2 := Lib.hid hh
  have HPR := Lib.hid hpr
  have HEl : Hid ((sysE P P rs (ident P)).rs.length = P * Q) := by
    have h1 := (est_good (P := P) (K := Q) MZ.out Q (Nat.le_refl _)).2
    rw [HQQ.out] at h1 ⊢
    exact h1
  have HGE : Hid (Goods (sysE P P rs (ident P)).rs) := by
    have h1 := (est_good (P := P) (K := Q) MZ.out Q (Nat.le_refl _)).1
    have h2 : Q = P + P := HQQ.out
    subst h2
    exact ⟨by rw [HEl.out, ← HNN.out]; omega, h1⟩
  have HI4 : Hid (InV w4 A2 N (sysE P P rs (ident P)).rs) := ho.in_ hh (by omega) HGE.out.fits
  have hpc : Hid ((sysE P P rs (ident P)).pv.length ≤ P) := by unfold Hid; omega
  clear hs hpl ho hh hpr hW
  go_upto_region 4 with fail
  go_cut [44] (fun s47 wx => ∃ b, s47 = .bool b ∧ Hid (GuardB b (¬ SysOk P P rs (ident P))) ∧ Hid (Below w4.heap.size w4 wx))
  case first =>
    have ex0 := X_4.out.cell 0
    have ex1 := X_4.out.cell 1
    have ex2 := X_4.out.cell 2
    simp at ex0 ex1 ex2
    go_wp2_with fail
    clear ex0 ex1 ex2
    refine (spec_l05Fine A2 N c2 (sysE P P rs (ident P)).rs _ HI4.out HGE.out).mono ?_
    rintro e w5 ⟨b5, rfl, hq5, hb5⟩
    have HB5 := Lib.hid hb5
    have HPR5 : Hid (Reads w5 Ap (ivals (sysE P P rs (ident P)).pv)) := HPR.out.below hb5
    cases b5
    case false =>
      have HG : Hid (GuardB true (¬ SysOk P P rs (ident P))) := ⟨fun _ => sys_bad fun h => (by have h1 := hq5.2 h; cases h1), fun _ => rfl⟩
      clear hq5 hb5
      go_wp2_with fail
      go_meet
      exact ⟨_, rfl, HG, HB5⟩
    have HA5 : Hid (AllOk (sysE P P rs (ident P)).rs) := hq5.1 rfl
    clear hq5 hb5
    by_cases hlt : np < P
    · have hlt' : (np : Int) < (P : Int) := by omega
      have HG : Hid (GuardB true (¬ SysOk P P rs (ident P))) := ⟨fun _ => sys_len HPL.out hlt, fun _ => rfl⟩
      go_wp2_with fail
      go_meet
      exact ⟨_, rfl, HG, HB5⟩
    have hlt' : ¬ (np : Int) < (P : Int) := by omega
    by_cases hP0 : P = 0
    · have hp0 : ¬ (0 : Int) < (P : Int) := by omega
      have HG : Hid (GuardB false (¬ SysOk P P rs (ident P))) := ⟨fun h => (by cases h), fun h => absurd (sys_none hP0 HA5.out hpc.out) h⟩
      clear hP0
      go_wp2_with fail
      go_meet
      exact ⟨_, rfl, HG, HB5⟩
    · have hp0 : (0 : Int) < (P : Int) := by omega
      obtain ⟨p1, hp1⟩ : ∃ p1, P = p1 + 1 := ⟨P - 1, by omega⟩
      have hsub : (P : Int) - 1 = (p1 : Int) := by omega
      have hlen : (sysE P P rs (ident P)).pv.length = P := by have h1 := HPL.out; omega
      have hix : p1 < (sysE P P rs (ident P)).pv.length := by omega
      obtain ⟨z, hzz⟩ : ∃ z, (sysE P P rs (ident P)).pv[p1] = z := ⟨_, rfl⟩
      have hz : (sysE P P rs (ident P)).pv[p1]? = some z := by rw [List.getElem?_eq_getElem hix, hzz]
      obtain ⟨b, o, hAp, hb, hc⟩ := HPR5.out.at_ (by rw [ivals_length]; omega)
      have hcell : w5.cell? ⟨b, o + p1, none⟩ = some (.int .i64 (z : Int)) := (hc p1 (by rw [ivals_length]; exact hix)).trans (by simp [ivals, hzz])
      have HSL := Lib.hid (sys_last hp1 HA5.out hlen hz)
      subst hAp
      have hi0 : (0 : Int) ≤ (p1 : Int) := by omega
      have hi1 : (p1 : Int) < (np : Int) := by omega
      clear hp1 hlen hzz hz hc hP0 hix
      by_cases hzp : z = p1
      · have ht : ((z : Int) != (p1 : Int)) = false := by simp; omega
        have HG : Hid (GuardB false (¬ SysOk P P rs (ident P))) := ⟨fun h => (by cases h), fun h => absurd (HSL.out.2 hzp) h⟩
        clear hzp
        go_wp2_with fail
        go_meet
        exact ⟨_, rfl, HG, HB5⟩
      · have ht : ((z : Int) != (p1 : Int)) = true := by simp; omega
        have HG : Hid (GuardB true (¬ SysOk P P rs (ident P))) := ⟨fun _ => fun h => hzp (HSL.out.1 h), fun _ => rfl⟩
        clear hzp
        go_wp2_with fail
        go_meet
        exact ⟨_, rfl, HG, HB5⟩
  obtain ⟨b47, rfl, hgd, hbh⟩ := hcut
  have hb := hbh.out
  clear hbh
  obtain ⟨w5, rfl⟩ : ∃ q, q = wc := ⟨_, rfl⟩
  have X_5 := Lib.hid (X_4.out.below hb X_4.out.lt)
  have O5 := Lib.hid (O4.out.below hb)
  have B_5 := Lib.hid (B_4.out.trans (hb.mono B_4.out.size))
  have ht_5 := Lib.hid (ht_4.out.below hb ht_4.out.lt)
  clear hb
  cases b47
  case true =>
    have HZ : Hid (InverseIs P P rs 0 0 [] false) := inv_from HM.out hP12 (.inr ⟨hgd.out.1 rfl, rfl, rfl, rfl, rfl⟩)
    have eht0 := ht_5.out.cell 0
    have eht1 := ht_5.out.cell 1
    have eht2 := ht_5.out.cell 2
    have fht0 := ht_5.out.free 0
    have fht1 := ht_5.out.free 1
    have fht2 := ht_5.out.free 2
    simp at eht0 eht1 eht2
    go_wp2_with fail
    refine bodyPost_ret (v := .tuple #[.agg #[.int .i64 0, .int .i64 0, .slice none 0 0], .bool false]) (by simp [results, Tryz.results96, eht0, eht1, eht2, go_sem]) rfl ?_
    exact matOkEnd_zero HZ.out B_5.out (by omega) _ _ _
  have HSY : Hid (SysOk P P rs (ident P)) := Classical.byContradiction fun h => (by have h1 := hgd.out.2 h; cases h1)
  obtain ⟨W6, hW6⟩ : ∃ W, W = w5.alloc (.cells #[.int .i64 P, .int .i64 P, .slice none 0 0] 25) := ⟨_, rfl⟩
  have hbx : Below w5.heap.size w5 W6 := by rw [hW6]; exact (Below.refl _ _).alloc (Nat.le_refl _) _
  have Y_6 : Hid (Box W6 w5.heap.size 25 #[.int .i64 P, .int .i64 P, .slice none 0 0]) := by rw [hW6]; exact Box.new _ _ _
  have X_6 := Lib.hid (X_5.out.below hbx X_5.out.lt)
  have O_6 := Lib.hid (O5.out.below hbx)
  have HBX := Lib.hid hbx
  have hA25 : Hid (∀ k o, A2 = some ⟨k, o, none⟩ → k < w5.heap.size) := by
    rintro k o rfl
    exact O5.out.blk_lt.2
  have hs05 := B_5.out.size
  have hgb5 := X_5.out.lt
  clear hbx
  go_wp2_with fail
  rw [← hW6]
  clear hW6
  go_loopw [9] (fun y wr => ∃ (i u : Nat) (L3 : List El) (A3 : Option Addr) (c3 : Nat), i ≤ P ∧ y = .int .i64 i ∧ Hid (u = i * P) ∧ Hid (OwnW wr w5.heap.size w.heap.size (.slice A3 u c3) u L3) ∧ Hid (L3 = rt P Q P i L2) ∧ Hid (OwnV wr w.heap.size (.slice A2 N c2) N L2) ∧ Hid (Box wr gb 25 #[.int .i64 P, .int .i64 Q, .slice A2 N c2]) ∧ Hid (Box wr w5.heap.size 25 #[.int .i64 P, .int .i64 P, .slice A3 u c3]) ∧ Hid (Below w5.heap.size w5 wr)) (fun y _ => P - (intOf y).toNat)
  case atStart => exact ⟨0, 0, [], none, 0, Nat.zero_le _, rfl, by simp [Hid], OwnW.none_ _ _ _, rt_zero.symm, O_6, X_6, Y_6, HBX⟩
  case round =>
    obtain ⟨i, u, L3, A3, c3, hle, rfl, hu, hO, hL3, hO2, hX, hY, hb⟩ := hrel
    by_cases hlt : i < P
    · have hi0 : (0 : Int) ≤ (i : Int) := by omega
      have hi1 : (i : Int) < (P : Int) := by omega
      have hi24 : i ≤ 24 := by omega
      have hQPP : Q = P + P := HQQ.out
      have hiQ : i * Q + Q ≤ N := by rw [HNN.out]; exact row_le hlt
      have hiP : i * P + P ≤ P * P := row_le hlt
      have hPP := mul_le_576 hP24 hP24
      have hu576 : u + P ≤ 576 := by rw [hu.out]; omega
      obtain ⟨G, hG, _, hGlt⟩ := own_at' hO2.out.2.1 (by omega)
      obtain ⟨v, hv⟩ : ∃ v, v = i * Q := ⟨_, rfl⟩
      have HVV := Lib.hid hv
      have hlen2 : L2.length = N := hO2.out.1
      obtain ⟨Mw, hMw⟩ : ∃ Mw, Mw = (L2.drop (i * Q + P)).take P := ⟨_, rfl⟩
      obtain ⟨hml, hmat⟩ := rt_window (K := Q) (o := P) (k := P) (i := i) (L := L2) (by omega)
      rw [← hMw] at hml hmat
      rw [← hv] at hmat
      obtain ⟨hfr, hpw⟩ := rt_far (k := P) (K := Q) (o := P) (i := i) hO2.out.2.2.2 (by omega)
      rw [← hMw, ← hL3.out] at hfr
      rw [← hMw] at hpw
      have hme : ∀ y ∈ Mw, y ∈ L2 := fun y hy => by rw [hMw] at hy; exact List.mem_of_mem_drop (List.mem_of_mem_take hy)
      have HML := Lib.hid hml
      have HMA := Lib.hid hmat
      have HPW := Lib.hid hpw
      have HME := Lib.hid hme
      have HFA := Lib.hid hfr
      have HL4 : Hid (L3 ++ Mw = rt P Q P (i + 1) L2) := by unfold Hid; rw [rt_succ, hMw, hL3.out]
      have HUN : Hid (u + P = (i + 1) * P) := by unfold Hid; rw [Nat.add_mul, Nat.one_mul, hu.out]
      subst hG
      have hvP : v + Q ≤ N := by rw [hv]; exact hiQ
      have HSP : Hid (v * 3 + P * 3 = (v + P) * 3) := by unfold Hid; omega
      have hPQ2 : (P : Int) ≤ (Q : Int) := by omega
      have hP0 : (0 : Int) ≤ (P : Int) := by omega
      have hQP : Q - P = P := by omega
      have hPltQ : P < Q := by omega
      have hG5 : Hid (G < w5.heap.size) := hA25.out G 0 rfl
      have hNc : N ≤ c2 := own_le hO2.out.2.1
      have hN20 : N ≤ 1048576 := by omega
      have ex0 := hX.out.cell 0
      have ex1 := hX.out.cell 1
      have ex2 := hX.out.cell 2
      have ey2 := hY.out.cell 2
      simp at ex0 ex1 ex2 ey2
      have Xx := Lib.hid hX.out.drew
      have Yy := Lib.hid hY.out.drew
      have Oo : Hid (OwnW wr.drew w5.heap.size w.heap.size (.slice A3 u c3) u L3) := hO.out.below (Below.refl _ _).drew
      have Os := Lib.hid hO2.out.drew
      have Bb := Lib.hid hb.out.drew
      clear hv hml hmat hfr hpw hme hMw hlen2 hQPP
      go_wp2_with fail
      go_region_law (first | (refine step_append_elsW rfl _ _ 23 rfl w5.heap.size w.heap.size i0 (.agg #[.bool false, .slice none 0 0, .slice none 0 0]) 56 Tryz.underlying23 hi hz0 hz1 hz2 rfl _ u L3 rfl Oo.out ⟨G, v * 3 + P * 3, none⟩ P _ Mw (by first | rfl | rw [hQP]) HML.out (fun k x hx => by have h1 := OwnV.source (j := v + P) Os.out HMA.out k x hx; rw [← HSP.out] at h1; exact h1) (fun y hy => Os.out.2.2.1 y (HME.out y hy)) HPW.out HFA.out (by unfold maxLen; omega) (by omega) Bb.out.size ?_; intro V' w9 s1 hg; obtain ⟨A9, c9, rfl⟩ := s1.slice; have O9 := Lib.hid s1; have P9 := Lib.hid (Os.out.beside Oo.out hg hG5.out); have X9 := Lib.hid (Xx.out.grown hg (box_main Xx.out (Oo.out.ownV (Nat.zero_le _) (Nat.zero_le _)))); have Y9 := Lib.hid (Yy.out.grown hg (box_main Yy.out (Oo.out.ownV (Nat.zero_le _) (Nat.zero_le _)))); have B9 := Lib.hid (Bb.out.grown hg Bb.out.size (fun k hk => (Oo.out.2.1.lt k hk).1)); have ez0 := Y9.out.cell 0; have ez1 := Y9.out.cell 1; have ez2 := Y9.out.cell 2; simp at ez0 ez1 ez2; have fz2 := Y9.out.free 2; clear s1 hg) | (go_simp; go_at_call 111; (with_reducible refine (spec_l06Row P Q i (some ⟨G, 0, none⟩) N c2 _ hiQ hN20 hNc (fun _ => ⟨G, 0, rfl⟩) hi24 hQ24).mono ?_); rintro e w8 ⟨A10, c10, rfl, hc10, hat10, hb10⟩; rw [← HVV.out] at hat10; obtain rfl : A10 = some ⟨G, v * 3, none⟩ := (by rcases hat10 with h0 | ⟨bb, oo, hA, hA'⟩; (exfalso; omega); (cases hA; rw [hA', Nat.zero_add])); have hc10i : (Q : Int) ≤ (c10 : Int) := (by omega); have hc10K : ¬ c10 = P := (by omega); replace Xx := Lib.hid (Xx.out.below hb10 Xx.out.lt); replace Yy := Lib.hid (Yy.out.below hb10 Yy.out.lt); replace Oo := Lib.hid (Oo.out.below hb10); replace Os := Lib.hid (Os.out.below hb10); replace Bb := Lib.hid (Bb.out.trans (hb10.mono Bb.out.size)); have fx0 := Xx.out.cell 0; have fx1 := Xx.out.cell 1; have fx2 := Xx.out.cell 2; have fy2 := Yy.out.cell 2; simp at fx0 fx1 fx2 fy2; clear hat10 hb10))
      all_goals
        have Y10 := Lib.hid (Y9.out.setAt2 (.slice A9 (u + P) c9))
        have X10 := Lib.hid (X9.out.far (p := ⟨w5.heap.size, 2, none⟩) (by dsimp only; omega) (.slice A9 (u + P) c9))
        have O10 := Lib.hid (O9.out.box_set Y9.out (i := 2) (.slice A9 (u + P) c9))
        have P10 := Lib.hid (P9.out.box_set Y9.out (i := 2) (.slice A9 (u + P) c9))
        have B10 := Lib.hid (B9.out.setCell (p := ⟨w5.heap.size, 2, none⟩) (Nat.le_refl _) (.slice A9 (u + P) c9))
        go_wp2_with fail
        go_roundw
        case rel => exact ⟨i + 1, u + P, _, A9, c9, by omega, by go_num, HUN, O10, HL4, P10, X10, Y10, B10⟩
        case measure => simp [intOf]; omega
    · obtain rfl : i = P := by omega
      have hRL : (sysR i i rs (ident i)).length = i * i := by
        have h1 : (sysE i i rs (ident i)).rs.length = i * (i + i) := by rw [HEl.out, HQQ.out]
        exact sysR_length h1
      have HRL : Hid ((sysR i i rs (ident i)).length = u) := by rw [hu.out]; exact hRL
      have HHF : Hid (Has L3 (sysR i i rs (ident i))) := by
        rw [hL3.out]
        have h1 := HH2.out.rt i Q i i
        unfold sysR
        rw [HQQ.out] at h1 ⊢
        exact h1
      have hPP := mul_le_576 hP24 hP24
      have HGD : Hid (Goods (sysR i i rs (ident i))) := ⟨by rw [hRL]; omega, fun x hx => .inl (sysR_ok HSY.out x hx)⟩
      have HQF : Hid (InverseIs i i rs i i (sysR i i rs (ident i)) true) := inv_from HM.out hP12 (.inl ⟨HSY.out, rfl, rfl, rfl, rfl⟩)
      have ht_6 := Lib.hid (ht_5.out.below hb.out ht_5.out.lt)
      have BW_6 := Lib.hid (B_5.out.trans (hb.out.mono B_5.out.size))
      have OF := Lib.hid (hO.out.ownV hs05 (Nat.le_refl _))
      have ex0 := hY.out.cell 0
      have ex1 := hY.out.cell 1
      have ex2 := hY.out.cell 2
      simp at ex0 ex1 ex2
      have eht0 := ht_6.out.cell 0
      have eht1 := ht_6.out.cell 1
      have eht2 := ht_6.out.cell 2
      have fht0 := ht_6.out.free 0
      have fht1 := ht_6.out.free 1
      have fht2 := ht_6.out.free 2
      simp at eht0 eht1 eht2
      clear hRL
      go_wp2_with fail
      refine bodyPost_ret (v := .tuple #[.agg #[.int .i64 i, .int .i64 i, .slice A3 u c3], .bool true]) (by simp [results, Tryz.results96, eht0, eht1, eht2, go_sem]) rfl ?_
      exact matOkEnd_store ht_6.out (by omega) BW_6.out HQF.out HGD.out HRL.out OF.out (Nat.le_refl _) HHF.out
end Go.Proofs.YthjbfdifeffilaaGreat
namespace Go.Proofs.YthjbfdifeffilaaGreat
set_option maxRecDepth 100000
open Go.RowKit

set_option maxHeartbeats 3200000 in
theorem spec_inverse0 (p k : Int) (A : Option Addr) (n c : Nat) (rs : List RD) (w : World) (h : InV w A n rs) (hp : -9223372036854775808 ≤ p ∧ p ≤ 9223372036854775807) (hk : -9223372036854775808 ≤ k ∧ k ≤ 9223372036854775807) (hc : n ≤ c) :
    Calls Tryz.prog 42 #[.agg #[.int .i64 p, .int .i64 k, .slice A n c]] w fun e w' => MatOkEnd (InverseIs p k rs) w w' e := by
  obtain ⟨W0, hW0⟩ : ∃ W, W = ((w.alloc (.cells #[.int .i64 p, .int .i64 k, .slice A n c] 25)).alloc (.cells #[.int .i64 0, .int .i64 0, .slice none 0 0] 25)) := ⟨_, rfl⟩
  have hm0_0 : Hid (Box W0 (w.heap.size) 25 #[.int .i64 p, .int .i64 k, .slice A n c]) := by rw [hW0]; exact ((Box.at' (by simp)).alloc _)
  have ht_0 : Hid (Box W0 (w.heap.size + 1) 25 #[.int .i64 0, .int .i64 0, .slice none 0 0]) := by rw [hW0]; exact (Box.at' (by simp))
  have BW_0 : Hid (Below w.heap.size w W0) := by rw [hW0]; exact (((Below.refl w.heap.size w).alloc (by simp) _).alloc (by simp) _)
  have hsz0 : w.heap.size + 1 + 1 ≤ W0.heap.size := by rw [hW0]; simp
  have HV := Lib.hid (h.below BW_0.out)
  clear h
  go_enter Tryz.func42, Tryz.ntmps42
  go_wp2_with fail
  rw [← hW0]
  clear hW0
  refine (spec_matrixOk0 p k A n c rs _ HV.out hp hk).mono ?_
  rintro e w1 ⟨b, rfl, hq, hb⟩
  have hm0_1 := Lib.hid (hm0_0.out.below hb hm0_0.out.lt)
  have ht_1 := Lib.hid (ht_0.out.below hb ht_0.out.lt)
  have BW_1 := Lib.hid (BW_0.out.trans (hb.mono BW_0.out.size))
  replace HV := Lib.hid (HV.out.below hb)
  clear hb
  have ehm00 := hm0_1.out.cell 0
  have ehm01 := hm0_1.out.cell 1
  have ehm02 := hm0_1.out.cell 2
  have eht0 := ht_1.out.cell 0
  have eht1 := ht_1.out.cell 1
  have eht2 := ht_1.out.cell 2
  have fht0 := ht_1.out.free 0
  have fht1 := ht_1.out.free 1
  have fht2 := ht_1.out.free 2
  simp at ehm00 ehm01 ehm02 eht0 eht1 eht2
  cases b
  case false =>
    have HZ : Hid (InverseIs p k rs 0 0 [] false) := inverse_no (fun h => (by have h1 := hq.2 h.1; cases h1))
    clear hq
    go_wp2_with fail
    refine bodyPost_ret (v := .tuple #[.agg #[.int .i64 0, .int .i64 0, .slice none 0 0], .bool false]) (by simp [results, Tryz.results42, eht0, eht1, eht2, go_sem]) rfl ?_
    exact matOkEnd_zero HZ.out BW_1.out (by omega) _ _ _
  have HM := Lib.hid (hq.1 rfl)
  clear hq
  by_cases hpk : p = k
  case neg =>
    have hf : (p != k) = true := by simp; exact hpk
    have HZ : Hid (InverseIs p k rs 0 0 [] false) := inverse_no (fun h => hpk h.2.1)
    clear hpk
    go_wp2_with fail
    refine bodyPost_ret (v := .tuple #[.agg #[.int .i64 0, .int .i64 0, .slice none 0 0], .bool false]) (by simp [results, Tryz.results42, eht0, eht1, eht2, go_sem]) rfl ?_
    exact matOkEnd_zero HZ.out BW_1.out (by omega) _ _ _
  subst hpk
  have hf : (p != p) = false := by simp
  by_cases hp12 : 12 < p
  · have HZ : Hid (InverseIs p p rs 0 0 [] false) := inverse_no (fun h => by have := h.2.2; omega)
    go_wp2_with fail
    refine bodyPost_ret (v := .tuple #[.agg #[.int .i64 0, .int .i64 0, .slice none 0 0], .bool false]) (by simp [results, Tryz.results42, eht0, eht1, eht2, go_sem]) rfl ?_
    exact matOkEnd_zero HZ.out BW_1.out (by omega) _ _ _
  have hp2 := HM.out.1
  obtain ⟨P, rfl⟩ : ∃ P : Nat, p = P := ⟨p.toNat, by omega⟩
  go_wp2_with fail
  clear ehm00 ehm01 ehm02 eht0 fht0 eht1 fht1 eht2 fht2
  refine (spec_l07Inverse P A n c rs _ HV.out HM.out hc (by omega)).mono ?_
  rintro e w2 ⟨a, b, rr, V, ok, rfl, hq2, ⟨hl2, hf2, L2, ho2, hh2⟩, hb⟩
  obtain ⟨N2, hN2⟩ : ∃ N2, N2 = rr.length := ⟨_, rfl⟩
  rw [← hN2] at ho2
  obtain ⟨A2, c2, rfl⟩ := ho2.slice
  have HO2 := Lib.hid (ho2.lower BW_1.out.size)
  have HQ2 := Lib.hid hq2
  have HH2 := Lib.hid hh2
  have HL2 := Lib.hid hl2
  have HF2 := Lib.hid hf2
  have HN2 := Lib.hid hN2
  have ht_2 := Lib.hid (ht_1.out.below hb ht_1.out.lt)
  have BW_2 := Lib.hid (BW_1.out.trans (hb.mono BW_1.out.size))
  clear hb
  have eht0 := ht_2.out.cell 0
  have eht1 := ht_2.out.cell 1
  have eht2 := ht_2.out.cell 2
  have fht0 := ht_2.out.free 0
  have fht1 := ht_2.out.free 1
  have fht2 := ht_2.out.free 2
  simp at eht0 eht1 eht2
  clear hq2 hl2 hf2 ho2 hh2 hN2
  go_wp2_with fail
  refine bodyPost_ret (v := .tuple #[.agg #[.int .i64 a, .int .i64 b, .slice A2 N2 c2], .bool ok]) (by simp [results, Tryz.results42, eht0, eht1, eht2, go_sem]) rfl ?_
  exact ⟨a, b, rr, _, ok, rfl, HQ2.out, ⟨HL2.out, HF2.out, L2, by rw [← HN2.out]; exact HO2.out.box_set3 ht_2.out _ _ _, HH2.out⟩, below_store3 BW_2.out (by omega) _ _ _⟩
theorem spec_inverse (p k : Int) (A : Option Addr) (n c : Nat) (rs : List RD) (w : World) (h : InV w A n rs) (hp : -9223372036854775808 ≤ p ∧ p ≤ 9223372036854775807) (hk : -9223372036854775808 ≤ k ∧ k ≤ 9223372036854775807) (hc : n ≤ c) :
    Calls Tryz.prog 42 #[.agg #[.int .i64 p, .int .i64 k, .slice A n c]] w fun e w' => ∃ q j r V b, e = .returned (.tuple #[.agg #[.int .i64 q, .int .i64 j, V], .bool b]) ∧ InverseIs p k rs q j r b ∧ ResV w w' V r ∧ Below w.heap.size w w' := (spec_inverse0 p k A n c rs w h hp hk hc).mono fun _ _ h => h
theorem solveSystem_no {p k : Int} {rs v : List RD} (h : ¬ (MOk p k rs ∧ p = k ∧ p ≤ 12 ∧ VOk v ∧ (v.length : Int) = p)) : SolveSystemIs p k rs v [] false := .inr ⟨fun h1 => h h1.1, rfl, rfl⟩
set_option maxHeartbeats 3200000 in
theorem spec_solveSystem0 (p k : Int) (A : Option Addr) (n c : Nat) (rs : List RD) (B : Option Addr) (m d : Nat) (vs : List RD) (w : World) (h1 : InV w A n rs) (hp : -9223372036854775808 ≤ p ∧ p ≤ 9223372036854775807) (hk : -9223372036854775808 ≤ k ∧ k ≤ 9223372036854775807) (hc : n ≤ c) (h2 : InV w B m vs) (hd : m ≤ d) :
    Calls Tryz.prog 44 #[.agg #[.int .i64 p, .int .i64 k, .slice A n c], .slice B m d] w fun e w' => VecOkEnd (SolveSystemIs p k rs vs) w w' e := by
  obtain ⟨W0, hW0⟩ : ∃ W, W = (w.alloc (.cells #[.int .i64 p, .int .i64 k, .slice A n c] 25)) := ⟨_, rfl⟩
  have hm0_0 : Hid (Box W0 (w.heap.size) 25 #[.int .i64 p, .int .i64 k, .slice A n c]) := by rw [hW0]; exact (Box.at' (by simp))
  have BW_0 : Hid (Below w.heap.size w W0) := by rw [hW0]; exact ((Below.refl w.heap.size w).alloc (by simp) _)
  have hsz0 : w.heap.size + 1 ≤ W0.heap.size := by rw [hW0]; simp
  have HV := Lib.hid (h1.below BW_0.out)
  have HW := Lib.hid (h2.below BW_0.out)
  clear h1 h2
  go_enter Tryz.func44, Tryz.ntmps44
  go_wp2_with fail
  rw [← hW0]
  clear hW0
  refine (spec_matrixOk0 p k A n c rs _ HV.out hp hk).mono ?_
  rintro e w1 ⟨b, rfl, hq, hb⟩
  have hm0_1 := Lib.hid (hm0_0.out.below hb hm0_0.out.lt)
  have BW_1 := Lib.hid (BW_0.out.trans (hb.mono BW_0.out.size))
  replace HV := Lib.hid (HV.out.below hb)
  replace HW := Lib.hid (HW.out.below hb)
  clear hb
  have ehm00 := hm0_1.out.cell 0
  have ehm01 := hm0_1.out.cell 1
  have ehm02 := hm0_1.out.cell 2
  simp at ehm00 ehm01 ehm02
  cases b
  case false =>
    have HF : Hid (VecOkEnd (SolveSystemIs p k rs vs) w w1 (.returned (.tuple #[.slice none 0 0, .bool false]))) := ⟨[], _, false, rfl, solveSystem_no (fun h => (by have h1 := hq.2 h.1; cases h1)), resV_nil _ _, BW_1.out⟩
    clear hq
    go_wp2_with fail
    go_ret2
    exact HF.out
  have HM := Lib.hid (hq.1 rfl)
  clear hq
  go_wp2_with fail
  clear ehm00 ehm01 ehm02
  refine (spec_isVector B m d vs _ HW.out).mono ?_
  rintro e w2 ⟨b, rfl, hq, hb⟩
  have hm0_2 := Lib.hid (hm0_1.out.below hb hm0_1.out.lt)
  have BW_2 := Lib.hid (BW_1.out.trans (hb.mono BW_1.out.size))
  replace HV := Lib.hid (HV.out.below hb)
  replace HW := Lib.hid (HW.out.below hb)
  clear hb
  have ehm00 := hm0_2.out.cell 0
  have ehm01 := hm0_2.out.cell 1
  have ehm02 := hm0_2.out.cell 2
  simp at ehm00 ehm01 ehm02
  cases b
  case false =>
    have HF : Hid (VecOkEnd (SolveSystemIs p k rs vs) w w2 (.returned (.tuple #[.slice none 0 0, .bool false]))) := ⟨[], _, false, rfl, solveSystem_no (fun h => (by have h1 := hq.2 h.2.2.2.1; cases h1)), resV_nil _ _, BW_2.out⟩
    clear hq
    go_wp2_with fail
    go_ret2
    exact HF.out
  have HVK : Hid (VOk vs) := hq.1 rfl
  clear hq
  by_cases hpk : p = k
  case neg =>
    have hf : (p != k) = true := by simp; exact hpk
    have HF : Hid (VecOkEnd (SolveSystemIs p k rs vs) w w2 (.returned (.tuple #[.slice none 0 0, .bool false]))) := ⟨[], _, false, rfl, solveSystem_no (fun h => hpk h.2.1), resV_nil _ _, BW_2.out⟩
    clear hpk
    go_wp2_with fail
    go_ret2
    exact HF.out
  subst hpk
  have hf : (p != p) = false := by simp
  by_cases hp12 : 12 < p
  · have HF : Hid (VecOkEnd (SolveSystemIs p p rs vs) w w2 (.returned (.tuple #[.slice none 0 0, .bool false]))) := ⟨[], _, false, rfl, solveSystem_no (fun h => by have := h.2.2.1; omega), resV_nil _ _, BW_2.out⟩
    go_wp2_with fail
    go_ret2
    exact HF.out
  by_cases hmp : (m : Int) = p
  case neg =>
    have hf2 : ((m : Int) != p) = true := by simp; exact hmp
    have HF : Hid (VecOkEnd (SolveSystemIs p p rs vs) w w2 (.returned (.tuple #[.slice none 0 0, .bool false]))) := ⟨[], _, false, rfl, solveSystem_no (fun h => by have h1 := h.2.2.2.2; rw [HW.out.1] at h1; exact hmp h1), resV_nil _ _, BW_2.out⟩
    clear hmp
    go_wp2_with fail
    go_ret2
    exact HF.out
  have hf2 : ((m : Int) != p) = false := by simp; exact hmp
  have hp2 := HM.out.1
  obtain ⟨P, rfl⟩ : ∃ P : Nat, p = P := ⟨p.toNat, by omega⟩
  have hmP : m = P := by omega
  have HMP := Lib.hid hmP
  have HV1 : Hid (MOk P (1 : Nat) vs) := ⟨hp2, by omega, by have h1 := HW.out.1; omega, HVK.out.2⟩
  clear hmp hmP
  go_wp2_with fail
  clear ehm00 ehm01 ehm02
  refine (spec_l07Solve P A n c rs B m d vs _ HV.out HM.out hc HW.out HV1.out hd (by omega)).mono ?_
  rintro e w3 ⟨r, V, ok, rfl, hq, ⟨hl3, hf3, L3, ho3, hh3⟩, hb⟩
  have HF : Hid (VecOkEnd (SolveSystemIs P P rs vs) w w3 (.returned (.tuple #[V, .bool ok]))) := by
    refine ⟨r, V, ok, rfl, ?_, ⟨hl3, hf3, L3, ho3.lower BW_2.out.size, hh3⟩, BW_2.out.trans (hb.mono BW_2.out.size)⟩
    have hvl : (vs.length : Int) = (P : Int) := by rw [HW.out.1, HMP.out]
    rcases hq with ⟨h1, h2, h3⟩ | ⟨h1, h2⟩
    · exact .inl ⟨⟨⟨HM.out, rfl, by omega, HVK.out, hvl⟩, h1⟩, h2, h3⟩
    · exact .inr ⟨fun h => h1 h.2, h2⟩
  obtain ⟨A2, c2, rfl⟩ := ho3.slice
  clear hq hl3 hf3 ho3 hh3 hb
  go_wp2_with fail
  go_ret2
  exact HF.out
theorem spec_solveSystem (p k : Int) (A : Option Addr) (n c : Nat) (rs : List RD) (B : Option Addr) (m d : Nat) (vs : List RD) (w : World) (h1 : InV w A n rs) (hp : -9223372036854775808 ≤ p ∧ p ≤ 9223372036854775807) (hk : -9223372036854775808 ≤ k ∧ k ≤ 9223372036854775807) (hc : n ≤ c) (h2 : InV w B m vs) (hd : m ≤ d) :
    Calls Tryz.prog 44 #[.agg #[.int .i64 p, .int .i64 k, .slice A n c], .slice B m d] w fun e w' => ∃ r V b, e = .returned (.tuple #[V, .bool b]) ∧ SolveSystemIs p k rs vs r b ∧ ResV w w' V r ∧ Below w.heap.size w w' := (spec_solveSystem0 p k A n c rs B m d vs w h1 hp hk hc h2 hd).mono fun _ _ h => h
end Go.Proofs.YthjbfdifeffilaaGreat
