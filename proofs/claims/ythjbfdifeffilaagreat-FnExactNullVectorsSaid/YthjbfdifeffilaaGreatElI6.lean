/- Contracts of the elimination, by the program: the elimination itself. -/
import Derived.Test.YthjbfdifeffilaaGreatElimE
import Derived.Test.YthjbfdifeffilaaGreatElI1
import Derived.Test.YthjbfdifeffilaaGreatElI2
import Derived.Test.YthjbfdifeffilaaGreatElI3
import Derived.Test.YthjbfdifeffilaaGreatElI5
import Derived.Deep.RegionLaw
import Derived.Deep.DeepCutAuto
namespace Go.Proofs.YthjbfdifeffilaaGreat
set_option maxRecDepth 100000
open Go.RowKit

theorem Elim.nat {P K : Nat} {rs : List RD} : Elim P K rs ↔ MOk P K rs ∧ AllOk (est P K rs K).rs := by unfold Elim; simp
/-- The product so far, behind an exchange or none. -/
noncomputable def qx (q : RD) (i n : Nat) : RD := if i = n then q else rneg q
theorem qx_good {q : RD} (h : q.ok ∨ q = RD.zero) (i n : Nat) : (qx q i n).ok ∨ qx q i n = RD.zero := by unfold qx; split; exact h; exact rneg_good q
set_option maxHeartbeats 25600000 in
theorem impl_eliminate (p k : Int) (A : Option Addr) (n c : Nat) (rs : List RD) (w : World) (h : InV w A n rs) (hp : -9223372036854775808 ≤ p ∧ p ≤ 9223372036854775807) (hk : -9223372036854775808 ≤ k ∧ k ≤ 9223372036854775807) (hc : n ≤ c) :
    Calls Tryz.prog 108 #[.agg #[.int .i64 p, .int .i64 k, .slice A n c]] w fun e w' => ElimEnd p k rs w w' e := by
  obtain ⟨i0, hi, hz0, hz1, hz2⟩ := info_parts Tryz.infoI
  obtain ⟨W0, hW0⟩ : ∃ W, W = (w.alloc (.cells #[.int .i64 p, .int .i64 k, .slice A n c] 25)).alloc (.cells #[.int .i64 0, .int .i64 0, .slice none 0 0, .slice none 0 0, .bool false, .slice none 0 0, .slice none 0 0] 115) := ⟨_, rfl⟩
  have hm0_0 : Hid (Box W0 (w.heap.size) 25 #[.int .i64 p, .int .i64 k, .slice A n c]) := by rw [hW0]; exact ((Box.at' (by simp)).alloc _)
  have hz_0 : Hid (Box W0 (w.heap.size + 1) 115 #[.int .i64 0, .int .i64 0, .slice none 0 0, .slice none 0 0, .bool false, .slice none 0 0, .slice none 0 0]) := by rw [hW0]; exact (Box.at' (by simp))
  have BW_0 : Hid (Below w.heap.size w W0) := by rw [hW0]; exact ((Below.refl w.heap.size w).alloc (by simp) _).alloc (by simp) _
  have hsz0 : w.heap.size + 1 + 1 ≤ W0.heap.size := by rw [hW0]; simp
  have hn := h.2.1
  have HV := Lib.hid (h.below BW_0.out)
  clear h
  go_enter Tryz.func108, Tryz.ntmps108
  go_wp2_with fail
  rw [← hW0]
  clear hW0
  refine (impl_matrixOk0 p k A n c rs _ HV.out hp hk hc).mono ?_
  rintro e w1 ⟨b, rfl, hq, hb⟩
  have hm0_1 := Lib.hid (hm0_0.out.below hb hm0_0.out.lt)
  have hz_1 := Lib.hid (hz_0.out.below hb hz_0.out.lt)
  have BW_1 := Lib.hid (BW_0.out.trans (hb.mono BW_0.out.size))
  replace HV := Lib.hid (HV.out.below hb)
  clear hb
  have ehm00 := hm0_1.out.cell 0
  have ehm01 := hm0_1.out.cell 1
  have ehm02 := hm0_1.out.cell 2
  simp at ehm00 ehm01 ehm02
  cases b
  case false =>
    have HNO : Hid (¬ Elim p k rs) := fun h => by have h1 := hq.2 h.1; cases h1
    clear hq
    have ehz0 := hz_1.out.cell 0
    have ehz1 := hz_1.out.cell 1
    have ehz2 := hz_1.out.cell 2
    have ehz3 := hz_1.out.cell 3
    have ehz4 := hz_1.out.cell 4
    have ehz5 := hz_1.out.cell 5
    have ehz6 := hz_1.out.cell 6
    have fhz0 := hz_1.out.free 0
    have fhz1 := hz_1.out.free 1
    have fhz2 := hz_1.out.free 2
    have fhz3 := hz_1.out.free 3
    have fhz4 := hz_1.out.free 4
    have fhz5 := hz_1.out.free 5
    have fhz6 := hz_1.out.free 6
    simp at ehz0 ehz1 ehz2 ehz3 ehz4 ehz5 ehz6
    go_wp2_with fail
    refine bodyPost_ret (v := .tuple #[.agg #[.int .i64 0, .int .i64 0, .slice none 0 0, .slice none 0 0, .bool false, .slice none 0 0, .slice none 0 0], .bool false]) (by simp [results, Tryz.results108, ehz0, ehz1, ehz2, ehz3, ehz4, ehz5, ehz6, go_sem]) rfl ?_
    exact .inl ⟨HNO.out, rfl, below_set7 BW_1.out (by omega) _ _ _ _ _ _ _⟩
  have HM := Lib.hid (hq.1 rfl)
  clear hq
  have hp2 := HM.out.1
  have hk2 := HM.out.2.1
  obtain ⟨P, rfl⟩ : ∃ P : Nat, p = P := ⟨p.toNat, by omega⟩
  obtain ⟨K, rfl⟩ : ∃ K : Nat, k = K := ⟨k.toNat, by omega⟩
  have hP24 : P ≤ 24 := by omega
  have hK24 : K ≤ 24 := by omega
  have HNPK : Hid (n = P * K) := by have h1 := HM.out.plen; rw [HV.out.1] at h1; exact h1
  have hN5 : n ≤ 576 := by rw [HNPK.out]; exact mul_le_576 hP24 hK24
  have hsz1 := BW_1.out.size
  have hlt0 := hm0_1.out.lt
  have hltz := hz_1.out.lt
  go_wp2_with fail
  clear ehm00 ehm01 ehm02
  refine (impl_copyOfMatrix A n c P K rs _ HV.out HM.out).mono ?_
  rintro e w2 ⟨G, L0, rfl, ho, hh, hb⟩
  have O2 := Lib.hid ho
  have HH0 := Lib.hid hh
  have B2 := Lib.hid hb
  clear ho hh hb
  go_wp2_with fail
  refine (impl_ratFromInt 1 _ (by omega)).mono ?_
  rintro e w3 ⟨g4, l4, v4, x4, y4, rfl, hq, q1, q2, hap, hb⟩
  obtain ⟨rfl, rfl, rfl⟩ := RD.mk.inj ((rint_of hq).trans rint1)
  obtain ⟨A4, c4, rfl⟩ := (own_slice q1.2 : ∃ A c, v4 = .slice A 1 c)
  obtain ⟨B4, d4, rfl⟩ := (own_slice q2.2 : ∃ A c, y4 = .slice A 1 c)
  have hs12 := B2.out.size
  have hs23 := hb.size
  obtain ⟨W4, hW4⟩ : ∃ W, W = w3.alloc (.cells #[.int .i64 P, .int .i64 K, .slice (some ⟨G, 0, none⟩) n n, .slice none 0 0, .bool false, .slice A4 1 c4, .slice B4 1 d4] 115) := ⟨_, rfl⟩
  have hbx : Below w3.heap.size w3 W4 := by rw [hW4]; exact (Below.refl _ _).alloc (Nat.le_refl _) _
  have hp0 : (qEl R1 A4 c4 B4 d4).own w3 w2.heap.size := ⟨q1.2, q2.2, hap⟩
  have E4 : Hid (EMem P K w1.heap.size W4 w3.heap.size G n rs L0 [] none 0 0 R1 A4 c4 B4 d4) :=
    ⟨(O2.out.below hb).below hbx, HH0.out, World.ownsRow_nil _ _ _ _, (El.own.lower (hp0.dep fun k hk => hbx.block k (hp0.lt k hk).2) hs12), fun x hx k hk e => by simp [Value.ownBlock] at e, by rw [hW4]; exact Box.new _ _ _⟩
  have B4' : Hid (Below w1.heap.size w1 W4) := B2.out.trans ((hb.trans (hbx.mono hs23)).mono hs12)
  have em := (hm0_1.out.below B4'.out hm0_1.out.lt)
  rw [hW4] at em
  have em0 := em.cell 0
  simp at em0
  have EO0 := Lib.hid (EOk.start HM.out)
  clear hq q1 q2 hap hb hbx hp0 em
  go_wp2_with fail
  rw [← hW4]
  clear hW4 em0
  go_loopw [19] (fun y wr => ∃ (n0 kc : Nat) (s : ES) (L : List El) (q : RD) (Ap Aq Bq : Option Addr) (cp cq dq : Nat), n0 ≤ P ∧ y = .int .i64 n0 ∧ Hid (EOk P K rs n0 kc s) ∧ Hid (q = prod s.fs) ∧ Hid (EMem P K w1.heap.size wr w3.heap.size G n s.rs L s.pv Ap n0 cp q Aq cq Bq dq) ∧ Hid (Below w1.heap.size w1 wr)) (fun y _ => P - (intOf y).toNat)
  case atStart => exact ⟨0, 0, _, L0, R1, none, A4, B4, 0, c4, d4, Nat.zero_le _, rfl, EO0, rfl, E4, B4'⟩
  case round =>
    obtain ⟨u, kc, s, L, q, Ap, Aq, Bq, cp, cq, dq, hle, rfl, hEO, hQ, hE, hb⟩ := hrel
    obtain ⟨wo, rfl⟩ : ∃ wo : World, wo = wr := ⟨_, rfl⟩
    have hso := hb.out.size
    by_cases hlt : u < P
    · have hu0 : (0 : Int) ≤ (u : Int) := by omega
      have hu1 : (u : Int) < (P : Int) := by omega
      have hu24 : u ≤ 24 := by omega
      have HI := Lib.hid (hE.out.in_ (by omega) hEO.out.mok.all)
      obtain ⟨ec0, ec1, ec2, ec3, ec4, ec5, ec6⟩ := hE.out.cells
      go_wp2_with fail
      clear ec0 ec1 ec2 ec3 ec4 ec5 ec6
      refine (impl_findPivot (some ⟨G, 0, none⟩) n n P K u s.rs _ HI.out hEO.out.mok (Nat.le_refl _) hle).mono ?_
      rintro e w5 ⟨r5, c5, b5, rfl, hq, hb5⟩
      have E5 := Lib.hid (hE.out.below hb5)
      have B5 := Lib.hid (hb.out.trans (hb5.mono hb.out.size))
      have hs5 := hb5.size
      clear hb5 hE
      rcases hq with ⟨i, k', rfl, rfl, rfl, hk', hf, hbf⟩ | ⟨rfl, rfl, rfl, hno⟩
      case inr =>
        have hst := hEO.out.done hno
        have hz_5 := Lib.hid (hz_1.out.below B5.out hz_1.out.lt)
        have BW_5 := Lib.hid (BW_1.out.trans (B5.out.mono BW_1.out.size))
        have HEL : Hid (Elim P K rs) := Elim.nat.2 ⟨HM.out, by rw [hst]; exact hEO.out.mok.all⟩
        have HST := Lib.hid hst
        obtain ⟨ec0, ec1, ec2, ec3, ec4, ec5, ec6⟩ := E5.out.cells
        clear hst hno
        have ehz0 := hz_5.out.cell 0
        have ehz1 := hz_5.out.cell 1
        have ehz2 := hz_5.out.cell 2
        have ehz3 := hz_5.out.cell 3
        have ehz4 := hz_5.out.cell 4
        have ehz5 := hz_5.out.cell 5
        have ehz6 := hz_5.out.cell 6
        have fhz0 := hz_5.out.free 0
        have fhz1 := hz_5.out.free 1
        have fhz2 := hz_5.out.free 2
        have fhz3 := hz_5.out.free 3
        have fhz4 := hz_5.out.free 4
        have fhz5 := hz_5.out.free 5
        have fhz6 := hz_5.out.free 6
        simp at ehz0 ehz1 ehz2 ehz3 ehz4 ehz5 ehz6
        go_wp2_with fail
        refine bodyPost_ret (v := .tuple #[.agg #[.int .i64 P, .int .i64 K, .slice (some ⟨G, 0, none⟩) n n, .slice Ap u cp, .bool q.g, .slice Aq q.xs.length cq, .slice Bq q.ds.length dq], .bool true]) (by simp [results, Tryz.results108, ehz0, ehz1, ehz2, ehz3, ehz4, ehz5, ehz6, go_sem]) rfl ?_
        exact .inr ⟨HEL.out, P, K, G, n, u, cp, cq, dq, L, s, q, Ap, Aq, Bq, rfl, rfl, rfl, E5.out.out hz_5.out (by omega) BW_5.out hsz1 HST.out hEO.out.len hQ.out HNPK.out⟩
      obtain ⟨hui, hiP, hpn, _⟩ := of_firstRow hf
      have hnb := hEO.out.bad hlt hf hbf hk'
      have hnx := hEO.out.next hlt hf hbf hk'
      have HF := Lib.hid hf
      have HBF := Lib.hid hbf
      have HPN := Lib.hid hpn
      have HNB := Lib.hid hnb
      have HNX := Lib.hid hnx
      have hk0 : (0 : Int) ≤ (k' : Int) := by omega
      have hk1 : (k' : Int) < (K : Int) := by omega
      have hk24 : k' ≤ 24 := by omega
      have hi24 : i ≤ 24 := by omega
      have hMS : MOk P K (mswap P K s.rs u i) := mswap_mok hEO.out.mok hlt hiP
      have HMS := Lib.hid hMS
      have HQG : Hid (q.ok ∨ q = RD.zero) := by rw [hQ.out]; exact prod_good _
      clear hf hbf hpn hnb hnx hMS
      go_upto_if 34 with fail
      go_cut [] (fun wx => ∃ (L : List El) (q1 : RD) (Aq Bq : Option Addr) (cq dq : Nat), Hid (q1 = qx q i u) ∧ Hid (EMem P K w1.heap.size wx w3.heap.size G n (mswap P K s.rs u i) L s.pv Ap u cp q1 Aq cq Bq dq) ∧ Hid (Below w1.heap.size w1 wx))
      case first =>
        by_cases hin : i = u
        · subst hin
          have hq1 : q = qx q i i := by unfold qx; rw [if_pos rfl]
          have HQ1 := Lib.hid hq1
          have E6 : Hid (EMem P K w1.heap.size w5 w3.heap.size G n (mswap P K s.rs i i) L s.pv Ap i cp q Aq cq Bq dq) := by rw [mswap_self (mok_plen hEO.out.mok)]; exact E5
          clear hq1
          go_wp2_with fail
          go_meet
          exact ⟨L, q, Aq, Bq, cq, dq, HQ1, E6, B5⟩
        · have hin2 : ((i : Int) != (u : Int)) = true := by simp; omega
          obtain ⟨ec0, ec1, ec2, ec3, ec4, ec5, ec6⟩ := E5.out.cells
          go_wp2_with fail
          clear ec0 ec1 ec2 ec3 ec4 ec5 ec6
          refine (impl_exchangeRows w1.heap.size G n n P K i u s.rs L _ E5.out.own E5.out.has HNPK.out (by rw [mok_plen hEO.out.mok, HNPK.out]) hiP hlt hin hP24 hK24 (by omega)).mono ?_
          rintro e w6 ⟨rfl, ⟨L6, ho6, hh6, hf6⟩, hW6⟩
          rw [mswap_comm] at hh6
          have E6 := Lib.hid (E5.out.changed ho6 hh6 hf6 hW6)
          have hs15 : w1.heap.size ≤ w5.heap.size := B5.out.size
          have B6 := Lib.hid (Wrote.below B5.out hW6 (fun k hk => by subst hk; exact E5.out.gb.1) hs15)
          clear ho6 hh6 hf6 hW6
          obtain ⟨ec0, ec1, ec2, ec3, ec4, ec5, ec6⟩ := E6.out.cells
          go_wp2_with fail
          clear ec0 ec1 ec2 ec3 ec4 ec5 ec6
          refine (impl_ratNeg q.g Aq q.xs.length cq q.xs Bq q.ds.length dq q.ds _ (q_in1 E6.out.prd HQG.out) (q_room1 E6.out.prd) (q_in2 E6.out.prd HQG.out) (q_room2 E6.out.prd)).mono ?_
          rintro e w7 ⟨g7, l7, v7, x7, y7, rfl, hq7, q71, q72, hap7, hb7⟩
          obtain ⟨A7, c7, rfl⟩ := own_slice q71.2
          obtain ⟨B7, d7, rfl⟩ := own_slice q72.2
          have hs16 : w1.heap.size ≤ w6.heap.size := B6.out.size
          have hge : w1.heap.size ≤ w3.heap.size := by omega
          have hqx : qx q i u = ⟨g7, l7, x7⟩ := by unfold qx; rw [if_neg hin]; exact (rneg_of (r := q) hq7).symm
          have E7 := Lib.hid (E6.out.setProd hb7 q71.2 q72.2 hap7 hs16 (Nat.le_refl _) hqx)
          have B7' := Lib.hid ((((B6.out.trans (hb7.mono hs16)).setCell (p := ⟨w3.heap.size, 4, none⟩) hge (.bool g7)).setCell (p := ⟨w3.heap.size, 5, none⟩) hge (.slice A7 l7.length c7)).setCell (p := ⟨w3.heap.size, 6, none⟩) hge (.slice B7 x7.length d7))
          have k7 := (E6.out.below hb7).box
          obtain ⟨_, _, _, _, ed4, ed5, ed6⟩ := (E6.out.below hb7).cells
          have fd4 := k7.free 4
          have fd5 := k7.free 5
          have fd6 := k7.free 6
          clear hq7 q71 q72 hap7 hb7 hqx k7
          go_wp2_with fail
          go_meet
          exact ⟨L6, qx q i u, A7, B7, c7, d7, rfl, E7, B7'⟩
      obtain ⟨L6, q1, Aq1, Bq1, cq1, dq1, HQ1, E6, B6⟩ := hcut
      obtain ⟨w6, rfl⟩ : ∃ q, q = wc := ⟨_, rfl⟩
      have HQ1G : Hid (q1.ok ∨ q1 = RD.zero) := by rw [HQ1.out]; exact qx_good HQG.out i u
      obtain ⟨q2, hq2⟩ : ∃ q2, q2 = rmul q1 (cell K s.rs i k') := ⟨_, rfl⟩
      have HQ2 := Lib.hid hq2
      have hs16 : w1.heap.size ≤ w6.heap.size := B6.out.size
      have hge : w1.heap.size ≤ w3.heap.size := by omega
      have hur : u * K + K ≤ n := by rw [HNPK.out]; exact row_le hlt
      have hn20 : n ≤ 1048576 := by omega
      clear hq2 E5 B5
      go_upto_region 12 with fail
      go_cut [] (fun wx => ∃ (Aq Bq : Option Addr) (cq dq : Nat), Hid (EMem P K w1.heap.size wx w3.heap.size G n (mswap P K s.rs u i) L6 s.pv Ap u cp q2 Aq cq Bq dq) ∧ Hid (Below w1.heap.size w1 wx))
      case first =>
        have E_0 := Lib.hid E6.out.drew
        have B_0 := Lib.hid B6.out.drew
        have HI6 := Lib.hid (E_0.out.in_ hn20 HMS.out.all)
        obtain ⟨v, hv⟩ : ∃ v, v = u * K := ⟨_, rfl⟩
        have HV2 := Lib.hid hv
        have hvr : v + K ≤ n := by omega
        obtain ⟨ec0, ec1, ec2, ec3, ec4, ec5, ec6⟩ := E_0.out.cells
        clear hv
        go_region_with (first | (go_at_call 132; (with_reducible refine (impl_ratMul q1.g Aq1 q1.xs.length cq1 q1.xs Bq1 q1.ds.length dq1 q1.ds r.g A3 n3 c3 r.xs B3 m3 d3 r.ds _ (q_in1 E_1.out.prd HQ1G.out) (q_room1 E_1.out.prd) (q_in2 E_1.out.prd HQ1G.out) (q_room2 E_1.out.prd) I3.out RA3.out J3.out RB3.out).mono ?_); rintro e w8 ⟨g8, l8, v8, x8, y8, rfl, hq8, q81, q82, hap8, hb8⟩; obtain ⟨A8, c8, rfl⟩ := own_slice q81.2; obtain ⟨B8, d8, rfl⟩ := own_slice q82.2; have HQ8 : Hid (q2 = ⟨g8, l8, x8⟩) := (by rw [HQ2.out, HRC.out]; exact (rmul_of (r := q1) (s := r) hq8).symm); have E_2 := Lib.hid (E_1.out.setProd hb8 q81.2 q82.2 hap8 B_1.out.size (Nat.le_refl _) HQ8.out); have B_2 := Lib.hid ((((B_1.out.trans (hb8.mono B_1.out.size)).setCell (p := ⟨w3.heap.size, 4, none⟩) hge (.bool g8)).setCell (p := ⟨w3.heap.size, 5, none⟩) hge (.slice A8 l8.length c8)).setCell (p := ⟨w3.heap.size, 6, none⟩) hge (.slice B8 x8.length d8)); have k8 := (E_1.out.below hb8).box; obtain ⟨_, _, _, _, ee4, ee5, ee6⟩ := (E_1.out.below hb8).cells; have fe4 := k8.free 4; have fe5 := k8.free 5; have fe6 := k8.free 6; clear hq8 q81 q82 hap8 hb8 k8) | (go_at_call 72; (with_reducible refine (impl_rowAt P K u (some ⟨G, 0, none⟩) n n _ hur hn20 (Nat.le_refl _) (fun _ => ⟨G, 0, rfl⟩) hu24 hK24).mono ?_); rintro e w7 ⟨A7, c7, rfl, hc7, hat7, hb7⟩; have HR7 := Lib.hid ((HI6.out.below hb7).row hat7 hur hK24); rw [← HV2.out] at hat7; obtain rfl : A7 = some ⟨G, v * 3, none⟩ := (by rcases hat7 with h0 | ⟨bb, oo, hA, hA'⟩; (exfalso; omega); (cases hA; rw [hA', Nat.zero_add])); obtain ⟨b3, o3, hbo, hb3, r, hr, A3, n3, c3, B3, m3, d3, at3, i3, ra3, j3, rb3⟩ := HR7.out.at_ k' hk'; cases hbo; have hrc : cell K s.rs i k' = r := (by rw [show cell K s.rs i k' = cell K (mswap P K s.rs u i) u k' from (by rw [cell_mswap hlt hk', if_pos rfl])]; unfold cell; rw [← mrow_at (rs := mswap P K s.rs u i) hk', hr]; rfl); have HRC := Lib.hid hrc; have hn3 := i3.2.1; have hm3 := j3.2.1; have I3 := Lib.hid i3; have J3 := Lib.hid j3; have RA3 := Lib.hid ra3; have RB3 := Lib.hid rb3; obtain ⟨e30, e31, e32⟩ := at3; have E_1 := Lib.hid (E_0.out.below hb7); have B_1 := Lib.hid (B_0.out.trans (hb7.mono B_0.out.size)); obtain ⟨_, _, _, _, ed4, ed5, ed6⟩ := E_1.out.cells; clear hat7 hb7 hr hrc i3 j3 ra3 rb3))
        all_goals (go_wp2_with fail; go_meet; exact ⟨A8, B8, c8, d8, E_2, B_2⟩)
      obtain ⟨Aq2, Bq2, cq2, dq2, E7, B7⟩ := hcut
      obtain ⟨w7, rfl⟩ : ∃ q, q = wc := ⟨_, rfl⟩
      have hs17 : w1.heap.size ≤ w7.heap.size := B7.out.size
      have hpn7 : (cell K (mswap P K s.rs u i) u k').xs ≠ [] := by rw [cell_mswap hlt hk', if_pos rfl]; exact HPN.out
      have HPN7 := Lib.hid hpn7
      clear hpn7 E6 B6
      obtain ⟨ec0, ec1, ec2, ec3, ec4, ec5, ec6⟩ := E7.out.cells
      go_wp2_with fail
      clear ec0 ec1 ec2 ec3 ec4 ec5 ec6
      refine (impl_divideRow w1.heap.size G n n P K u k' (mswap P K s.rs u i) L6 _ E7.out.own E7.out.has HNPK.out HMS.out hlt hk' HPN7.out hs17).mono ?_
      rintro e w8 ⟨b8, rfl, hok8, hl8, hW8⟩
      have B8 := Lib.hid (Wrote.below B7.out hW8 (fun k hk => by subst hk; exact E7.out.gb.1) hs17)
      cases b8
      case false =>
        have HNO : Hid (¬ Elim P K rs) := fun h => HNB.out (fun hall => by have h2 := hok8.2 (div_of_piv hEO.out.mok hlt hiP hall); cases h2) (Elim.nat.1 h).2
        have hz_8 := Lib.hid (hz_1.out.below B8.out hz_1.out.lt)
        have BW_8 := Lib.hid (BW_1.out.trans (B8.out.mono BW_1.out.size))
        clear hok8 hl8 hW8
        go_upto_region 14 with fail
        go_cut [3] (fun s3 wx => s3 = .bool false ∧ Hid (Box wx (w.heap.size + 1) 115 #[.int .i64 0, .int .i64 0, .slice none 0 0, .slice none 0 0, .bool false, .slice none 0 0, .slice none 0 0]) ∧ Hid (Below w.heap.size w wx))
        case first =>
          have ehz0 := hz_8.out.cell 0
          have ehz1 := hz_8.out.cell 1
          have ehz2 := hz_8.out.cell 2
          have ehz3 := hz_8.out.cell 3
          have ehz4 := hz_8.out.cell 4
          have ehz5 := hz_8.out.cell 5
          have ehz6 := hz_8.out.cell 6
          have fhz0 := hz_8.out.free 0
          have fhz1 := hz_8.out.free 1
          have fhz2 := hz_8.out.free 2
          have fhz3 := hz_8.out.free 3
          have fhz4 := hz_8.out.free 4
          have fhz5 := hz_8.out.free 5
          have fhz6 := hz_8.out.free 6
          simp at ehz0 ehz1 ehz2 ehz3 ehz4 ehz5 ehz6
          go_wp2_with fail
          go_meet
          exact ⟨rfl, box_set7 hz_8.out _ _ _ _ _ _ _, below_set7 BW_8.out (by omega) _ _ _ _ _ _ _⟩
        obtain ⟨rfl, hz_z, BW_z⟩ := hcut
        have ehz0 := hz_z.out.cell 0
        have ehz1 := hz_z.out.cell 1
        have ehz2 := hz_z.out.cell 2
        have ehz3 := hz_z.out.cell 3
        have ehz4 := hz_z.out.cell 4
        have ehz5 := hz_z.out.cell 5
        have ehz6 := hz_z.out.cell 6
        have fhz0 := hz_z.out.free 0
        have fhz1 := hz_z.out.free 1
        have fhz2 := hz_z.out.free 2
        have fhz3 := hz_z.out.free 3
        have fhz4 := hz_z.out.free 4
        have fhz5 := hz_z.out.free 5
        have fhz6 := hz_z.out.free 6
        simp at ehz0 ehz1 ehz2 ehz3 ehz4 ehz5 ehz6
        rename_i hKK
        refine hKK _ _ ?_
        apply wp_ret
        dsimp +zetaDelta only [Exit.then, Exit.inBlock]
        refine bodyPost_ret (v := .tuple #[.agg #[.int .i64 0, .int .i64 0, .slice none 0 0, .slice none 0 0, .bool false, .slice none 0 0, .slice none 0 0], .bool false]) (by simp [results, Tryz.results108, ehz0, ehz1, ehz2, ehz3, ehz4, ehz5, ehz6, go_sem]) rfl ?_
        exact .inl ⟨HNO.out, rfl, BW_z.out⟩
      obtain ⟨L8, ho8, hh8, hf8⟩ := hl8 rfl
      have E8 := Lib.hid (E7.out.changed ho8 hh8 hf8 hW8)
      have HMD : Hid (MOk P K (mdiv P K (mswap P K s.rs u i) u k')) := mok_of hP24 hK24 mdiv_length (hok8.1 rfl)
      have hs18 : w1.heap.size ≤ w8.heap.size := B8.out.size
      clear hok8 hl8 hW8 ho8 hh8 hf8 E7 B7
      obtain ⟨ec0, ec1, ec2, ec3, ec4, ec5, ec6⟩ := E8.out.cells
      go_wp2_with fail
      clear ec0 ec1 ec2 ec3 ec4 ec5 ec6
      refine (impl_clearColumn w1.heap.size G n n P K u k' (mdiv P K (mswap P K s.rs u i) u k') L8 _ E8.out.own E8.out.has HNPK.out HMD.out hlt hk' hs18).mono ?_
      rintro e w9 ⟨b9, rfl, hok9, hl9, hW9⟩
      have B9 := Lib.hid (Wrote.below B8.out hW9 (fun k hk => by subst hk; exact E8.out.gb.1) hs18)
      cases b9
      case false =>
        have HNO : Hid (¬ Elim P K rs) := fun h => HNB.out (fun hall => by have h2 := hok9.2 hall; cases h2) (Elim.nat.1 h).2
        have hz_9 := Lib.hid (hz_1.out.below B9.out hz_1.out.lt)
        have BW_9 := Lib.hid (BW_1.out.trans (B9.out.mono BW_1.out.size))
        clear hok9 hl9 hW9
        go_upto_region 14 with fail
        go_cut [3] (fun s3 wx => s3 = .bool false ∧ Hid (Box wx (w.heap.size + 1) 115 #[.int .i64 0, .int .i64 0, .slice none 0 0, .slice none 0 0, .bool false, .slice none 0 0, .slice none 0 0]) ∧ Hid (Below w.heap.size w wx))
        case first =>
          have ehz0 := hz_9.out.cell 0
          have ehz1 := hz_9.out.cell 1
          have ehz2 := hz_9.out.cell 2
          have ehz3 := hz_9.out.cell 3
          have ehz4 := hz_9.out.cell 4
          have ehz5 := hz_9.out.cell 5
          have ehz6 := hz_9.out.cell 6
          have fhz0 := hz_9.out.free 0
          have fhz1 := hz_9.out.free 1
          have fhz2 := hz_9.out.free 2
          have fhz3 := hz_9.out.free 3
          have fhz4 := hz_9.out.free 4
          have fhz5 := hz_9.out.free 5
          have fhz6 := hz_9.out.free 6
          simp at ehz0 ehz1 ehz2 ehz3 ehz4 ehz5 ehz6
          go_wp2_with fail
          go_meet
          exact ⟨rfl, box_set7 hz_9.out _ _ _ _ _ _ _, below_set7 BW_9.out (by omega) _ _ _ _ _ _ _⟩
        obtain ⟨rfl, hz_z, BW_z⟩ := hcut
        have ehz0 := hz_z.out.cell 0
        have ehz1 := hz_z.out.cell 1
        have ehz2 := hz_z.out.cell 2
        have ehz3 := hz_z.out.cell 3
        have ehz4 := hz_z.out.cell 4
        have ehz5 := hz_z.out.cell 5
        have ehz6 := hz_z.out.cell 6
        have fhz0 := hz_z.out.free 0
        have fhz1 := hz_z.out.free 1
        have fhz2 := hz_z.out.free 2
        have fhz3 := hz_z.out.free 3
        have fhz4 := hz_z.out.free 4
        have fhz5 := hz_z.out.free 5
        have fhz6 := hz_z.out.free 6
        simp at ehz0 ehz1 ehz2 ehz3 ehz4 ehz5 ehz6
        rename_i hKK
        refine hKK _ _ ?_
        apply wp_ret
        dsimp +zetaDelta only [Exit.then, Exit.inBlock]
        refine bodyPost_ret (v := .tuple #[.agg #[.int .i64 0, .int .i64 0, .slice none 0 0, .slice none 0 0, .bool false, .slice none 0 0, .slice none 0 0], .bool false]) (by simp [results, Tryz.results108, ehz0, ehz1, ehz2, ehz3, ehz4, ehz5, ehz6, go_sem]) rfl ?_
        exact .inl ⟨HNO.out, rfl, BW_z.out⟩
      obtain ⟨L9, ho9, hh9, hf9⟩ := hl9 rfl
      have E9 := Lib.hid (E8.out.changed ho9 hh9 hf9 hW9)
      have HEN := Lib.hid (HNX.out (hok9.1 rfl))
      have hs19 : w1.heap.size ≤ w9.heap.size := B9.out.size
      have hbx9 : Below w9.heap.size w9 (w9.alloc (.cells #[.int .i64 k'] 3)) := (Below.refl _ _).alloc (Nat.le_refl _) _
      have E10 := Lib.hid (E9.out.below hbx9)
      have B10 := Lib.hid (B9.out.trans (hbx9.mono hs19))
      have h63 : u + 1 ≤ maxLen := by unfold maxLen; omega
      have hby8 : (u + 1) * 8 ≤ 140737488355328 := by omega
      clear hok9 hl9 hW9 ho9 hh9 hf9 hbx9 E8 B8
      obtain ⟨ec0, ec1, ec2, ec3, ec4, ec5, ec6⟩ := E9.out.cells
      go_wp2_with (at_builtin; refine wpList_append_own_at _ rfl _ _ 31 rfl w1.heap.size 3 i0 (.int .i64 0) 1 8 Tryz.underlying31 hi hz0 hz1 hz2 rfl (by decide) (.slice Ap u cp) u (ivals s.pv) rfl E10.out.piv ⟨w9.heap.size, 0, none⟩ 1 1 [.int .i64 (k' : Int)] rfl rfl (cell_one_new _ _ _) (by simp [Value.oneCell']) h63 hby8 B10.out.size ?_)
      intro v' w11 s1 s2 _ s4
      rw [show w9.heap.size + 1 = (w9.alloc (.cells #[.int .i64 k'] 3)).heap.size by simp] at s4
      obtain ⟨A11, c11, rfl⟩ := own_slice s1
      have E11 := Lib.hid (E10.out.setPiv s1 s2 s4)
      have B11 := Lib.hid ((B10.out.grown s2 B10.out.size (fun k hk => (E10.out.piv.lt k hk).1)).setCell (p := ⟨w3.heap.size, 3, none⟩) hge (.slice A11 (u + 1) c11))
      have hb11 := E10.out.box.grown s2 fun e => E10.out.rest.2.1 w3.heap.size e.symm rfl
      have ef3 := hb11.cell 3
      have ff3 := hb11.free 3
      simp [eCells] at ef3
      have HQF : Hid (q2 = prod (enext P K s u i k').fs) := by
        show q2 = prod (s.fs ++ ((if i = u then [] else [rint (-1)]) ++ [cell K s.rs i k']))
        rw [prod_step, HQ2.out, HQ1.out, hQ.out]
        rfl
      clear ec0 ec1 ec2 ec3 ec4 ec5 ec6 s1 s2 s4 hb11
      go_wp2_with fail
      go_roundw
      case rel => exact ⟨u + 1, k' + 1, enext P K s u i k', L9, q2, A11, Aq2, Bq2, c11, cq2, dq2, by omega, by go_num, HEN, HQF, E11, B11⟩
      case measure => simp [intOf]; omega
    · obtain rfl : u = P := by omega
      have hst := hEO.out.full rfl
      have hz_5 := Lib.hid (hz_1.out.below hb.out hz_1.out.lt)
      have BW_5 := Lib.hid (BW_1.out.trans (hb.out.mono BW_1.out.size))
      have HEL : Hid (Elim u K rs) := Elim.nat.2 ⟨HM.out, by rw [hst]; exact hEO.out.mok.all⟩
      have HST := Lib.hid hst
      obtain ⟨ec0, ec1, ec2, ec3, ec4, ec5, ec6⟩ := hE.out.cells
      clear hst
      have ehz0 := hz_5.out.cell 0
      have ehz1 := hz_5.out.cell 1
      have ehz2 := hz_5.out.cell 2
      have ehz3 := hz_5.out.cell 3
      have ehz4 := hz_5.out.cell 4
      have ehz5 := hz_5.out.cell 5
      have ehz6 := hz_5.out.cell 6
      have fhz0 := hz_5.out.free 0
      have fhz1 := hz_5.out.free 1
      have fhz2 := hz_5.out.free 2
      have fhz3 := hz_5.out.free 3
      have fhz4 := hz_5.out.free 4
      have fhz5 := hz_5.out.free 5
      have fhz6 := hz_5.out.free 6
      simp at ehz0 ehz1 ehz2 ehz3 ehz4 ehz5 ehz6
      go_wp2_with fail
      refine bodyPost_ret (v := .tuple #[.agg #[.int .i64 u, .int .i64 K, .slice (some ⟨G, 0, none⟩) n n, .slice Ap u cp, .bool q.g, .slice Aq q.xs.length cq, .slice Bq q.ds.length dq], .bool true]) (by simp [results, Tryz.results108, ehz0, ehz1, ehz2, ehz3, ehz4, ehz5, ehz6, go_sem]) rfl ?_
      exact .inr ⟨HEL.out, u, K, G, n, u, cp, cq, dq, L, s, q, Ap, Aq, Bq, rfl, rfl, rfl, hE.out.out hz_5.out (by omega) BW_5.out hsz1 HST.out hEO.out.len hQ.out HNPK.out⟩
end Go.Proofs.YthjbfdifeffilaaGreat
