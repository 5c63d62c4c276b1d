/- Contracts of the elimination, by the program: a matrix beside another. -/
import Derived.Test.YthjbfdifeffilaaGreatEA
namespace Go.Proofs.YthjbfdifeffilaaGreat
set_option maxRecDepth 100000
open Go.RowKit Go.Deep

theorem take_pre {α : Type} {l m : List α} {u : Nat} (h : l.length = u) : (l ++ m).take u = l := by
  subst h
  exact List.take_left
theorem drop_pre {α : Type} {l : List α} {x : α} {u r k : Nat} (h : l.length = u) : (l ++ List.replicate r x).drop (u + k) = List.replicate (r - k) x := by
  subst h
  rw [← List.drop_drop, List.drop_left, List.drop_replicate]
def BesG (P Q N : Nat) (zs : List RD) (w w' : World) (e : Ending) : Prop := ∃ G, e = .returned (.agg #[.int .i64 P, .int .i64 Q, .slice (some ⟨G, 0, none⟩) N N]) ∧ InV w' (some ⟨G, 0, none⟩) N zs ∧ Below w.heap.size w w'
theorem Row.box3 {w0 w : World} {G N g : Nat} {L : List El} (h : Row w0 w G N L) (hne : G ≠ g) (hg : w0.heap.size ≤ g) (u0 u1 u2 : Value) : Row w0 (((w.setCell ⟨g, 0, none⟩ u0).setCell ⟨g, 1, none⟩ u1).setCell ⟨g, 2, none⟩ u2) G N L :=
  ⟨h.1, by simpa using h.2.1, h.2.2.1, ((Below.heap_setCell _ _ _ _ hne).trans ((Below.heap_setCell _ _ _ _ hne).trans (Below.heap_setCell _ _ _ _ hne))).trans h.2.2.2.1, below_store3 h.2.2.2.2 hg _ _ _⟩
set_option maxHeartbeats 6400000 in
theorem impl_beside (P K M Q N : Nat) (A : Option Addr) (n c : Nat) (rs : List RD) (B : Option Addr) (m d : Nat) (ss : List RD) (w : World) (h1 : InV w A n rs) (h2 : InV w B m ss) (hnP : n = P * K) (hmP : m = P * M) (hcn : n ≤ c) (hcm : m ≤ d) (hP24 : P ≤ 24) (hK0 : 0 < P → 0 < K) (hM0 : 0 < P → 0 < M) (hQ : Q = K + M) (hQ24 : Q ≤ 24) (hN : N = P * Q) :
    Calls Tryz.prog 154 #[.agg #[.int .i64 P, .int .i64 K, .slice A n c], .agg #[.int .i64 P, .int .i64 M, .slice B m d]] w fun e w' => BesG P Q N (besTo K M rs ss P) w w' e := by
  have hsz : (Tryz.prog.info? 35).map (·.size) = some 3 := by kernel_rfl
  have HSZ := Lib.hid hsz
  obtain ⟨W0, hW0⟩ : ∃ W, W = (((w.alloc (.cells #[.int .i64 P, .int .i64 K, .slice A n c] 25)).alloc (.cells #[.int .i64 P, .int .i64 M, .slice B m d] 25)).alloc (.cells #[.int .i64 0, .int .i64 0, .slice none 0 0] 25)) := ⟨_, rfl⟩
  have hm0_0 : Hid (Box W0 (w.heap.size) 25 #[.int .i64 P, .int .i64 K, .slice A n c]) := by rw [hW0]; exact (((Box.at' (by simp)).alloc _).alloc _)
  have hm1_0 : Hid (Box W0 (w.heap.size + 1) 25 #[.int .i64 P, .int .i64 M, .slice B m d]) := by rw [hW0]; exact ((Box.at' (by simp)).alloc _)
  have ht_0 : Hid (Box W0 (w.heap.size + 1 + 1) 25 #[.int .i64 0, .int .i64 0, .slice none 0 0]) := by rw [hW0]; exact (Box.at' (by simp))
  have BW_0 : Hid (Below w.heap.size w W0) := by rw [hW0]; exact ((((Below.refl w.heap.size w).alloc (by simp) _).alloc (by simp) _).alloc (by simp; omega) _)
  have hsz0 : w.heap.size + 1 + 1 + 1 ≤ W0.heap.size := by rw [hW0]; simp
  have hn := h1.2.1
  have hm := h2.2.1
  have HA1 := Lib.hid h1
  have HA2 := Lib.hid h2
  have HNP := Lib.hid hnP
  have HMP := Lib.hid hmP
  have HQQ := Lib.hid hQ
  have HNN := Lib.hid hN
  have HK0 := Lib.hid hK0
  have HM0 := Lib.hid hM0
  have HS1 := Lib.hid h1.some_
  have HS2 := Lib.hid h2.some_
  have hkm : (K : Int) + (M : Int) = (Q : Int) := by omega
  have hK24 : K ≤ 24 := by omega
  have hM24 : M ≤ 24 := by omega
  have hN5 : N ≤ 576 := by rw [hN]; exact mul_le_576 hP24 hQ24
  have hN20 : N ≤ 1048576 := by omega
  have hlt0 := hm0_0.out.lt
  have hlt1 := hm1_0.out.lt
  have hltt := ht_0.out.lt
  have HL1 : Hid (rs.length = P * K) := by unfold Hid; rw [← hnP]; exact h1.1
  have HL2 : Hid (ss.length = P * M) := by unfold Hid; rw [← hmP]; exact h2.1
  clear h1 h2 hnP hmP hQ hN hK0 hM0 hsz
  go_enter Tryz.func154, Tryz.ntmps154
  go_wp2_with fail
  rw [← hW0]
  clear hW0
  have ehm00 := hm0_0.out.cell 0
  have ehm01 := hm0_0.out.cell 1
  have ehm02 := hm0_0.out.cell 2
  have ehm10 := hm1_0.out.cell 0
  have ehm11 := hm1_0.out.cell 1
  have ehm12 := hm1_0.out.cell 2
  have eht0 := ht_0.out.cell 0
  have eht1 := ht_0.out.cell 1
  have eht2 := ht_0.out.cell 2
  have fht0 := ht_0.out.free 0
  have fht1 := ht_0.out.free 1
  have fht2 := ht_0.out.free 2
  simp at ehm00 ehm01 ehm02 ehm10 ehm11 ehm12 eht0 eht1 eht2
  go_wp2_with fail
  clear ehm00 ehm01 ehm02 ehm10 ehm11 ehm12 eht0 fht0 eht1 fht1 eht2 fht2
  refine (impl_newMatrix P Q _ hP24 hQ24).mono ?_
  rintro e w2 ⟨G, rfl, ho, hb⟩
  rw [← HNN.out] at ho ⊢
  obtain ⟨W3, hW3⟩ : ∃ W, W = w2.alloc (.cells #[.int .i64 P, .int .i64 Q, .slice (some ⟨G, 0, none⟩) N N] 25) := ⟨_, rfl⟩
  have hbx : Below w2.heap.size w2 W3 := by rw [hW3]; exact (Below.refl _ _).alloc (Nat.le_refl _) _
  have X_3 : Hid (Box W3 w2.heap.size 25 #[.int .i64 P, .int .i64 Q, .slice (some ⟨G, 0, none⟩) N N]) := by rw [hW3]; exact Box.new _ _ _
  have BZ : Hid (Below W0.heap.size W0 W3) := hb.trans (hbx.mono hb.size)
  have BW_3 := Lib.hid (BW_0.out.trans (BZ.out.mono BW_0.out.size))
  have R3 : Hid (Row w W3 G N (List.replicate N El.zero)) := Row.of_own (ho.below hbx) rfl BW_0.out.size BW_3.out
  have hm0_3 := Lib.hid (hm0_0.out.below BZ.out hm0_0.out.lt)
  have hm1_3 := Lib.hid (hm1_0.out.below BZ.out hm1_0.out.lt)
  have ht_3 := Lib.hid (ht_0.out.below BZ.out ht_0.out.lt)
  have hG2 : G < w2.heap.size := (own_at0 ho.2.1).2
  have hG1 : W0.heap.size ≤ G := (own_at0 ho.2.1).1
  have hem := hm0_3
  rw [hW3] at hem
  have em0 := hem.out.cell 0
  have em1 := hem.out.cell 1
  have em2 := hem.out.cell 2
  simp at em0 em1 em2
  clear ho hb hbx hem
  go_wp2_with fail
  rw [← hW3]
  clear hW3 em0 em1 em2
  go_loopw [17] (fun y wr => ∃ (i u : Nat) (L : List El), i ≤ P ∧ y = .int .i64 i ∧ Hid (u = i * Q) ∧ Hid (Row w wr G N L) ∧ Hid (Refs w L (besTo K M rs ss i ++ List.replicate (N - u) RD.zero)) ∧ Hid (Wrote (fun k => k = G) W3 wr)) (fun y _ => P - (intOf y).toNat)
  case atStart => exact ⟨0, 0, _, Nat.zero_le _, rfl, by simp [Hid], R3, refs_zeros N, Wrote.refl _ _⟩
  case round =>
    obtain ⟨i, u, L, hle, rfl, hu, hR, hrf, hW⟩ := hrel
    have Mm : Hid (Box wr w.heap.size 25 #[.int .i64 P, .int .i64 K, .slice A n c]) := (hW.out.block _ hm0_3.out.lt (by omega)).trans hm0_3.out
    have Mn : Hid (Box wr (w.heap.size + 1) 25 #[.int .i64 P, .int .i64 M, .slice B m d]) := (hW.out.block _ hm1_3.out.lt (by omega)).trans hm1_3.out
    have Xx : Hid (Box wr w2.heap.size 25 #[.int .i64 P, .int .i64 Q, .slice (some ⟨G, 0, none⟩) N N]) := (hW.out.block _ X_3.out.lt (by omega)).trans X_3.out
    by_cases hlt : i < P
    · have hi0 : (0 : Int) ≤ (i : Int) := by omega
      have hi1 : (i : Int) < (P : Int) := by omega
      have hi24 : i ≤ 24 := by omega
      have hir : i * K + K ≤ n := by rw [HNP.out]; exact row_le hlt
      have hjr : i * M + M ≤ m := by rw [HMP.out]; exact row_le hlt
      have hur : u + Q ≤ N := by rw [hu.out, HNN.out]; exact row_le hlt
      have hirQ : i * Q + Q ≤ N := by rw [HNN.out]; exact row_le hlt
      have hK0 := HK0.out (by omega)
      have hM0 := HM0.out (by omega)
      have hQKM := HQQ.out
      have HU : Hid (u = i * Q) := hu
      obtain ⟨b1, o1, hA1⟩ := HS1.out (by omega)
      obtain ⟨b2, o2, hA2⟩ := HS2.out (by omega)
      obtain ⟨v1, hv1⟩ : ∃ v1, v1 = i * K := ⟨_, rfl⟩
      obtain ⟨v2, hv2⟩ : ∃ v2, v2 = i * M := ⟨_, rfl⟩
      obtain ⟨M1, m1, r1, l1, c1⟩ := HA1.out.refs hA1 (u := v1) (K := K) (by omega) hK0
      obtain ⟨M2, m2, r2, l2, c2⟩ := HA2.out.refs hA2 (u := v2) (K := M) (by omega) hM0
      have hplen : (besTo K M rs ss i).length = u := by rw [besTo_length HL1.out HL2.out i hle, hu.out, HQQ.out]
      have HPL := Lib.hid hplen
      have HV1 := Lib.hid hv1
      have HV2 := Lib.hid hv2
      have HM1 := Lib.hid m1
      have HM2 := Lib.hid m2
      have HR1 := Lib.hid r1
      have HR2 := Lib.hid r2
      have HC1 := Lib.hid c1
      have HC2 := Lib.hid c2
      have HLB1 := Lib.hid l1
      have HLB2 := Lib.hid l2
      have HO1 := Lib.hid r1.one
      have HO2 := Lib.hid r2.one
      subst hA1 hA2
      have Rr := Lib.hid (hR.out.below (Below.refl _ _).drew)
      have hK1 : (0 : Int) ≤ (K : Int) := by omega
      have hK2 : (K : Int) ≤ (Q : Int) := by omega
      have ex0 := Xx.out.cell 0
      have ex1 := Xx.out.cell 1
      have ex2 := Xx.out.cell 2
      have ep0 := Mm.out.cell 0
      have ep1 := Mm.out.cell 1
      have ep2 := Mm.out.cell 2
      simp at ex0 ex1 ex2 ep0 ep1 ep2
      replace Xx := Lib.hid Xx.out.drew
      replace Mm := Lib.hid Mm.out.drew
      replace Mn := Lib.hid Mn.out.drew
      have Ww : Hid (Wrote (fun k => k = G) W3 wr.drew) := hW.out.trans (Wrote.of_below (Below.refl _ _).drew)
      have hQm : u + K ≤ N := by omega
      have hRs : (some (⟨b1, o1, none⟩ : Addr)) = some ⟨b1, o1, none⟩ := rfl
      clear hplen hv1 hv2 m1 m2 r1 r2 c1 c2 l1 l2 hQKM hRs hu
      go_upto_region 5 with fail
      go_cut [26] (fun _ wx => Hid (Row w wx G N (L.take u ++ M1 ++ L.drop (u + K))) ∧ Hid (Wrote (fun k => k = G) W3 wx))
      case first =>
        go_region_law (first | (refine step_copy_row (w0 := w) rfl (.tmp 22) (.tmp 25) 23 23 rfl Tryz.underlying23 HSZ.out G u (u * 3) N K Q _ _ ⟨b1, o1 + v1 * 3, none⟩ rfl rfl rfl (by omega) L M1 Rr.out HM1.out (fun k v hv => by rw [Addr.add_lit]; exact (Rr.out.2.2.2.2.cell (p := ⟨b1, o1 + v1 * 3 + k, none⟩) HLB1.out).trans (HC1.out k v hv)) HO1.out hQm ?_; intro w5 hr5 hw5; have Rr5 := Lib.hid hr5; have Ww5 := Lib.hid (Ww.out.trans hw5); have Xx5 : Hid (Box w5 w2.heap.size 25 #[.int .i64 P, .int .i64 Q, .slice (some ⟨G, 0, none⟩) N N]) := (hw5.block _ Xx.out.lt (by omega)).trans Xx.out; have Mm5 : Hid (Box w5 w.heap.size 25 #[.int .i64 P, .int .i64 K, .slice (some ⟨b1, o1, none⟩) n c]) := (hw5.block _ Mm.out.lt (by omega)).trans Mm.out; have Mn5 : Hid (Box w5 (w.heap.size + 1) 25 #[.int .i64 P, .int .i64 M, .slice (some ⟨b2, o2, none⟩) m d]) := (hw5.block _ Mn.out.lt (by omega)).trans Mn.out; clear hr5 hw5) | (go_simp; go_at_call 72; first | ((with_reducible refine (impl_rowAt P Q i (some ⟨G, 0, none⟩) N N _ hirQ hN20 (Nat.le_refl _) (fun _ => ⟨G, 0, rfl⟩) hi24 hQ24).mono ?_); rintro e w4 ⟨A7, c7, rfl, hc7, hat7, hb7⟩; rw [← HU.out] at hat7; obtain rfl : A7 = some ⟨G, u * 3, none⟩ := (by rcases hat7 with h0 | ⟨bb, oo, hA, hA'⟩; (exfalso; omega); (cases hA; rw [hA', Nat.zero_add])); replace Xx := Lib.hid (Xx.out.below hb7 Xx.out.lt); replace Mm := Lib.hid (Mm.out.below hb7 Mm.out.lt); replace Mn := Lib.hid (Mn.out.below hb7 Mn.out.lt); replace Rr := Lib.hid (Rr.out.below hb7); replace Ww := Lib.hid (Ww.out.trans (Wrote.of_below hb7)); have fx0 := Xx.out.cell 0; have fx1 := Xx.out.cell 1; have fx2 := Xx.out.cell 2; have fp0 := Mm.out.cell 0; have fp1 := Mm.out.cell 1; have fp2 := Mm.out.cell 2; simp at fx0 fx1 fx2 fp0 fp1 fp2; clear hat7 hb7) | ((with_reducible refine (impl_rowAt P K i (some ⟨b1, o1, none⟩) n c _ hir hn hcn (fun _ => ⟨b1, o1, rfl⟩) hi24 hK24).mono ?_); rintro e w6 ⟨A8, c8, rfl, hc8, hat8, hb8⟩; rw [← HV1.out] at hat8; obtain rfl : A8 = some ⟨b1, o1 + v1 * 3, none⟩ := (by rcases hat8 with h0 | ⟨bb, oo, hA, hA'⟩; (exfalso; omega); (cases hA; exact hA')); replace Xx := Lib.hid (Xx.out.below hb8 Xx.out.lt); replace Mm := Lib.hid (Mm.out.below hb8 Mm.out.lt); replace Mn := Lib.hid (Mn.out.below hb8 Mn.out.lt); replace Rr := Lib.hid (Rr.out.below hb8); replace Ww := Lib.hid (Ww.out.trans (Wrote.of_below hb8)); have gx0 := Xx.out.cell 0; have gx1 := Xx.out.cell 1; have gx2 := Xx.out.cell 2; have gp0 := Mm.out.cell 0; have gp1 := Mm.out.cell 1; have gp2 := Mm.out.cell 2; simp at gx0 gx1 gx2 gp0 gp1 gp2; clear hat8 hb8)))
        all_goals
          go_wp2_with fail
          go_meet
          exact ⟨Rr5, Ww5⟩
      obtain ⟨Rr5, Ww5⟩ := hcut
      obtain ⟨w5, rfl⟩ : ∃ q, q = wc := ⟨_, rfl⟩
      have Mm5 : Hid (Box w5 w.heap.size 25 #[.int .i64 P, .int .i64 K, .slice (some ⟨b1, o1, none⟩) n c]) := (Ww5.out.block _ hm0_3.out.lt (by omega)).trans hm0_3.out
      have Mn5 : Hid (Box w5 (w.heap.size + 1) 25 #[.int .i64 P, .int .i64 M, .slice (some ⟨b2, o2, none⟩) m d]) := (Ww5.out.block _ hm1_3.out.lt (by omega)).trans hm1_3.out
      have Xx5 : Hid (Box w5 w2.heap.size 25 #[.int .i64 P, .int .i64 Q, .slice (some ⟨G, 0, none⟩) N N]) := (Ww5.out.block _ X_3.out.lt (by omega)).trans X_3.out
      have hrf5 : Refs w (L.take u ++ M1 ++ L.drop (u + K)) (besTo K M rs ss i ++ mrow K rs i ++ List.replicate (N - u - K) RD.zero) := by
        have h1 := hrf.out.take u
        have h2 := hrf.out.drop (u + K)
        rw [take_pre HPL.out] at h1
        rw [drop_pre HPL.out] at h2
        have h3 := HR1.out
        rw [HV1.out] at h3
        exact (h1.append h3).append h2
      have HRF5 := Lib.hid hrf5
      have HP5 : Hid ((besTo K M rs ss i ++ mrow K rs i).length = u + K) := by
        unfold Hid
        rw [List.length_append, HPL.out, mrow_length HL1.out hlt]
      obtain ⟨L5, hL5⟩ : ∃ L5, L5 = L.take u ++ M1 ++ L.drop (u + K) := ⟨_, rfl⟩
      rw [← hL5] at HRF5 Rr5
      clear hrf5 hL5
      have ey0 := Xx5.out.cell 0
      have ey1 := Xx5.out.cell 1
      have ey2 := Xx5.out.cell 2
      have eq0 := Mm5.out.cell 0
      have eq1 := Mm5.out.cell 1
      have eq2 := Mm5.out.cell 2
      have er0 := Mn5.out.cell 0
      have er1 := Mn5.out.cell 1
      have er2 := Mn5.out.cell 2
      simp at ey0 ey1 ey2 eq0 eq1 eq2 er0 er1 er2
      have Rs := Lib.hid (Rr5.out.below (Below.refl _ _).drew)
      have Ws : Hid (Wrote (fun k => k = G) W3 w5.drew) := Ww5.out.trans (Wrote.of_below (Below.refl _ _).drew)
      have Xs := Lib.hid Xx5.out.drew
      have Ms := Lib.hid Mm5.out.drew
      have Ns := Lib.hid Mn5.out.drew
      have hQKM : Q = K + M := HQQ.out
      have hu2 : u + K + M ≤ N := by omega
      have hQK : Q - K = M := by omega
      have HQK := Lib.hid hQK
      have hMQ : M ≤ Q - K := by omega
      have HSP : Hid (u * 3 + K * 3 = (u + K) * 3) := by unfold Hid; omega
      clear hQKM hQK
      clear ex0 ex1 ex2 ep0 ep1 ep2
      go_wp2_with fail
      go_region_law (first | (refine step_copy_row (w0 := w) rfl (.tmp 32) (.tmp 35) 23 23 rfl Tryz.underlying23 HSZ.out G (u + K) (u * 3 + K * 3) N M _ _ _ ⟨b2, o2 + v2 * 3, none⟩ rfl HSP.out rfl hMQ L5 M2 Rs.out HM2.out (fun k v hv => by rw [Addr.add_lit]; exact (Rs.out.2.2.2.2.cell (p := ⟨b2, o2 + v2 * 3 + k, none⟩) HLB2.out).trans (HC2.out k v hv)) HO2.out hu2 ?_; intro w9 hr9 hw9; have Rr9 := Lib.hid hr9; have Ww9 := Lib.hid (Ws.out.trans hw9); clear hr9 hw9) | (go_simp; go_at_call 72; first | ((with_reducible refine (impl_rowAt P Q i (some ⟨G, 0, none⟩) N N _ hirQ hN20 (Nat.le_refl _) (fun _ => ⟨G, 0, rfl⟩) hi24 hQ24).mono ?_); rintro e w7 ⟨A9, c9, rfl, hc9, hat9, hb9⟩; rw [← HU.out] at hat9; obtain rfl : A9 = some ⟨G, u * 3, none⟩ := (by rcases hat9 with h0 | ⟨bb, oo, hA, hA'⟩; (exfalso; omega); (cases hA; rw [hA', Nat.zero_add])); have hc9i : (Q : Int) ≤ (c9 : Int) := (by omega); have hc9K : ¬ c9 = K := (by omega); replace Xs := Lib.hid (Xs.out.below hb9 Xs.out.lt); replace Ms := Lib.hid (Ms.out.below hb9 Ms.out.lt); replace Ns := Lib.hid (Ns.out.below hb9 Ns.out.lt); replace Rs := Lib.hid (Rs.out.below hb9); replace Ws := Lib.hid (Ws.out.trans (Wrote.of_below hb9)); have hx0 := Xs.out.cell 0; have hx1 := Xs.out.cell 1; have hx2 := Xs.out.cell 2; have hp0 := Ms.out.cell 0; have hp1 := Ms.out.cell 1; have hp2 := Ms.out.cell 2; have hn0 := Ns.out.cell 0; have hn1 := Ns.out.cell 1; have hn2 := Ns.out.cell 2; simp at hx0 hx1 hx2 hp0 hp1 hp2 hn0 hn1 hn2; clear hat9 hb9) | ((with_reducible refine (impl_rowAt P M i (some ⟨b2, o2, none⟩) m d _ hjr hm hcm (fun _ => ⟨b2, o2, rfl⟩) hi24 hM24).mono ?_); rintro e w8 ⟨A10, c10, rfl, hc10, hat10, hb10⟩; rw [← HV2.out] at hat10; obtain rfl : A10 = some ⟨b2, o2 + v2 * 3, none⟩ := (by rcases hat10 with h0 | ⟨bb, oo, hA, hA'⟩; (exfalso; omega); (cases hA; exact hA')); replace Xs := Lib.hid (Xs.out.below hb10 Xs.out.lt); replace Ms := Lib.hid (Ms.out.below hb10 Ms.out.lt); replace Ns := Lib.hid (Ns.out.below hb10 Ns.out.lt); replace Rs := Lib.hid (Rs.out.below hb10); replace Ws := Lib.hid (Ws.out.trans (Wrote.of_below hb10)); have ix0 := Xs.out.cell 0; have ix1 := Xs.out.cell 1; have ix2 := Xs.out.cell 2; have ip0 := Ms.out.cell 0; have ip1 := Ms.out.cell 1; have ip2 := Ms.out.cell 2; have in0 := Ns.out.cell 0; have in1 := Ns.out.cell 1; have in2 := Ns.out.cell 2; simp at ix0 ix1 ix2 ip0 ip1 ip2 in0 in1 in2; clear hat10 hb10)))
      all_goals
        have HRF9 : Hid (Refs w (L5.take (u + K) ++ M2 ++ L5.drop (u + K + M)) (besTo K M rs ss (i + 1) ++ List.replicate (N - (u + Q)) RD.zero)) := by
          have h1 := HRF5.out.take (u + K)
          have h2 := HRF5.out.drop (u + K + M)
          rw [take_pre HP5.out] at h1
          rw [drop_pre HP5.out] at h2
          have h3 := HR2.out
          rw [HV2.out] at h3
          have h4 := (h1.append h3).append h2
          rw [show N - u - K - M = N - (u + Q) by have := HQQ.out; omega] at h4
          rw [besTo_succ]
          exact h4
        have HU9 : Hid (u + Q = (i + 1) * Q) := by unfold Hid; rw [Nat.add_mul, Nat.one_mul, HU.out]
        go_wp2_with fail
        go_roundw
        case rel => exact ⟨i + 1, u + Q, _, by omega, by go_num, HU9, Rr9, HRF9, Ww9⟩
        case measure => simp [intOf]; omega
    · obtain rfl : i = P := by omega
      have huN : u = N := by rw [hu.out, HNN.out]
      have ht_5 : Hid (Box wr (w.heap.size + 1 + 1) 25 #[.int .i64 0, .int .i64 0, .slice none 0 0]) := (hW.out.block _ ht_3.out.lt (by omega)).trans ht_3.out
      have HRF : Hid (Refs w L (besTo K M rs ss i)) := by have h1 := hrf.out; rw [huN, Nat.sub_self] at h1; unfold Hid; simpa using h1
      have HRow := Lib.hid (hR.out.box3 (g := w.heap.size + 1 + 1) (by omega) (by omega) (.int .i64 i) (.int .i64 Q) (.slice (some ⟨G, 0, none⟩) N N))
      have ex0 := Xx.out.cell 0
      have ex1 := Xx.out.cell 1
      have ex2 := Xx.out.cell 2
      simp at ex0 ex1 ex2
      have eht0 := ht_5.out.cell 0
      have eht1 := ht_5.out.cell 1
      have eht2 := ht_5.out.cell 2
      have fht0 := ht_5.out.free 0
      have fht1 := ht_5.out.free 1
      have fht2 := ht_5.out.free 2
      simp at eht0 eht1 eht2
      clear huN
      go_wp2_with fail
      refine bodyPost_ret (v := .agg #[.int .i64 i, .int .i64 Q, .slice (some ⟨G, 0, none⟩) N N]) (by simp [results, Tryz.results154, eht0, eht1, eht2, go_sem]) rfl ?_
      exact ⟨G, rfl, HRow.out.in_ HRF.out hN20, HRow.out.2.2.2.2⟩
end Go.Proofs.YthjbfdifeffilaaGreat
