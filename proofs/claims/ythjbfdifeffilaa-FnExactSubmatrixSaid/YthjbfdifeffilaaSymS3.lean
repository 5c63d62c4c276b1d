/- Contracts of symmetric matrices, by the model: Submatrix. -/
import Derived.Test.YthjbfdifeffilaaSymS
import Derived.Test.YthjbfdifeffilaaSymL
import Derived.Deep.RegionLaw
namespace Go.Proofs.Ythjbfdifeffilaa
set_option maxRecDepth 100000
open Go.RowKit

def PartEnd (m : Nat) (zs : List RD) (w w' : World) (e : Ending) : Prop := ∃ A N c L, e = .returned (.agg #[.int .i64 m, .int .i64 m, .slice A N c]) ∧ N = m * m ∧ OwnV w' w.heap.size (.slice A N c) N L ∧ Has L zs ∧ Below w.heap.size w w'
set_option maxHeartbeats 12800000 in
theorem spec_l08Part (P : Nat) (A : Option Addr) (n c : Nat) (rs : List RD) (B : Option Addr) (m d : Nat) (ls : List Int) (w : World) (h : InV w A n rs) (hM : MOk P P rs) (h2 : InI w B m ls) (hA : AscIs P ls) :
    Calls Try.prog 66 #[.agg #[.int .i64 P, .int .i64 P, .slice A n c], .slice B m d] w fun e w' => PartEnd m (sub P rs ls) w w' e := by
  obtain ⟨i0, hi, hz0, hz1, hz2⟩ := info_parts Try.infoR
  obtain ⟨W0, hW0⟩ : ∃ W, W = ((w.alloc (.cells #[.int .i64 P, .int .i64 P, .slice A n c] 25)).alloc (.cells #[.int .i64 0, .int .i64 0, .slice none 0 0] 25)) := ⟨_, rfl⟩
  have hm0_0 : Hid (Box W0 (w.heap.size) 25 #[.int .i64 P, .int .i64 P, .slice A n c]) := by rw [hW0]; exact ((Box.at' (by simp)).alloc _)
  have ht_0 : Hid (Box W0 (w.heap.size + 1) 25 #[.int .i64 0, .int .i64 0, .slice none 0 0]) := by rw [hW0]; exact (Box.at' (by simp))
  have BW_0 : Hid (Below w.heap.size w W0) := by rw [hW0]; exact (((Below.refl w.heap.size w).alloc (by simp) _).alloc (by simp) _)
  have hsz0 : w.heap.size + 1 + 1 ≤ W0.heap.size := by rw [hW0]; simp
  have hn := h.2.1
  have hp2 := hM.1
  have hP24 : P ≤ 24 := by omega
  have HV := Lib.hid (h.below BW_0.out)
  have HL1 := Lib.hid (h2.below BW_0.out)
  have HM := Lib.hid hM
  have HA := Lib.hid hA
  have HML : Hid (ls.length = m) := h2.1
  have hm24 : m ≤ 24 := by have h1 := hA.len (by omega); have h3 := h2.1; omega
  obtain ⟨zs, hzs⟩ : ∃ zs, zs = sub P rs ls := ⟨_, rfl⟩
  rw [← hzs]
  have HZ := Lib.hid hzs
  obtain ⟨N, hN⟩ : ∃ N, N = m * m := ⟨_, rfl⟩
  have HN := Lib.hid hN
  have HZL : Hid (zs.length = N) := by unfold Hid; rw [hzs, sub_length, h2.1, hN]
  have hN5 : N ≤ 576 := by rw [hN]; exact mul_le_576 hm24 hm24
  have hlt0 := hm0_0.out.lt
  have hltt := ht_0.out.lt
  have hW0s : W0.heap.size = w.heap.size + 1 + 1 := by rw [hW0]; simp
  clear h h2 hM hA hzs hN
  go_enter Try.func66, Try.ntmps66
  obtain ⟨W2, hW2⟩ : ∃ W, W = W0.alloc (.cells #[.int .i64 m, .int .i64 m, .slice none 0 0] 25) := ⟨_, rfl⟩
  have X_2 : Hid (Box W2 (w.heap.size + 1 + 1) 25 #[.int .i64 m, .int .i64 m, .slice none 0 0]) := by rw [hW2]; exact Box.at' (by rw [hW0]; simp)
  have BZ : Hid (Below W0.heap.size W0 W2) := by rw [hW2]; exact (Below.refl _ _).alloc (Nat.le_refl _) _
  have HW0 : Hid (W2 = (((w.alloc (.cells #[.int .i64 P, .int .i64 P, .slice A n c] 25)).alloc (.cells #[.int .i64 0, .int .i64 0, .slice none 0 0] 25)).alloc (.cells #[.int .i64 m, .int .i64 m, .slice none 0 0] 25))) := Lib.hid (by rw [hW2, hW0])
  clear hW0 hW2
  go_wp2_with fail
  rw [← HW0.out]
  go_loopw [17] (fun y wr => ∃ (i u : Nat) (L : List El) (A1 : Option Addr) (c1 : Nat), i ≤ m ∧ y = .int .i64 i ∧ Hid (u = i * m) ∧ Hid (OwnV wr W0.heap.size (.slice A1 u c1) u L) ∧ Hid (Has L (zs.take u)) ∧ Hid (Box wr (w.heap.size + 1 + 1) 25 #[.int .i64 m, .int .i64 m, .slice A1 u c1]) ∧ Hid (Below W0.heap.size W0 wr)) (fun y _ => m - (intOf y).toNat)
  case atStart => exact ⟨0, 0, [], none, 0, Nat.zero_le _, rfl, by simp [Hid], OwnV.none_ _ _, by rw [List.take_zero]; exact trivial, X_2, BZ⟩
  case round =>
    obtain ⟨i, u0, L, A1, c1, hle, rfl, hu0, ho, hh, hX, hb⟩ := hrel
    by_cases hlt : i < m
    · obtain ⟨wo, rfl⟩ : ∃ wo : World, wo = wr := ⟨_, rfl⟩
      have hi0 : (0 : Int) ≤ (i : Int) := by omega
      have hi1 : (i : Int) < (m : Int) := by omega
      have hil : i < ls.length := by rw [HML.out]; exact hlt
      obtain ⟨z, hz⟩ : ∃ z, ls[i] = z := ⟨_, rfl⟩
      have hz? : ls[i]? = some z := by rw [List.getElem?_eq_getElem hil, hz]
      have hzn := HA.out.nat hz?
      obtain ⟨R, rfl⟩ : ∃ R : Nat, z = R := ⟨z.toNat, by omega⟩
      have hRP : R < P := by omega
      have HZI := Lib.hid hz?
      obtain ⟨bl, ol, hB, hbl, hcl⟩ := (HL1.out.below hb.out).2.2.1.at_ (by simp; omega)
      have hcell : wo.cell? ⟨bl, ol + i, none⟩ = some (.int .i64 (R : Int)) := (hcl i (by simpa using hil)).trans (by simp [hz])
      subst hB
      have U0 : Hid (u0 = i * m + 0) := hu0
      clear hz hz? hcl
      go_wp2_with fail
      clear hcell
      go_loopw [23] (fun x wr => ∃ (j u : Nat) (L : List El) (A1 : Option Addr) (c1 : Nat), j ≤ m ∧ x = .int .i64 j ∧ Hid (u = i * m + j) ∧ Hid (OwnV wr W0.heap.size (.slice A1 u c1) u L) ∧ Hid (Has L (zs.take u)) ∧ Hid (Box wr (w.heap.size + 1 + 1) 25 #[.int .i64 m, .int .i64 m, .slice A1 u c1]) ∧ Hid (Below W0.heap.size W0 wr)) (fun x _ => m - (intOf x).toNat)
      case atStart => exact ⟨0, u0, L, A1, c1, Nat.zero_le _, rfl, U0, ho, hh, hX, hb⟩
      case round =>
        clear ho hh hX hb
        obtain ⟨j, u, L, A1, c1, hlej, rfl, hu, ho, hh, hX, hb⟩ := hrel
        obtain ⟨wi, rfl⟩ : ∃ wi : World, wi = wr := ⟨_, rfl⟩
        have hm0_i := Lib.hid (hm0_0.out.below hb.out hm0_0.out.lt)
        by_cases hltj : j < m
        · have hj0 : (0 : Int) ≤ (j : Int) := by omega
          have hj1 : (j : Int) < (m : Int) := by omega
          have hjl : j < ls.length := by rw [HML.out]; exact hltj
          obtain ⟨z, hz⟩ : ∃ z, ls[j] = z := ⟨_, rfl⟩
          have hz? : ls[j]? = some z := by rw [List.getElem?_eq_getElem hjl, hz]
          have hzn := HA.out.nat hz?
          obtain ⟨C, rfl⟩ : ∃ R : Nat, z = R := ⟨z.toNat, by omega⟩
          have hCP : C < P := by omega
          obtain ⟨bl', ol', hB', hbl', hcl⟩ := (HL1.out.below hb.out).2.2.1.at_ (by simp; omega)
          obtain ⟨rfl, rfl⟩ : bl = bl' ∧ ol = ol' := by cases hB'; exact ⟨rfl, rfl⟩
          have hcell : wi.cell? ⟨bl, ol + j, none⟩ = some (.int .i64 (C : Int)) := (hcl j (by simpa using hjl)).trans (by simp [hz])
          obtain ⟨r, hr, hrk⟩ := HM.out.at_ hRP hCP
          have HR := Lib.hid hr
          have hx24 : r.xs.length ≤ 24 := hrk.2.2.2.2.1
          have hd24 : r.ds.length ≤ 24 := hrk.2.2.2.2.2
          have HZT : Hid (zs[u]? = some ⟨r.g, r.xs, r.ds⟩) := by
            unfold Hid
            rw [hu.out, HZ.out]
            have h1 := sub_at (P := P) HZI.out hz? (by simpa using hr)
            rw [HML.out] at h1
            exact h1
          have huN : u < N := by rw [hu.out, HN.out]; exact cell_lt hlt hltj
          have hux : Hid (u + 1 = i * m + (j + 1)) := by have := hu.out; unfold Hid; omega
          have HVi := Lib.hid ((HV.out.below hb.out).below (Below.refl _ _).drew)
          have X_0 := Lib.hid hX.out.drew
          have OD := Lib.hid (OwnV.drew ho.out)
          have BD := Lib.hid hb.out.drew
          have ex2 := X_0.out.cell 2
          have em0 := hm0_i.out.cell 0
          have em1 := hm0_i.out.cell 1
          have em2 := hm0_i.out.cell 2
          simp at ex2 em0 em1 em2
          clear hr hrk hz hz? hcl
          go_wp2_with fail
          clear hcell
          go_region_law (first | (refine step_append_el rfl _ _ 23 rfl W0.heap.size i0 (.agg #[.bool false, .slice none 0 0, .slice none 0 0]) 56 Try.underlying23 hi hz0 hz1 hz2 rfl _ u L rfl HO.out ⟨g, .slice A2 l.length c2, l.length, l.map (.int .i64), .slice B2 dd.length d2, dd.length, dd.map (.int .i64)⟩ rfl HE.out HFR.out rfl rfl (by unfold maxLen; omega) (by omega) HB.out.size _ ?_; intro V' w6 s1 hg; obtain ⟨A5, c5, rfl⟩ := s1.slice; have X_4 := Lib.hid (X_3.out.grown hg (box_main X_2'.out HO.out)); have HO3 := Lib.hid s1; have HB3 := Lib.hid (below_app HB.out HO.out hg); have ey0 := X_4.out.cell 0; have ey1 := X_4.out.cell 1; have ey2 := X_4.out.cell 2; simp at ey0 ey1 ey2; have fy2 := X_4.out.free 2; clear s1 hg) | (go_simp; go_at_call 58; (with_reducible refine (spec_l06At P P R C A n c rs r _ HVi.out HR.out (by omega) (by omega)).mono ?_); rintro e w4 ⟨A6, n6, c6, B6, m6, d6, rfl, i6, ra6, j6, rb6, hb4⟩; have hn6 := i6.2.1; have hm6 := j6.2.1; have HI6 := Lib.hid i6; have HJ6 := Lib.hid j6; have RA6 := Lib.hid ra6; have RB6 := Lib.hid rb6; have X_1 := Lib.hid (X_0.out.below hb4 X_0.out.lt); have O_1 := Lib.hid (OD.out.below hb4); have B_1 := Lib.hid (BD.out.trans (hb4.mono BD.out.size)); have et2 := X_1.out.cell 2; simp at et2; clear i6 j6 ra6 rb6 hb4) | (go_simp; go_at_call 57; (with_reducible refine (spec_l04Copy r.g A6 n6 c6 r.xs B6 m6 d6 r.ds _ HI6.out RA6.out HJ6.out RB6.out hx24 hd24).mono ?_); rintro e w5 ⟨g, l, v, dd, q, rfl, hq, q1, q2, hap, hc2⟩; obtain ⟨k1, k2, k3⟩ := hq; obtain ⟨A2, c2, rfl⟩ := own_slice q1.2; obtain ⟨B2, d2, rfl⟩ := own_slice q2.2; obtain ⟨s1, s2, s3, s4⟩ := new_el (g := g) O_1.out B_1.out hc2 q1 q2 hap; have HH := Lib.hid (has_append (g := g) (r := l) (d := dd) (v := .slice A2 l.length c2) (u := .slice B2 dd.length d2) hh.out (by rw [k1, k2, k3]; exact HZT.out)); have HO := Lib.hid s1; have HE := Lib.hid s2; have HFR := Lib.hid s3; have HB := Lib.hid s4; have X_2' := Lib.hid (X_1.out.below hc2 X_1.out.lt); have X_3 := Lib.hid (X_2'.out.alloc (.cells #[.bool g, .slice A2 l.length c2, .slice B2 dd.length d2] 31)); have eu2 := X_2'.out.cell 2; simp at eu2; have ev2 : (w5.alloc (.cells #[.bool g, .slice A2 l.length c2, .slice B2 dd.length d2] 31)).cell? ⟨w.heap.size + 1 + 1, 2, none⟩ = some (.slice A1 u c1) := X_3.out.cell 2; clear s1 s2 s3 s4 q1 q2 hap hc2 k1 k2 k3))
          all_goals
            have X_5 := Lib.hid (X_4.out.setAt2 (.slice A5 (u + 1) c5))
            have HO5 := Lib.hid (HO3.out.box_set X_4.out (i := 2) (.slice A5 (u + 1) c5))
            have HB5 := Lib.hid (HB3.out.setCell (p := ⟨w.heap.size + 1 + 1, 2, none⟩) (by dsimp only; omega) (.slice A5 (u + 1) c5))
            go_wp2_with fail
            go_roundw
            case rel => exact ⟨j + 1, u + 1, _, A5, c5, by omega, by go_num, hux, HO5, HH, X_5, HB5⟩
            case measure => simp [intOf]; omega
        · obtain rfl : j = m := by omega
          have hu2 : Hid (u = (i + 1) * j) := by have := hu.out; rw [Nat.add_mul, Nat.one_mul]; exact this
          go_wp2_with fail
          go_roundw
          case rel => exact ⟨i + 1, u, L, A1, c1, by omega, by go_num, hu2, ho, hh, hX, hb⟩
          case measure => simp [intOf]; omega
    · obtain rfl : i = m := by omega
      have HH : Hid (Has L zs) := by have h1 := hh.out; rwa [List.take_of_length_le (by rw [HZL.out, hu0.out, HN.out]; exact Nat.le_refl _)] at h1
      have ht_3 := Lib.hid (ht_0.out.below hb.out ht_0.out.lt)
      have BW_3 := Lib.hid (BW_0.out.trans (hb.out.mono BW_0.out.size))
      have eht0 := ht_3.out.cell 0
      have eht1 := ht_3.out.cell 1
      have eht2 := ht_3.out.cell 2
      have fht0 := ht_3.out.free 0
      have fht1 := ht_3.out.free 1
      have fht2 := ht_3.out.free 2
      simp at eht0 eht1 eht2
      have ex0 := hX.out.cell 0
      have ex1 := hX.out.cell 1
      have ex2 := hX.out.cell 2
      simp at ex0 ex1 ex2
      go_wp2_with fail
      refine bodyPost_ret (v := .agg #[.int .i64 i, .int .i64 i, .slice A1 u0 c1]) (by simp [results, Try.results66, eht0, eht1, eht2, go_sem]) rfl ?_
      exact ⟨A1, u0, c1, L, rfl, hu0.out, (ho.out.lower BW_0.out.size).box_set3 ht_3.out _ _ _, HH.out, below_store3 BW_3.out (by omega) _ _ _⟩
theorem sub_no' {p k : Int} {rs : List RD} {l : List Int} (h : ¬ ((MOk p k rs ∧ p = k) ∧ AscIs p l)) : SubmatrixIs p k rs l 0 0 [] false := .inr ⟨h, rfl, rfl, rfl, rfl⟩
theorem sub_goods' {P : Nat} {rs : List RD} {l : List Int} (h : MOk P P rs) (ha : AscIs P l) : Goods (sub P rs l) := by
  refine ⟨?_, fun x hx => .inl (sub_ok h ha x hx)⟩
  have h1 := ha.len (by omega)
  have h2 := h.1
  rw [sub_length]
  have h3 := mul_le_576 (P := l.length) (K := l.length) (by omega) (by omega)
  omega
set_option maxHeartbeats 3200000 in
theorem spec_submatrix0 (p k : Int) (A : Option Addr) (n c : Nat) (rs : List RD) (B : Option Addr) (m d : Nat) (ls : List Int) (w : World) (h : InV w A n rs) (hp : -9223372036854775808 ≤ p ∧ p ≤ 9223372036854775807) (hk : -9223372036854775808 ≤ k ∧ k ≤ 9223372036854775807) (h2 : InI w B m ls) :
    Calls Try.prog 28 #[.agg #[.int .i64 p, .int .i64 k, .slice A n c], .slice B m d] w fun e w' => MatOkEnd (SubmatrixIs p k rs ls) w w' e := by
  obtain ⟨W0, hW0⟩ : ∃ W, W = ((w.alloc (.cells #[.int .i64 p, .int .i64 k, .slice A n c] 25)).alloc (.cells #[.int .i64 0, .int .i64 0, .slice none 0 0] 25)) := ⟨_, rfl⟩
  have hm0_0 : Hid (Box W0 (w.heap.size) 25 #[.int .i64 p, .int .i64 k, .slice A n c]) := by rw [hW0]; exact ((Box.at' (by simp)).alloc _)
  have ht_0 : Hid (Box W0 (w.heap.size + 1) 25 #[.int .i64 0, .int .i64 0, .slice none 0 0]) := by rw [hW0]; exact (Box.at' (by simp))
  have BW_0 : Hid (Below w.heap.size w W0) := by rw [hW0]; exact (((Below.refl w.heap.size w).alloc (by simp) _).alloc (by simp) _)
  have hsz0 : w.heap.size + 1 + 1 ≤ W0.heap.size := by rw [hW0]; simp
  have hn := h.2.1
  have HV := Lib.hid (h.below BW_0.out)
  have HL := Lib.hid (h2.below BW_0.out)
  clear h h2
  go_enter Try.func28, Try.ntmps28
  go_wp2_with fail
  rw [← hW0]
  clear hW0
  refine (spec_matrixOk0 p k A n c rs _ HV.out hp hk).mono ?_
  rintro e w1 ⟨b, rfl, hq, hb⟩
  have HL1 := Lib.hid (HL.out.below hb)
  have hm0_1 := Lib.hid (hm0_0.out.below hb hm0_0.out.lt)
  have ht_1 := Lib.hid (ht_0.out.below hb ht_0.out.lt)
  have BW_1 := Lib.hid (BW_0.out.trans (hb.mono BW_0.out.size))
  replace HV := Lib.hid (HV.out.below hb)
  clear hb
  have ehm00 := hm0_1.out.cell 0
  have ehm01 := hm0_1.out.cell 1
  have ehm02 := hm0_1.out.cell 2
  have eht0 := ht_1.out.cell 0
  have eht1 := ht_1.out.cell 1
  have eht2 := ht_1.out.cell 2
  have fht0 := ht_1.out.free 0
  have fht1 := ht_1.out.free 1
  have fht2 := ht_1.out.free 2
  simp at ehm00 ehm01 ehm02 eht0 eht1 eht2
  cases b
  case false =>
    have HZ : Hid (SubmatrixIs p k rs ls 0 0 [] false) := sub_no' (fun h => (by have h1 := hq.2 h.1.1; cases h1))
    clear hq
    go_wp2_with fail
    refine bodyPost_ret (v := .tuple #[.agg #[.int .i64 0, .int .i64 0, .slice none 0 0], .bool false]) (by simp [results, Try.results28, eht0, eht1, eht2, go_sem]) rfl ?_
    exact matOkEnd_zero HZ.out BW_1.out (by omega) _ _ _
  have HM := Lib.hid (hq.1 rfl)
  clear hq
  by_cases hpk : p = k
  case neg =>
    have hf : (p != k) = true := by simp; exact hpk
    have HZ : Hid (SubmatrixIs p k rs ls 0 0 [] false) := sub_no' (fun h => hpk h.1.2)
    clear hpk
    go_wp2_with fail
    refine bodyPost_ret (v := .tuple #[.agg #[.int .i64 0, .int .i64 0, .slice none 0 0], .bool false]) (by simp [results, Try.results28, eht0, eht1, eht2, go_sem]) rfl ?_
    exact matOkEnd_zero HZ.out BW_1.out (by omega) _ _ _
  subst hpk
  have hf : (p != p) = false := by simp
  have hp2 := HM.out.1
  obtain ⟨P, rfl⟩ : ∃ P : Nat, p = P := ⟨p.toNat, by omega⟩
  have hP24 : P ≤ 24 := by omega
  go_wp2_with fail
  refine (spec_l08Ascending B m d ls P _ HL1.out hP24).mono ?_
  rintro e w1' ⟨b, rfl, hq, rfl⟩
  cases b
  case false =>
    have HZ : Hid (SubmatrixIs P P rs ls 0 0 [] false) := sub_no' (fun h => (by have h1 := hq.2 h.2; cases h1))
    clear hq
    go_wp2_with fail
    refine bodyPost_ret (v := .tuple #[.agg #[.int .i64 0, .int .i64 0, .slice none 0 0], .bool false]) (by simp [results, Try.results28, eht0, eht1, eht2, go_sem]) rfl ?_
    exact matOkEnd_zero HZ.out BW_1.out (by omega) _ _ _
  have HA := Lib.hid (hq.1 rfl)
  have HML : Hid (ls.length = m) := HL1.out.1
  have hsz1 := BW_1.out.size
  clear hq
  go_wp2_with fail
  clear ehm00 ehm01 ehm02 eht0 fht0 eht1 fht1 eht2 fht2
  refine (spec_l08Part P A n c rs B m d ls _ HV.out HM.out HL1.out HA.out).mono ?_
  rintro e w2 ⟨A1, N, c1, L, rfl, hN, ho, hh, hb⟩
  have HO := Lib.hid ho
  have HH := Lib.hid hh
  have HZL : Hid ((sub P rs ls).length = N) := by unfold Hid; rw [sub_length, HML.out, hN]
  have HGD : Hid (Goods (sub P rs ls)) := sub_goods' HM.out HA.out
  have HQ : Hid (SubmatrixIs P P rs ls m m (sub P rs ls) true) := .inl ⟨⟨⟨HM.out, rfl⟩, HA.out⟩, by rw [HML.out], by rw [HML.out], rfl, rfl⟩
  clear ho hh hN
  have ht_2 := Lib.hid (ht_1.out.below hb ht_1.out.lt)
  have BW_2 := Lib.hid (BW_1.out.trans (hb.mono BW_1.out.size))
  clear hb
  have eht0 := ht_2.out.cell 0
  have eht1 := ht_2.out.cell 1
  have eht2 := ht_2.out.cell 2
  have fht0 := ht_2.out.free 0
  have fht1 := ht_2.out.free 1
  have fht2 := ht_2.out.free 2
  simp at eht0 eht1 eht2
  go_wp2_with fail
  refine bodyPost_ret (v := .tuple #[.agg #[.int .i64 m, .int .i64 m, .slice A1 N c1], .bool true]) (by simp [results, Try.results28, eht0, eht1, eht2, go_sem]) rfl ?_
  exact matOkEnd_store ht_2.out (by omega) BW_2.out HQ.out HGD.out HZL.out HO.out hsz1 HH.out
theorem spec_submatrix (p k : Int) (A : Option Addr) (n c : Nat) (rs : List RD) (B : Option Addr) (m d : Nat) (ls : List Int) (w : World) (h : InV w A n rs) (hp : -9223372036854775808 ≤ p ∧ p ≤ 9223372036854775807) (hk : -9223372036854775808 ≤ k ∧ k ≤ 9223372036854775807) (_hc : n ≤ c) (h2 : InI w B m ls) :
    Calls Try.prog 28 #[.agg #[.int .i64 p, .int .i64 k, .slice A n c], .slice B m d] w fun e w' => ∃ q j r V b, e = .returned (.tuple #[.agg #[.int .i64 q, .int .i64 j, V], .bool b]) ∧ SubmatrixIs p k rs ls q j r b ∧ ResV w w' V r ∧ Below w.heap.size w w' := (spec_submatrix0 p k A n c rs B m d ls w h hp hk h2).mono fun _ _ h => h
end Go.Proofs.Ythjbfdifeffilaa
