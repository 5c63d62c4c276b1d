/- Contracts of symmetric matrices, by the program: TraceOf. -/
import Derived.Test.YthjbfdifeffilaaSymI
import Derived.Test.YthjbfdifeffilaaVecB
namespace Go.Proofs.Ythjbfdifeffilaa
set_option maxRecDepth 100000
open Go.RowKit

set_option maxHeartbeats 3200000 in
theorem impl_traceOf0 (p k : Int) (A : Option Addr) (n c : Nat) (rs : List RD) (w : World) (h : InV w A n rs) (hp : -9223372036854775808 ≤ p ∧ p ≤ 9223372036854775807) (hk : -9223372036854775808 ≤ k ∧ k ≤ 9223372036854775807) (hc : n ≤ c) :
    Calls Try.prog 12 #[.agg #[.int .i64 p, .int .i64 k, .slice A n c]] w fun e w' => RatOkEnd (TraceOfIs p k rs) w w' e := by
  obtain ⟨W0, hW0⟩ : ∃ W, W = ((w.alloc (.cells #[.int .i64 p, .int .i64 k, .slice A n c] 25)).alloc (.cells #[.bool false, .slice none 0 0, .slice none 0 0] 31)) := ⟨_, rfl⟩
  have hm0_0 : Hid (Box W0 (w.heap.size) 25 #[.int .i64 p, .int .i64 k, .slice A n c]) := by rw [hW0]; exact ((Box.at' (by simp)).alloc _)
  have hs_0 : Hid (Box W0 (w.heap.size + 1) 31 #[.bool false, .slice none 0 0, .slice none 0 0]) := by rw [hW0]; exact (Box.at' (by simp))
  have BW_0 : Hid (Below w.heap.size w W0) := by rw [hW0]; exact (((Below.refl w.heap.size w).alloc (by simp) _).alloc (by simp) _)
  have hsz0 : w.heap.size + 1 + 1 ≤ W0.heap.size := by rw [hW0]; simp
  have hn := h.2.1
  have HV := Lib.hid (h.below BW_0.out)
  clear h
  go_enter Try.func12, Try.ntmps12
  go_wp2_with fail
  rw [← hW0]
  clear hW0
  refine (impl_isSquare p k A n c rs _ HV.out hp hk hc).mono ?_
  rintro e w1 ⟨b, rfl, hq, hb⟩
  have hm0_1 := Lib.hid (hm0_0.out.below hb hm0_0.out.lt)
  have hs_1 := Lib.hid (hs_0.out.below hb hs_0.out.lt)
  have BW_1 := Lib.hid (BW_0.out.trans (hb.mono BW_0.out.size))
  replace HV := Lib.hid (HV.out.below hb)
  clear hb
  cases b
  case false =>
    have ehs0 := hs_1.out.cell 0
    have ehs1 := hs_1.out.cell 1
    have ehs2 := hs_1.out.cell 2
    have fhs0 := hs_1.out.free 0
    have fhs1 := hs_1.out.free 1
    have fhs2 := hs_1.out.free 2
    simp at ehs0 ehs1 ehs2
    have HZ : Hid (TraceOfIs p k rs false [] [] false) := ratDone_no (fun h => (by have h1 := hq.2 h; cases h1))
    clear hq
    go_wp2_with fail
    refine bodyPost_ret (v := .tuple #[.agg #[.bool false, .slice none 0 0, .slice none 0 0], .bool false]) (by simp [results, Try.results12, ehs0, ehs1, ehs2, go_sem]) rfl ?_
    exact ratOkEnd_zero HZ.out (below_store3 BW_1.out (by omega) _ _ _)
  obtain ⟨hM, hpk⟩ := hq.1 rfl
  clear hq
  subst hpk
  have HM := Lib.hid hM
  have hp2 := hM.1
  obtain ⟨P, rfl⟩ : ∃ P : Nat, p = P := ⟨p.toNat, by omega⟩
  have hP24 : P ≤ 24 := by omega
  clear hM
  go_wp2_with fail
  refine (impl_ratFromInt 0 _ ⟨by omega, by omega⟩).mono ?_
  rintro e w2 ⟨g, r, v, dd, u, rfl, hq, q1, q2, hap, hb⟩
  obtain ⟨A6, c6, rfl⟩ := own_slice q1.2
  obtain ⟨B6, d6, rfl⟩ := own_slice q2.2
  obtain ⟨zs, hzs⟩ : ∃ zs, zs = diag P rs := ⟨_, rfl⟩
  have HZS := Lib.hid hzs
  have HR0 : Hid (RD.mk g r dd = rsum zs 0) := rint_of hq
  have hm0_2 := Lib.hid (hm0_1.out.below hb hm0_1.out.lt)
  have hs_2 := Lib.hid (hs_1.out.below hb hs_1.out.lt)
  have BW_2 := Lib.hid (BW_1.out.trans (hb.mono BW_1.out.size))
  replace HV := Lib.hid (HV.out.below hb)
  clear hb
  obtain ⟨W3, hW3⟩ : ∃ W, W = w2.alloc (.cells #[.bool g, .slice A6 r.length c6, .slice B6 dd.length d6] 31) := ⟨_, rfl⟩
  have hb : Below w2.heap.size w2 W3 := by rw [hW3]; exact (Below.refl _ _).alloc (Nat.le_refl _) _
  have hlt3 : w2.heap.size < W3.heap.size := by rw [hW3]; simp
  have HB23 := Lib.hid hb
  have hm0_3 := Lib.hid (hm0_2.out.below hb hm0_2.out.lt)
  have hs_3 := Lib.hid (hs_2.out.below hb hs_2.out.lt)
  have BW_3 := Lib.hid (BW_2.out.trans (hb.mono BW_2.out.size))
  replace HV := Lib.hid (HV.out.below hb)
  clear hb
  have S0 : Hid (RSum W3 w.heap.size w2.heap.size ⟨g, r, dd⟩ A6 c6 B6 d6) := by
    rw [hW3]
    exact ⟨Box.new _ _ _, own_base (q1.2.alloc _) BW_1.out.size, own_base (q2.2.alloc _) BW_1.out.size, hap⟩
  have hs2 : w.heap.size + 1 ≤ w2.heap.size := by have := hs_2.out.lt; omega
  have hem := hm0_3
  rw [hW3] at hem
  have em0 := hem.out.cell 0
  have em1 := hem.out.cell 1
  have em2 := hem.out.cell 2
  simp at em0 em1 em2
  clear hq q1 q2 hap hzs hem
  go_wp2_with fail
  rw [← hW3]
  clear em0 em1 em2 hW3
  refine (impl_diagonalOf0 P P A n c rs _ HV.out hp hk hc).mono ?_
  rintro e w4 ⟨zs4, V, rfl, hq, ⟨hl4, hf4, L, ho4, hh4⟩, hb⟩
  obtain rfl : zs4 = zs := by
    rcases hq with ⟨_, h⟩ | ⟨h, _⟩
    · rw [h, HZS.out]; rfl
    · exact absurd ⟨HM.out, rfl⟩ h
  have hlen : zs4.length = P := by rw [HZS.out, diag_length]
  rw [hlen] at ho4
  obtain ⟨A1, c1, rfl⟩ := ho4.slice
  have HLN := Lib.hid hlen
  have HO4 := Lib.hid ho4
  have HH4 := Lib.hid hh4
  have HF4 := Lib.hid hf4
  have S4 := Lib.hid (S0.out.below hb)
  have hs4 : w2.heap.size < w4.heap.size := by have := hb.size; omega
  have B24 : Hid (Below w2.heap.size w2 w4) := HB23.out.trans (hb.mono (by omega))
  have hm0_4 := Lib.hid (hm0_3.out.below hb hm0_3.out.lt)
  have hs_4 := Lib.hid (hs_3.out.below hb hs_3.out.lt)
  have BW_4 := Lib.hid (BW_3.out.trans (hb.mono BW_3.out.size))
  clear hb
  have hP20 : P ≤ 1048576 := by omega
  clear hq hl4 hf4 ho4 hh4 hlen
  go_wp2_with fail
  go_loopw [15] (fun y wr => ∃ (i : Nat) (q : RD) (As : Option Addr) (cs : Nat) (Bs : Option Addr) (ds : Nat), i ≤ P ∧ y = .int .i64 i ∧ Hid (q = rsum zs4 i) ∧ Hid (RSum wr w.heap.size w2.heap.size q As cs Bs ds) ∧ Hid (Below w2.heap.size w2 wr) ∧ Hid (Wrote (fun k => k = w2.heap.size) w4 wr)) (fun y _ => P - (intOf y).toNat)
  case atStart => exact ⟨0, _, _, _, _, _, Nat.zero_le _, rfl, HR0, S4, B24, Wrote.refl _ _⟩
  case round =>
    obtain ⟨i, q, As, cs, Bs, ds, hle, rfl, heq, hsum, hb, hW⟩ := hrel
    have HG : Hid (q.ok ∨ q = RD.zero) := by rw [heq.out]; exact rsum_good _ _
    by_cases hlt : i < P
    · have OW := Lib.hid (OwnV.wroteG HO4.out hW.out hlt3)
      obtain ⟨b2, o2, rfl, hb2, r2, hr2, A4, n4, c4, B4, m4, d4, at2, i2, ra2, j2, rb2⟩ := (OW.out.in_ HH4.out hP20 HF4.out).at_ i hlt
      have hi0 : (0 : Int) ≤ (i : Int) := by omega
      have hi1 : (i : Int) < (P : Int) := by omega
      have hbx : Below wr.heap.size wr (wr.alloc (.cells #[.bool r2.g, .slice A4 n4 c4, .slice B4 m4 d4] 31)) := (Below.refl _ _).alloc (Nat.le_refl _) _
      have BD := Lib.hid (hb.out.trans (hbx.mono hb.out.size))
      have WD := Lib.hid (hW.out.trans (Wrote.of_below hbx))
      have S3 := Lib.hid (hsum.out.below hbx)
      obtain ⟨es0, es1, es2, _, _, _⟩ := S3.out.three
      have I2 := Lib.hid (i2.below hbx)
      have J2 := Lib.hid (j2.below hbx)
      have RA2 := Lib.hid ra2
      have RB2 := Lib.hid rb2
      have HR2 : Hid (rsum zs4 (i + 1) = radd q r2) := by rw [heq.out]; exact rsum_succ hr2
      obtain ⟨e20, e21, e22⟩ := at2
      clear i2 j2 hr2 ra2 rb2 hbx
      go_wp2_with fail
      clear e20 e21 e22 es0 es1 es2
      refine (impl_ratAdd0 q.g As q.xs.length cs q.xs Bs q.ds.length ds q.ds r2.g A4 n4 c4 r2.xs B4 m4 d4 r2.ds _ (S3.out.in1 HG.out) S3.out.room1 (S3.out.in2 HG.out) S3.out.room2 I2.out RA2.out J2.out RB2.out).mono ?_
      rintro e w5 ⟨g, r, v, dd, u, rfl, hq, q1, q2, hap, hc2⟩
      obtain ⟨A7, c7, rfl⟩ := own_slice q1.2
      obtain ⟨B7, d7, rfl⟩ := own_slice q2.2
      have HQ2 : Hid (RD.mk g r dd = rsum zs4 (i + 1)) := (radd_of hq).trans HR2.out.symm
      have hst := sum_store (q := ⟨g, r, dd⟩) (W := w2) (base := w.heap.size) (S3.out.below hc2).1 rfl q1.2 q2.2 (by have := BD.out.size; omega) hap (BD.out.trans (hc2.mono BD.out.size)) (Nat.le_refl _)
      have HS4 := Lib.hid hst.1
      have HB4 := Lib.hid hst.2
      have HW4 : Hid (Wrote (fun k => k = w2.heap.size) w4 (((w5.setCell ⟨w2.heap.size, 0, none⟩ (.bool g)).setCell ⟨w2.heap.size, 1, none⟩ (.slice A7 r.length c7)).setCell ⟨w2.heap.size, 2, none⟩ (.slice B7 dd.length d7))) := (((WD.out.trans (Wrote.of_below hc2)).setCell (p := ⟨w2.heap.size, 0, none⟩) rfl _).setCell (p := ⟨w2.heap.size, 1, none⟩) rfl _).setCell (p := ⟨w2.heap.size, 2, none⟩) rfl _
      obtain ⟨es0, es1, es2, fs0, fs1, fs2⟩ := (S3.out.below hc2).three
      clear hq q1 q2 hap hc2 hst
      go_wp2_with fail
      clear es0 es1 es2 fs0 fs1 fs2
      go_roundw
      case rel => exact ⟨i + 1, ⟨g, r, dd⟩, A7, c7, B7, d7, by omega, by go_num, HQ2, HS4, HB4, HW4⟩
      case measure => simp [intOf]; omega
    · obtain rfl : i = P := by omega
      have S_0 := Lib.hid hsum.out.drew
      have hs_5 := Lib.hid (hs_2.out.below hb.out hs_2.out.lt).drew
      have BW_5 := Lib.hid (BW_2.out.trans (hb.out.mono BW_2.out.size)).drew
      have HNE : Hid (w2.heap.size ≠ w.heap.size + 1) := by unfold Hid; have := hs_2.out.lt; omega
      go_wp2_with fail
      go_region_held3 (fun w' => w'.cell? ⟨w2.heap.size, 0, none⟩ = some (.bool q.g) ∧ w'.cell? ⟨w2.heap.size, 1, none⟩ = some (.slice As q.xs.length cs) ∧ w'.cell? ⟨w2.heap.size, 2, none⟩ = some (.slice Bs q.ds.length ds)) (first | with_reducible exact sum3far S_1 HNE _ _ _ | with_reducible exact sum3 S_1 | with_reducible exact sum3 S_0) (first | (go_at_call 45; (with_reducible refine (impl_ratOk' q.g As q.xs.length cs q.xs Bs q.ds.length ds q.ds _ (S_0.out.in1 HG.out) (S_0.out.in2 HG.out)).mono ?_); rintro e w5 ⟨⟨b, rfl, hi⟩, hb5⟩; have HI5 := Lib.hid hi; have S_1 := Lib.hid (S_0.out.below hb5); have hs_6 := Lib.hid (hs_5.out.below hb5 hs_5.out.lt); have BW_6 := Lib.hid (BW_5.out.trans (hb5.mono BW_5.out.size)); clear hi hb5; have ehs0 := hs_6.out.cell 0; have fhs0 := hs_6.out.free 0; have ehs1 := hs_6.out.cell 1; have fhs1 := hs_6.out.free 1; have ehs2 := hs_6.out.cell 2; have fhs2 := hs_6.out.free 2; simp at ehs0 ehs1 ehs2))
      have HQF : Hid (TraceOfIs i i rs q.g q.xs q.ds b) := ratDone_of ⟨HM.out, rfl⟩ (by rw [heq.out, HZS.out]; rfl) HG.out HI5.out
      go_wp2_with fail
      refine bodyPost_ret (v := .tuple #[.agg #[.bool q.g, .slice As q.xs.length cs, .slice Bs q.ds.length ds], .bool b]) (by simp [results, Try.results12, ehs0, ehs1, ehs2, go_sem]) rfl ?_
      exact ratOkEnd_sum hs_6.out (by omega) BW_6.out HQF.out HG.out S_1.out
theorem impl_traceOf (p k : Int) (A : Option Addr) (n c : Nat) (rs : List RD) (w : World) (h : InV w A n rs) (hp : -9223372036854775808 ≤ p ∧ p ≤ 9223372036854775807) (hk : -9223372036854775808 ≤ k ∧ k ≤ 9223372036854775807) (hc : n ≤ c) :
    Calls Try.prog 12 #[.agg #[.int .i64 p, .int .i64 k, .slice A n c]] w fun e w' => ∃ g r v d u b, e = .returned (.tuple #[.agg #[.bool g, v, u], .bool b]) ∧ TraceOfIs p k rs g r d b ∧ ResI w w' v r ∧ ResI w w' u d ∧ Apart u v ∧ Below w.heap.size w w' := (impl_traceOf0 p k A n c rs w h hp hk hc).mono fun _ _ h => h.said
end Go.Proofs.Ythjbfdifeffilaa
