/- Contracts of symmetric matrices, by the model: TraceOf. -/
import Derived.Test.YthjbfdifeffilaaSymS
import Derived.Test.YthjbfdifeffilaaVecB3
namespace Go.Proofs.Ythjbfdifeffilaa
set_option maxRecDepth 100000
open Go.RowKit

set_option maxHeartbeats 3200000 in
theorem spec_l08Sum (A : Option Addr) (n c : Nat) (zs : List RD) (w : World) (h : InV w A n zs) (hk : ∀ r ∈ zs, r.ok) :
    Calls Try.prog 60 #[.slice A n c] w fun e w' => RatEnd (fun g l d => RD.mk g l d = rsum zs n) w w' e := by
  obtain ⟨W0, hW0⟩ : ∃ W, W = (w.alloc (.cells #[.bool false, .slice none 0 0, .slice none 0 0] 31)) := ⟨_, rfl⟩
  have hs_0 : Hid (Box W0 (w.heap.size) 31 #[.bool false, .slice none 0 0, .slice none 0 0]) := by rw [hW0]; exact (Box.at' (by simp))
  have BW_0 : Hid (Below w.heap.size w W0) := by rw [hW0]; exact ((Below.refl w.heap.size w).alloc (by simp) _)
  have hsz0 : w.heap.size + 1 ≤ W0.heap.size := by rw [hW0]; simp
  have hn := h.2.1
  have HL := Lib.hid h.1
  have HK := Lib.hid hk
  have H1 := Lib.hid (h.below BW_0.out)
  clear h hk
  go_enter Try.func60, Try.ntmps60
  go_wp2_with fail
  rw [← hW0]
  clear hW0
  refine (spec_l05Zero _).mono ?_
  rintro e w2 ⟨g, r, v, dd, u, rfl, hq, q1, q2, hap, hb⟩
  obtain ⟨A6, c6, rfl⟩ := own_slice q1.2
  obtain ⟨B6, d6, rfl⟩ := own_slice q2.2
  have HR0 : Hid (RD.mk g r dd = rsum zs 0) := rint_of hq
  have HB12 := Lib.hid (hb.alloc hb.size (.cells #[.bool g, .slice A6 r.length c6, .slice B6 dd.length d6] 31))
  have hb12 := hb.size
  have hs0 := hs_0.out.lt
  have S0 : Hid (RSum (w2.alloc (.cells #[.bool g, .slice A6 r.length c6, .slice B6 dd.length d6] 31)) w.heap.size w2.heap.size ⟨g, r, dd⟩ A6 c6 B6 d6) :=
    ⟨Box.new _ _ _, own_base (q1.2.alloc _) BW_0.out.size, own_base (q2.2.alloc _) BW_0.out.size, hap⟩
  clear hq q1 q2 hap hb
  go_wp2_with fail
  go_loopw [9] (fun y wr => ∃ (i : Nat) (q : RD) (As : Option Addr) (cs : Nat) (Bs : Option Addr) (ds : Nat), i ≤ n ∧ y = .int .i64 i ∧ Hid (q = rsum zs i) ∧ Hid (RSum wr w.heap.size w2.heap.size q As cs Bs ds) ∧ Hid (Below W0.heap.size W0 wr)) (fun y _ => n - (intOf y).toNat)
  case atStart => exact ⟨0, _, _, _, _, _, Nat.zero_le _, rfl, HR0, S0, HB12⟩
  case round =>
    obtain ⟨i, q, As, cs, Bs, ds, hle, rfl, heq, hsum, hb⟩ := hrel
    have HG : Hid (q.ok ∨ q = RD.zero) := by rw [heq.out]; exact rsum_good _ _
    by_cases hlt : i < n
    · obtain ⟨b2, o2, rfl, hb2, r2, hr2, A4, n4, c4, B4, m4, d4, at2, i2, ra2, j2, rb2⟩ := H1.out.atB hb.out i hlt
      have hi0 : (0 : Int) ≤ (i : Int) := by omega
      have hi1 : (i : Int) < (n : Int) := by omega
      have hw0 : W0.heap.size ≤ wr.heap.size := hb.out.size
      have K2 : Hid (GRat r2.g r2.xs r2.ds) := .inl (HK.out _ (List.mem_of_getElem? hr2))
      have HSU : Hid (rsum zs (i + 1) = radd q r2) := by rw [heq.out]; exact rsum_succ hr2
      have hbx : Below wr.heap.size wr (wr.alloc (.cells #[.bool r2.g, .slice A4 n4 c4, .slice B4 m4 d4] 31)) := (Below.refl _ _).alloc (Nat.le_refl _) _
      have BD := Lib.hid (hb.out.trans (hbx.mono hw0))
      have S3 := Lib.hid (hsum.out.below hbx)
      obtain ⟨es0, es1, es2, _, _, _⟩ := S3.out.three
      have I2 := Lib.hid (i2.below hbx)
      have J2 := Lib.hid (j2.below hbx)
      have RA2 := Lib.hid ra2
      have RB2 := Lib.hid rb2
      have GQ : Hid (GRat q.g q.xs q.ds) := RD.gr HG.out
      have hbw := BW_0.out.size
      obtain ⟨e20, e21, e22⟩ := at2
      clear i2 j2 hr2 ra2 rb2 hbx
      go_wp2_with fail
      clear e20 e21 e22 es0 es1 es2
      refine (spec_l04AddG q.g As q.xs.length cs q.xs Bs q.ds.length ds q.ds r2.g A4 n4 c4 r2.xs B4 m4 d4 r2.ds _ (S3.out.in1 HG.out) S3.out.room1 (S3.out.in2 HG.out) S3.out.room2 I2.out RA2.out J2.out RB2.out GQ.out K2.out).mono ?_
      rintro e w8 ⟨g8, r8, v8, dd8, u8, rfl, hq8, q1, q2, hap8, hb8⟩
      obtain ⟨A8, c8, rfl⟩ := own_slice q1.2
      obtain ⟨B8, d8, rfl⟩ := own_slice q2.2
      have HQ8 : Hid (RD.mk g8 r8 dd8 = rsum zs (i + 1)) := (radd_of (r := q) (s := r2) hq8).trans HSU.out.symm
      have hst := sum_store (q := ⟨g8, r8, dd8⟩) (W := W0) (base := w.heap.size) (S3.out.below hb8).1 rfl q1.2 q2.2 (by have := BD.out.size; omega) hap8 (BD.out.trans (hb8.mono BD.out.size)) hb12
      have HS9 := Lib.hid hst.1
      have HB9 := Lib.hid hst.2
      obtain ⟨fc0, fc1, fc2, fs0, fs1, fs2⟩ := (S3.out.below hb8).three
      clear hq8 q1 q2 hap8 hb8 hst
      go_wp2_with fail
      clear fc0 fc1 fc2 fs0 fs1 fs2
      go_roundw
      case rel => exact ⟨i + 1, ⟨g8, r8, dd8⟩, A8, c8, B8, d8, by omega, by go_num, HQ8, HS9, HB9⟩
      case measure => simp [intOf]; omega
    · obtain rfl : i = n := by omega
      have hs_5 := Lib.hid (hs_0.out.below hb.out hs_0.out.lt)
      have BW_5 := Lib.hid (BW_0.out.trans (hb.out.mono BW_0.out.size))
      have HQ : Hid (RD.mk q.g q.xs q.ds = rsum zs i) := heq.out
      have hsh := (RD.gr HG.out).short
      have hsh1 := hsh.1
      have hsh2 := hsh.2
      have ehs0 := hs_5.out.cell 0
      have ehs1 := hs_5.out.cell 1
      have ehs2 := hs_5.out.cell 2
      have fhs0 := hs_5.out.free 0
      have fhs1 := hs_5.out.free 1
      have fhs2 := hs_5.out.free 2
      simp at ehs0 ehs1 ehs2
      obtain ⟨es0, es1, es2, _, _, _⟩ := hsum.out.three
      have HSM := hsum
      clear hsum hsh
      go_wp2_with fail
      refine bodyPost_ret (v := .agg #[.bool q.g, .slice As q.xs.length cs, .slice Bs q.ds.length ds]) (by simp [results, Try.results60, ehs0, ehs1, ehs2, go_sem]) rfl ?_
      exact ratEnd_store hs_5.out (Nat.le_refl _) BW_5.out HQ.out rfl rfl (by omega) (by omega) HSM.out.2.1 (Nat.le_refl _) HSM.out.2.2.1 (Nat.le_refl _) HSM.out.2.2.2
set_option maxHeartbeats 3200000 in
theorem spec_traceOf0 (p k : Int) (A : Option Addr) (n c : Nat) (rs : List RD) (w : World) (h : InV w A n rs) (hp : -9223372036854775808 ≤ p ∧ p ≤ 9223372036854775807) (hk : -9223372036854775808 ≤ k ∧ k ≤ 9223372036854775807) :
    Calls Try.prog 24 #[.agg #[.int .i64 p, .int .i64 k, .slice A n c]] w fun e w' => RatOkEnd (TraceOfIs p k rs) w w' e := by
  obtain ⟨W0, hW0⟩ : ∃ W, W = ((w.alloc (.cells #[.int .i64 p, .int .i64 k, .slice A n c] 25)).alloc (.cells #[.bool false, .slice none 0 0, .slice none 0 0] 31)) := ⟨_, rfl⟩
  have hm0_0 : Hid (Box W0 (w.heap.size) 25 #[.int .i64 p, .int .i64 k, .slice A n c]) := by rw [hW0]; exact ((Box.at' (by simp)).alloc _)
  have hs_0 : Hid (Box W0 (w.heap.size + 1) 31 #[.bool false, .slice none 0 0, .slice none 0 0]) := by rw [hW0]; exact (Box.at' (by simp))
  have BW_0 : Hid (Below w.heap.size w W0) := by rw [hW0]; exact (((Below.refl w.heap.size w).alloc (by simp) _).alloc (by simp) _)
  have hsz0 : w.heap.size + 1 + 1 ≤ W0.heap.size := by rw [hW0]; simp
  have hn := h.2.1
  have HV := Lib.hid (h.below BW_0.out)
  clear h
  go_enter Try.func24, Try.ntmps24
  go_wp2_with fail
  rw [← hW0]
  clear hW0
  refine (spec_matrixOk0 p k A n c rs _ HV.out hp hk).mono ?_
  rintro e w1 ⟨b, rfl, hq, hb⟩
  have hm0_1 := Lib.hid (hm0_0.out.below hb hm0_0.out.lt)
  have hs_1 := Lib.hid (hs_0.out.below hb hs_0.out.lt)
  have BW_1 := Lib.hid (BW_0.out.trans (hb.mono BW_0.out.size))
  replace HV := Lib.hid (HV.out.below hb)
  clear hb
  have ehm00 := hm0_1.out.cell 0
  have ehm01 := hm0_1.out.cell 1
  have ehm02 := hm0_1.out.cell 2
  have ehs0 := hs_1.out.cell 0
  have ehs1 := hs_1.out.cell 1
  have ehs2 := hs_1.out.cell 2
  have fhs0 := hs_1.out.free 0
  have fhs1 := hs_1.out.free 1
  have fhs2 := hs_1.out.free 2
  simp at ehm00 ehm01 ehm02 ehs0 ehs1 ehs2
  cases b
  case false =>
    have HZ : Hid (TraceOfIs p k rs false [] [] false) := ratDone_no (fun h => (by have h1 := hq.2 h.1; cases h1))
    clear hq
    go_wp2_with fail
    refine bodyPost_ret (v := .tuple #[.agg #[.bool false, .slice none 0 0, .slice none 0 0], .bool false]) (by simp [results, Try.results24, ehs0, ehs1, ehs2, go_sem]) rfl ?_
    exact ratOkEnd_zero HZ.out (below_store3 BW_1.out (by omega) _ _ _)
  have HM := Lib.hid (hq.1 rfl)
  clear hq
  by_cases hpk : p = k
  case neg =>
    have hf : (p != k) = true := by simp; exact hpk
    have HZ : Hid (TraceOfIs p k rs false [] [] false) := ratDone_no (fun h => hpk h.2)
    clear hpk
    go_wp2_with fail
    refine bodyPost_ret (v := .tuple #[.agg #[.bool false, .slice none 0 0, .slice none 0 0], .bool false]) (by simp [results, Try.results24, ehs0, ehs1, ehs2, go_sem]) rfl ?_
    exact ratOkEnd_zero HZ.out (below_store3 BW_1.out (by omega) _ _ _)
  subst hpk
  have hf : (p != p) = false := by simp
  have hp2 := HM.out.1
  obtain ⟨P, rfl⟩ : ∃ P : Nat, p = P := ⟨p.toNat, by omega⟩
  have hP24 : P ≤ 24 := by omega
  go_wp2_with fail
  clear ehm00 ehm01 ehm02 ehs0 fhs0 ehs1 fhs1 ehs2 fhs2
  refine (spec_diagonalOf0 P P A n c rs _ HV.out hp hk).mono ?_
  rintro e w2 ⟨zs, V, rfl, hq, hr, hb⟩
  have hzs : zs = diag P rs := by
    rcases hq with ⟨_, h⟩ | ⟨h, _⟩
    · rw [h]; rfl
    · exact absurd ⟨HM.out, rfl⟩ h
  have HZS := Lib.hid hzs
  have hlen : zs.length = P := by rw [hzs, diag_length]
  obtain ⟨A1, c1, rfl, hc1, hi1⟩ := resV_in hr hlen
  have HI := Lib.hid hi1
  have HKK : Hid (∀ r ∈ zs, r.ok) := by rw [hzs]; exact diag_ok HM.out
  have hm0_2 := Lib.hid (hm0_1.out.below hb hm0_1.out.lt)
  have hs_2 := Lib.hid (hs_1.out.below hb hs_1.out.lt)
  have BW_2 := Lib.hid (BW_1.out.trans (hb.mono BW_1.out.size))
  clear hb
  clear hq hr hlen hi1 hzs
  go_wp2_with fail
  refine (spec_l08Sum A1 P c1 zs _ HI.out HKK.out).mono ?_
  rintro e w3 ⟨g, r, v, dd, u, rfl, hq, q1, q2, hap, hb⟩
  obtain ⟨A6, c6, rfl⟩ := own_slice q1.2
  obtain ⟨B6, d6, rfl⟩ := own_slice q2.2
  have hs_3 := Lib.hid (hs_2.out.below hb hs_2.out.lt)
  have BW_3 := Lib.hid (BW_2.out.trans (hb.mono BW_2.out.size))
  clear hb
  obtain ⟨q, hqq⟩ : ∃ q, q = RD.mk g r dd := ⟨_, rfl⟩
  have HG : Hid (q.ok ∨ q = RD.zero) := by rw [hqq, hq]; exact rsum_good _ _
  have HIN : Hid (rsum (diag P rs) P = q) := by rw [hqq, ← HZS.out]; exact hq.symm
  have S0 : Hid (RSum (w3.alloc (.cells #[.bool g, .slice A6 r.length c6, .slice B6 dd.length d6] 31)).drew w.heap.size w3.heap.size q A6 c6 B6 d6) := by
    rw [hqq]
    exact RSum.drew ⟨Box.new _ _ _, own_base (q1.2.alloc _) BW_2.out.size, own_base (q2.2.alloc _) BW_2.out.size, hap⟩
  have eg : g = q.g := by rw [hqq]
  have er : r = q.xs := by rw [hqq]
  have ed : dd = q.ds := by rw [hqq]
  have hs_4 := Lib.hid (hs_3.out.alloc (.cells #[.bool q.g, .slice A6 q.xs.length c6, .slice B6 q.ds.length d6] 31)).drew
  have BW_4 := Lib.hid (BW_3.out.alloc BW_3.out.size (.cells #[.bool q.g, .slice A6 q.xs.length c6, .slice B6 q.ds.length d6] 31)).drew
  have HNE : Hid (w3.heap.size ≠ w.heap.size + 1) := by have := hs_3.out.lt; unfold Hid; omega
  have hsh := (RD.gr HG.out).short
  have hsh1 := hsh.1
  have hsh2 := hsh.2
  clear hq q1 q2 hap hqq hsh
  subst eg er ed
  go_wp2_with fail
  go_region_held3 (fun w' => w'.cell? ⟨w3.heap.size, 0, none⟩ = some (.bool q.g) ∧ w'.cell? ⟨w3.heap.size, 1, none⟩ = some (.slice A6 q.xs.length c6) ∧ w'.cell? ⟨w3.heap.size, 2, none⟩ = some (.slice B6 q.ds.length d6)) (first | with_reducible exact sum3far S_1 HNE _ _ _ | with_reducible exact sum3 S_1 | with_reducible exact sum3 S0) (first | (go_at_call 61; (with_reducible refine (spec_l05Bad q.g A6 q.xs.length c6 B6 q.ds.length d6 q.ds _ rfl (by omega)).mono ?_); rintro e w5 ⟨b, rfl, hi, hb5⟩; have HI5 := Lib.hid hi; have S_1 := Lib.hid (S0.out.below hb5); have hs_6 := Lib.hid (hs_4.out.below hb5 hs_4.out.lt); have BW_6 := Lib.hid (BW_4.out.trans (hb5.mono BW_4.out.size)); clear hi hb5; have ehs0 := hs_6.out.cell 0; have fhs0 := hs_6.out.free 0; have ehs1 := hs_6.out.cell 1; have fhs1 := hs_6.out.free 1; have ehs2 := hs_6.out.cell 2; have fhs2 := hs_6.out.free 2; simp at ehs0 ehs1 ehs2))
  have HQF : Hid (TraceOfIs P P rs q.g q.xs q.ds (!b)) := ratDone_of ⟨HM.out, rfl⟩ HIN.out HG.out (by
    have hi := HI5.out
    have hgn := good_nil HG.out
    cases b
    · exact ⟨fun _ => Classical.byContradiction fun hn => (by have h1 := hi.2 (hgn.2 hn); cases h1), fun _ => rfl⟩
    · exact ⟨fun h => by simp at h, fun h => absurd h (hgn.1 (hi.1 rfl))⟩)
  go_wp2_with fail
  refine bodyPost_ret (v := .tuple #[.agg #[.bool q.g, .slice A6 q.xs.length c6, .slice B6 q.ds.length d6], .bool (!b)]) (by simp [results, Try.results24, ehs0, ehs1, ehs2, go_sem]) rfl ?_
  exact ratOkEnd_sum hs_6.out (by omega) BW_6.out HQF.out HG.out S_1.out
theorem spec_traceOf (p k : Int) (A : Option Addr) (n c : Nat) (rs : List RD) (w : World) (h : InV w A n rs) (hp : -9223372036854775808 ≤ p ∧ p ≤ 9223372036854775807) (hk : -9223372036854775808 ≤ k ∧ k ≤ 9223372036854775807) (_hc : n ≤ c) :
    Calls Try.prog 24 #[.agg #[.int .i64 p, .int .i64 k, .slice A n c]] w fun e w' => ∃ g r v d u b, e = .returned (.tuple #[.agg #[.bool g, v, u], .bool b]) ∧ TraceOfIs p k rs g r d b ∧ ResI w w' v r ∧ ResI w w' u d ∧ Apart u v ∧ Below w.heap.size w w' := (spec_traceOf0 p k A n c rs w h hp hk).mono fun _ _ h => h.said
end Go.Proofs.Ythjbfdifeffilaa
