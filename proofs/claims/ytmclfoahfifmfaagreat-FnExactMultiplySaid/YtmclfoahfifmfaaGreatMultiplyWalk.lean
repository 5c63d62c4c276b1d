/- The walk of the law: for all arguments the law FnExactMultiply returns true: the program's Multiply answers as the model's; no condition on them. -/
import Derived.Test.YtmclfoahfifmfaaGreatGV
import Derived.Test.YtmclfoahfifmfaaGreatMatMem
import Derived.Test.YtmclfoahfifmfaaGreatMatS6
import Derived.Test.YtmclfoahfifmfaaGreatMatI7
import Derived.Test.YtmclfoahfifmfaaGreatGF
import Derived.ProofKit
import Derived.OpenShut
import Derived.ShutString
import Derived.Lib.SmallJoins
namespace Go.Proofs.YtmclfoahfifmfaaGreat.fnExactMultiply
set_option maxRecDepth 100000
open Go.ChangeShapes Go.WideShapes Go.ChangeAt Go.RowKit Go.Joins Go.Deep
open Go.ChangeMaps (open_string shut_string)

set_option maxRecDepth 100000 in
set_option maxHeartbeats 16000000 in
theorem walk {w : World} (p0 : Int) (hp0 : (Lit.int .i64 p0).wf = true) (q0 : Int) (hq0 : (Lit.int .i64 q0).wf = true) (a0 : Option Addr) (len0 cap0 : Nat) (z0 : List RD) (hz0 : IsV w a0 len0 z0) (p1 : Int) (hp1 : (Lit.int .i64 p1).wf = true) (q1 : Int) (hq1 : (Lit.int .i64 q1).wf = true) (a1 : Option Addr) (len1 cap1 : Nat) (z1 : List RD) (hz1 : IsV w a1 len1 z1) :
    Calls Tryz.prog 3 #[.agg #[.int .i64 p0, .int .i64 q0, .slice a0 len0 cap0], .agg #[.int .i64 p1, .int .i64 q1, .slice a1 len1 cap1]] w fun e w' => e = .returned (.bool true) ∧ Below w.heap.size w w' := by
  have Bp0 := bounds_i64 hp0
  clear hp0
  have Bq0 := bounds_i64 hq0
  clear hq0
  have hmz0 : len0 ≤ maxLen := hz0.2.1
  have Hz0 := Lib.hid hz0
  clear hz0
  have Bp1 := bounds_i64 hp1
  clear hp1
  have Bq1 := bounds_i64 hq1
  clear hq1
  have hmz1 : len1 ≤ maxLen := hz1.2.1
  have Hz1 := Lib.hid hz1
  clear hz1
  have BW0 : Hid (Below w.heap.size w w) := Below.refl _ _
  have BW1 := Lib.hid (BW0.out.alloc BW0.out.size (.cells #[.int .i64 p0, .int .i64 q0, .slice a0 len0 cap0] 24))
  have sz1 : Hid (w.heap.size + 1 ≤ (w.alloc (.cells #[.int .i64 p0, .int .i64 q0, .slice a0 len0 cap0] 24)).heap.size) := Lib.hid (by simp)
  have XaA_1 := Lib.hid (Box.new w 24 #[.int .i64 p0, .int .i64 q0, .slice a0 len0 cap0])
  have BW2 := Lib.hid (BW1.out.alloc BW1.out.size (.cells #[.int .i64 p1, .int .i64 q1, .slice a1 len1 cap1] 24))
  have sz2 : Hid ((w.alloc (.cells #[.int .i64 p0, .int .i64 q0, .slice a0 len0 cap0] 24)).heap.size + 1 ≤ ((w.alloc (.cells #[.int .i64 p0, .int .i64 q0, .slice a0 len0 cap0] 24)).alloc (.cells #[.int .i64 p1, .int .i64 q1, .slice a1 len1 cap1] 24)).heap.size) := Lib.hid (by simp)
  have XaA_2 := Lib.hid (XaA_1.out.alloc (.cells #[.int .i64 p1, .int .i64 q1, .slice a1 len1 cap1] 24))
  have XaB_2 : Hid (Box ((w.alloc (.cells #[.int .i64 p0, .int .i64 q0, .slice a0 len0 cap0] 24)).alloc (.cells #[.int .i64 p1, .int .i64 q1, .slice a1 len1 cap1] 24)) (w.heap.size + 1) 24 #[.int .i64 p1, .int .i64 q1, .slice a1 len1 cap1]) := Lib.hid (Box.at' (by simp))
  go_enter Tryz.func3, Tryz.ntmps3
  have eaA0a : ((w.alloc (.cells #[.int .i64 p0, .int .i64 q0, .slice a0 len0 cap0] 24)).alloc (.cells #[.int .i64 p1, .int .i64 q1, .slice a1 len1 cap1] 24)).cell? ⟨w.heap.size, 0, none⟩ = some (.int .i64 p0) := XaA_2.out.cell 0
  have eaA1a : ((w.alloc (.cells #[.int .i64 p0, .int .i64 q0, .slice a0 len0 cap0] 24)).alloc (.cells #[.int .i64 p1, .int .i64 q1, .slice a1 len1 cap1] 24)).cell? ⟨w.heap.size, 1, none⟩ = some (.int .i64 q0) := XaA_2.out.cell 1
  have eaA2a : ((w.alloc (.cells #[.int .i64 p0, .int .i64 q0, .slice a0 len0 cap0] 24)).alloc (.cells #[.int .i64 p1, .int .i64 q1, .slice a1 len1 cap1] 24)).cell? ⟨w.heap.size, 2, none⟩ = some (.slice a0 len0 cap0) := XaA_2.out.cell 2
  go_wp2_with fail
  clear eaA0a eaA1a eaA2a
  refine (szMatrix_any p0 q0 a0 len0 cap0 z0 (1048576 : Int) _ (Hz0.out.below BW2.out) (by omega) (by omega)).mono ?_
  rintro e ws0 ⟨lf0, rfl, hr, hb⟩
  have BW3 := Lib.hid (BW2.out.trans (hb.mono BW2.out.size))
  have sz3 : Hid (((w.alloc (.cells #[.int .i64 p0, .int .i64 q0, .slice a0 len0 cap0] 24)).alloc (.cells #[.int .i64 p1, .int .i64 q1, .slice a1 len1 cap1] 24)).heap.size ≤ ws0.heap.size) := hb.size
  have XaA_3 := Lib.hid (XaA_2.out.below hb XaA_2.out.lt)
  have XaB_3 := Lib.hid (XaB_2.out.below hb XaB_2.out.lt)
  clear hb
  rcases hr with rfl | ⟨h0, hr⟩
  · go_wp2_with fail
    go_ret
    exact ⟨rfl, BW3.out⟩
  have lb0 : 0 ≤ lf0 ∧ lf0 ≤ 1048576 := by omega
  have ls0 : lf0 + ((len0 : Int) + tot z0) = (1048576 : Int) := by omega
  have HLS0 := Lib.hid ls0
  have lt0 : len0 + tot z0 ≤ 1048576 := by omega
  clear ls0 hr
  have h00 := h0
  clear h0
  have Ftz0 := Lib.hid (Hz0.out.fits (by omega))
  have eaB0a : ws0.cell? ⟨w.heap.size + 1, 0, none⟩ = some (.int .i64 p1) := XaB_3.out.cell 0
  have eaB1a : ws0.cell? ⟨w.heap.size + 1, 1, none⟩ = some (.int .i64 q1) := XaB_3.out.cell 1
  have eaB2a : ws0.cell? ⟨w.heap.size + 1, 2, none⟩ = some (.slice a1 len1 cap1) := XaB_3.out.cell 2
  go_wp2_with fail
  clear eaB0a eaB1a eaB2a
  refine (szMatrix_any p1 q1 a1 len1 cap1 z1 lf0 _ (Hz1.out.below BW3.out) (by omega) (by omega)).mono ?_
  rintro e ws1 ⟨lf1, rfl, hr, hb⟩
  have BW4 := Lib.hid (BW3.out.trans (hb.mono BW3.out.size))
  have sz4 : Hid (ws0.heap.size ≤ ws1.heap.size) := hb.size
  have XaA_4 := Lib.hid (XaA_3.out.below hb XaA_3.out.lt)
  have XaB_4 := Lib.hid (XaB_3.out.below hb XaB_3.out.lt)
  clear hb
  rcases hr with rfl | ⟨h0, hr⟩
  · go_wp2_with fail
    go_ret
    exact ⟨rfl, BW4.out⟩
  have lb1 : 0 ≤ lf1 ∧ lf1 ≤ 1048576 := by omega
  have ls1 : lf1 + ((len1 : Int) + tot z1) = lf0 := by omega
  have HLS1 := Lib.hid ls1
  have lt1 : len1 + tot z1 ≤ 1048576 := by omega
  clear ls1 hr
  have h01 := h0
  clear h0
  have Ftz1 := Lib.hid (Hz1.out.fits (by omega))
  go_upto_region 8 with fail
  go_cut [6, 7] (fun s6 s7 wx => ∃ (gb : Nat) (p1_0 q1_0 : Int) (r1_0 : List RD) (r1_1 : Bool) (N0 : Nat) (Aw0 : Option Addr) (cw0 : Nat) (Lw0 : List El), s6 = .pointer (some ⟨gb, 0, none⟩) ∧ s7 = .bool r1_1 ∧ Hid (MultiplyIs p0 q0 z0 p1 q1 z1 p1_0 q1_0 r1_0 r1_1) ∧ Hid (r1_0.length = N0) ∧ N0 + tot r1_0 ≤ 1048576 ∧ Hid (∀ r ∈ r1_0, r.fits) ∧ Hid (OwnV wx ws1.heap.size (.slice Aw0 N0 cw0) N0 Lw0) ∧ Hid (Has Lw0 r1_0) ∧ Hid (Box wx gb 28 #[.int .i64 p1_0, .int .i64 q1_0, .slice Aw0 N0 cw0]) ∧ Hid (Below w.heap.size w wx) ∧ Hid (ws1.heap.size ≤ wx.heap.size) ∧ Hid (Box wx (w.heap.size) 24 #[.int .i64 p0, .int .i64 q0, .slice a0 len0 cap0]) ∧ Hid (Box wx (w.heap.size + 1) 24 #[.int .i64 p1, .int .i64 q1, .slice a1 len1 cap1]))
  case first =>
    have BW5 := Lib.hid BW4.out.drew
    have sz5 : Hid (ws1.heap.size ≤ ws1.drew.heap.size) := Nat.le_refl _
    have XaA_5 := Lib.hid XaA_4.out.drew
    have XaB_5 := Lib.hid XaB_4.out.drew
    go_region_held3 (fun w' => w'.cell? ⟨w.heap.size, 0, none⟩ = some (.int .i64 p0) ∧ w'.cell? ⟨w.heap.size, 1, none⟩ = some (.int .i64 q0) ∧ w'.cell? ⟨w.heap.size, 2, none⟩ = some (.slice a0 len0 cap0) ∧ w'.cell? ⟨w.heap.size + 1, 0, none⟩ = some (.int .i64 p1) ∧ w'.cell? ⟨w.heap.size + 1, 1, none⟩ = some (.int .i64 q1) ∧ w'.cell? ⟨w.heap.size + 1, 2, none⟩ = some (.slice a1 len1 cap1)) (first | with_reducible exact two_mats XaA_8 XaB_8 | with_reducible exact two_mats (hAlloc XaA_8 _) (hAlloc XaB_8 _) | with_reducible exact two_mats (hFar3 XaA_8 (by have := XaA_4.out.lt; have := sz5.out; have := sz6.out; have := sz7.out; have := sz8.out; omega) _ _ _) (hFar3 XaB_8 (by have := XaB_4.out.lt; have := sz5.out; have := sz6.out; have := sz7.out; have := sz8.out; omega) _ _ _) | with_reducible exact two_mats XaA_7 XaB_7 | with_reducible exact two_mats (hAlloc XaA_7 _) (hAlloc XaB_7 _) | with_reducible exact two_mats XaA_6 XaB_6 | with_reducible exact two_mats (hAlloc XaA_6 _) (hAlloc XaB_6 _) | with_reducible exact two_mats XaA_5 XaB_5 | with_reducible exact two_mats (hAlloc XaA_5 _) (hAlloc XaB_5 _) | with_reducible exact two_mats (hDrew (hAlloc XaA_4 _)) (hDrew (hAlloc XaB_4 _))) (first | (go_at_call 6; first | ((with_reducible refine (spec_multiply p0 q0 At1 len0 ct1 z0 p1 q1 At2 len1 ct2 z1 _ (vin Rt1_7 HHt1 (by omega) Ftz0) Bp0 Bq0 hcapt1 (vin Rt2_7 HHt2 (by omega) Ftz1) Bp1 Bq1 hcapt2).mono ?_); rintro e w3 ⟨p1_0, q1_0, r1_0, v0, r1_1, rfl, his, h0, hb⟩; have BW8 := Lib.hid (BW7.out.trans (hb.mono BW7.out.size)); have sz8 : Hid (w2.heap.size ≤ w3.heap.size) := (by have h := hb.size; first | exact h | (simp at h; unfold Hid; omega) | (simp only [drew_size'] at h; simp at h; unfold Hid; omega)); have Rt1_8 := Lib.hid (Rt1_7.out.below hb); have Rt2_8 := Lib.hid (Rt2_7.out.below hb); have XaA_8 := Lib.hid (XaA_7.out.below hb XaA_7.out.lt); have XaB_8 := Lib.hid (XaB_7.out.below hb XaB_7.out.lt); have IS := Lib.hid his; clear his; obtain ⟨hl, hf, Lw0, ho, hh⟩ := h0; obtain ⟨N0, hN⟩ : ∃ N, N = r1_0.length := ⟨_, rfl⟩; rw [← hN] at hl ho; have HN0 : Hid (r1_0.length = N0) := hN.symm; have hl0 := hl; have Ftr1_0 := Lib.hid hf; clear hN hl hf; obtain ⟨Aw0, cw0, rfl⟩ := ho.slice; have Uw0 := Lib.hid ho.lt; have Rw0_8 := Lib.hid ho.holds; have HHw0 := Lib.hid hh; obtain ⟨mw0, hmw0⟩ : ∃ m, m = mtot Lw0 := ⟨_, rfl⟩; have Mw0 : Hid (mw0 = N0 + tot r1_0) := Lib.hid (by have := mtot_has hh; have := HN0.out; omega); have Qw0 : Hid (mtot Lw0 = mw0) := hmw0.symm; clear hmw0; clear ho hh; (try (have NN_8 := Lib.hid (NN_7.out.below hb NN_7.out.lt))); clear hb; (try (have eN0 := NN_8.out.cell 0; have eN1 := NN_8.out.cell 1; have eN2 := NN_8.out.cell 2; simp at eN0 eN1 eN2; have fN0 := NN_8.out.free 0; have fN1 := NN_8.out.free 1; have fN2 := NN_8.out.free 2))) | (replace Rt1_7 := Lib.hid (Rt1_7.out.alloc (.cells #[.int .i64 0, .int .i64 0, .slice none 0 0] 28)); replace Rt2_7 := Lib.hid (Rt2_7.out.alloc (.cells #[.int .i64 0, .int .i64 0, .slice none 0 0] 28)); replace XaA_7 := Lib.hid (XaA_7.out.alloc (.cells #[.int .i64 0, .int .i64 0, .slice none 0 0] 28)); replace XaB_7 := Lib.hid (XaB_7.out.alloc (.cells #[.int .i64 0, .int .i64 0, .slice none 0 0] 28)); replace BW7 := Lib.hid (BW7.out.alloc BW7.out.size (.cells #[.int .i64 0, .int .i64 0, .slice none 0 0] 28)); have NN_7 := Lib.hid (Box.new w2 28 #[.int .i64 0, .int .i64 0, .slice none 0 0]); (with_reducible refine (spec_multiply p0 q0 At1 len0 ct1 z0 p1 q1 At2 len1 ct2 z1 _ (vin Rt1_7 HHt1 (by omega) Ftz0) Bp0 Bq0 hcapt1 (vin Rt2_7 HHt2 (by omega) Ftz1) Bp1 Bq1 hcapt2).mono ?_); rintro e w3 ⟨p1_0, q1_0, r1_0, v0, r1_1, rfl, his, h0, hb⟩; have BW8 := Lib.hid (BW7.out.trans (hb.mono BW7.out.size)); have sz8 : Hid (w2.heap.size ≤ w3.heap.size) := (by have h := hb.size; first | exact h | (simp at h; unfold Hid; omega) | (simp only [drew_size'] at h; simp at h; unfold Hid; omega)); have Rt1_8 := Lib.hid (Rt1_7.out.below hb); have Rt2_8 := Lib.hid (Rt2_7.out.below hb); have XaA_8 := Lib.hid (XaA_7.out.below hb XaA_7.out.lt); have XaB_8 := Lib.hid (XaB_7.out.below hb XaB_7.out.lt); have IS := Lib.hid his; clear his; obtain ⟨hl, hf, Lw0, ho, hh⟩ := h0; obtain ⟨N0, hN⟩ : ∃ N, N = r1_0.length := ⟨_, rfl⟩; rw [← hN] at hl ho; have HN0 : Hid (r1_0.length = N0) := hN.symm; have hl0 := hl; have Ftr1_0 := Lib.hid hf; clear hN hl hf; obtain ⟨Aw0, cw0, rfl⟩ := ho.slice; have Uw0 := Lib.hid ho.lt; have Rw0_8 := Lib.hid ho.holds; have HHw0 := Lib.hid hh; obtain ⟨mw0, hmw0⟩ : ∃ m, m = mtot Lw0 := ⟨_, rfl⟩; have Mw0 : Hid (mw0 = N0 + tot r1_0) := Lib.hid (by have := mtot_has hh; have := HN0.out; omega); have Qw0 : Hid (mtot Lw0 = mw0) := hmw0.symm; clear hmw0; clear ho hh; (try (have NN_8 := Lib.hid (NN_7.out.below hb NN_7.out.lt))); clear hb; (try (have eN0 := NN_8.out.cell 0; have eN1 := NN_8.out.cell 1; have eN2 := NN_8.out.cell 2; simp at eN0 eN1 eN2; have fN0 := NN_8.out.free 0; have fN1 := NN_8.out.free 1; have fN2 := NN_8.out.free 2)))) | (go_at_call 7; first | ((with_reducible refine (toMatrix_any p1 q1 a1 len1 cap1 z1 _ (Hz1.out.below BW6.out) (by omega)).mono ?_); rintro e w2 ⟨V, Lt2, rfl, ho, hh, hb⟩; have BW7 := Lib.hid (BW6.out.trans (hb.mono BW6.out.size)); have sz7 : Hid (w1.heap.size ≤ w2.heap.size) := (by have h := hb.size; first | exact h | (simp at h; unfold Hid; omega) | (simp only [drew_size'] at h; simp at h; unfold Hid; omega)); have Rt1_7 := Lib.hid (Rt1_6.out.below hb); have XaA_7 := Lib.hid (XaA_6.out.below hb XaA_6.out.lt); have XaB_7 := Lib.hid (XaB_6.out.below hb XaB_6.out.lt); obtain ⟨At2, ct2, rfl⟩ := ho.slice; have Ut2 := Lib.hid ho.lt; have Rt2_7 := Lib.hid ho.holds; have hcapt2 : len1 ≤ ct2 := own_le ho.2.1; have HHt2 := Lib.hid hh; obtain ⟨mt2, hmt2⟩ : ∃ m, m = mtot Lt2 := ⟨_, rfl⟩; have Mt2 : Hid (mt2 = len1 + tot z1) := Lib.hid (by have := mtot_has hh; have := Hz1.out.1; omega); have Qt2 : Hid (mtot Lt2 = mt2) := hmt2.symm; clear hmt2; (try (have NN_7 := Lib.hid (NN_6.out.below hb NN_6.out.lt))); clear ho hh hb) | (replace Rt1_6 := Lib.hid (Rt1_6.out.alloc (.cells #[.int .i64 0, .int .i64 0, .slice none 0 0] 28)); replace XaA_6 := Lib.hid (XaA_6.out.alloc (.cells #[.int .i64 0, .int .i64 0, .slice none 0 0] 28)); replace XaB_6 := Lib.hid (XaB_6.out.alloc (.cells #[.int .i64 0, .int .i64 0, .slice none 0 0] 28)); replace BW6 := Lib.hid (BW6.out.alloc BW6.out.size (.cells #[.int .i64 0, .int .i64 0, .slice none 0 0] 28)); have NN_6 := Lib.hid (Box.new w1 28 #[.int .i64 0, .int .i64 0, .slice none 0 0]); (with_reducible refine (toMatrix_any p1 q1 a1 len1 cap1 z1 _ (Hz1.out.below BW6.out) (by omega)).mono ?_); rintro e w2 ⟨V, Lt2, rfl, ho, hh, hb⟩; have BW7 := Lib.hid (BW6.out.trans (hb.mono BW6.out.size)); have sz7 : Hid (w1.heap.size ≤ w2.heap.size) := (by have h := hb.size; first | exact h | (simp at h; unfold Hid; omega) | (simp only [drew_size'] at h; simp at h; unfold Hid; omega)); have Rt1_7 := Lib.hid (Rt1_6.out.below hb); have XaA_7 := Lib.hid (XaA_6.out.below hb XaA_6.out.lt); have XaB_7 := Lib.hid (XaB_6.out.below hb XaB_6.out.lt); obtain ⟨At2, ct2, rfl⟩ := ho.slice; have Ut2 := Lib.hid ho.lt; have Rt2_7 := Lib.hid ho.holds; have hcapt2 : len1 ≤ ct2 := own_le ho.2.1; have HHt2 := Lib.hid hh; obtain ⟨mt2, hmt2⟩ : ∃ m, m = mtot Lt2 := ⟨_, rfl⟩; have Mt2 : Hid (mt2 = len1 + tot z1) := Lib.hid (by have := mtot_has hh; have := Hz1.out.1; omega); have Qt2 : Hid (mtot Lt2 = mt2) := hmt2.symm; clear hmt2; (try (have NN_7 := Lib.hid (NN_6.out.below hb NN_6.out.lt))); clear ho hh hb)) | (go_at_call 7; first | ((with_reducible refine (toMatrix_any p0 q0 a0 len0 cap0 z0 _ (Hz0.out.below BW5.out) (by omega)).mono ?_); rintro e w1 ⟨V, Lt1, rfl, ho, hh, hb⟩; have BW6 := Lib.hid (BW5.out.trans (hb.mono BW5.out.size)); have sz6 : Hid (ws1.heap.size ≤ w1.heap.size) := (by have h := hb.size; first | exact h | (simp at h; unfold Hid; omega) | (simp only [drew_size'] at h; simp at h; unfold Hid; omega)); have XaA_6 := Lib.hid (XaA_5.out.below hb XaA_5.out.lt); have XaB_6 := Lib.hid (XaB_5.out.below hb XaB_5.out.lt); obtain ⟨At1, ct1, rfl⟩ := ho.slice; have Ut1 := Lib.hid ho.lt; have Rt1_6 := Lib.hid ho.holds; have hcapt1 : len0 ≤ ct1 := own_le ho.2.1; have HHt1 := Lib.hid hh; obtain ⟨mt1, hmt1⟩ : ∃ m, m = mtot Lt1 := ⟨_, rfl⟩; have Mt1 : Hid (mt1 = len0 + tot z0) := Lib.hid (by have := mtot_has hh; have := Hz0.out.1; omega); have Qt1 : Hid (mtot Lt1 = mt1) := hmt1.symm; clear hmt1; (try (have NN_6 := Lib.hid (NN_5.out.below hb NN_5.out.lt))); clear ho hh hb) | (replace XaA_5 := Lib.hid (XaA_4.out.alloc (.cells #[.int .i64 0, .int .i64 0, .slice none 0 0] 28)).drew; replace XaB_5 := Lib.hid (XaB_4.out.alloc (.cells #[.int .i64 0, .int .i64 0, .slice none 0 0] 28)).drew; replace BW5 := Lib.hid (BW4.out.alloc BW4.out.size (.cells #[.int .i64 0, .int .i64 0, .slice none 0 0] 28)).drew; have NN_5 := Lib.hid (Box.new ws1 28 #[.int .i64 0, .int .i64 0, .slice none 0 0]).drew; (with_reducible refine (toMatrix_any p0 q0 a0 len0 cap0 z0 _ (Hz0.out.below BW5.out) (by omega)).mono ?_); rintro e w1 ⟨V, Lt1, rfl, ho, hh, hb⟩; have BW6 := Lib.hid (BW5.out.trans (hb.mono BW5.out.size)); have sz6 : Hid (ws1.heap.size ≤ w1.heap.size) := (by have h := hb.size; first | exact h | (simp at h; unfold Hid; omega) | (simp only [drew_size'] at h; simp at h; unfold Hid; omega)); have XaA_6 := Lib.hid (XaA_5.out.below hb XaA_5.out.lt); have XaB_6 := Lib.hid (XaB_5.out.below hb XaB_5.out.lt); obtain ⟨At1, ct1, rfl⟩ := ho.slice; have Ut1 := Lib.hid ho.lt; have Rt1_6 := Lib.hid ho.holds; have hcapt1 : len0 ≤ ct1 := own_le ho.2.1; have HHt1 := Lib.hid hh; obtain ⟨mt1, hmt1⟩ : ∃ m, m = mtot Lt1 := ⟨_, rfl⟩; have Mt1 : Hid (mt1 = len0 + tot z0) := Lib.hid (by have := mtot_has hh; have := Hz0.out.1; omega); have Qt1 : Hid (mtot Lt1 = mt1) := hmt1.symm; clear hmt1; (try (have NN_6 := Lib.hid (NN_5.out.below hb NN_5.out.lt))); clear ho hh hb)))
    all_goals (have zzb := BW4.out.size; have zz5 := sz5.out; have zz6 := sz6.out; have zz7 := sz7.out; have zz8 := sz8.out; go_wp2_with fail; go_meet; first | exact ⟨_, p1_0, q1_0, r1_0, r1_1, N0, _, _, Lw0, rfl, rfl, IS, HN0, hl0, Ftr1_0, OwnV.lower ((vnow Rw0_8).alloc _) (by first | omega | (simp; omega) | (simp only [drew_size']; simp; omega)), HHw0, Box.new _ _ _, BW8.out.alloc BW8.out.size _, (by first | (simp; omega) | (unfold Hid; simp; omega)), XaA_8.out.alloc _, XaB_8.out.alloc _⟩ | exact ⟨_, p1_0, q1_0, r1_0, r1_1, N0, _, _, Lw0, rfl, rfl, IS, HN0, hl0, Ftr1_0, OwnV.lower ((vnow Rw0_8).box_set3 NN_8.out _ _ _) (by first | omega | (simp; omega) | (simp only [drew_size']; simp; omega)), HHw0, (((NN_8.out.set_ 0 _).set_ 1 _).set_ 2 _), (((BW8.out.setCell (by dsimp only; omega) _).setCell (by dsimp only; omega) _).setCell (by dsimp only; omega) _), (by first | (simp; omega) | (unfold Hid; simp; omega)), XaA_8.out.set3 (by have := XaA_4.out.lt; omega) 0 1 2 _ _ _, XaB_8.out.set3 (by have := XaB_4.out.lt; omega) 0 1 2 _ _ _⟩)
  obtain ⟨gb1, p1_0, q1_0, r1_0, r1_1, N0, Aw0, cw0, Lw0, rfl, rfl, IS, HN0, hl0, Ftr1_0, HOx, HHw0, Xw0_5, BW5, sz5, XaA_5, XaB_5⟩ := hcut
  obtain ⟨wc1, rfl⟩ : ∃ q, q = wc := ⟨_, rfl⟩
  have ho := HOx.out
  clear HOx
  have Uw0 := Lib.hid ho.lt
  have Rw0_5 := Lib.hid ho.holds
  clear ho
  obtain ⟨mw0, hmw0⟩ : ∃ m, m = mtot Lw0 := ⟨_, rfl⟩
  have Mw0 : Hid (mw0 = N0 + tot r1_0) := Lib.hid (by have := mtot_has HHw0.out; have := HN0.out; omega)
  have Qw0 : Hid (mtot Lw0 = mw0) := hmw0.symm
  clear hmw0
  have eaA0a : wc1.cell? ⟨w.heap.size, 0, none⟩ = some (.int .i64 p0) := XaA_5.out.cell 0
  have eaA1a : wc1.cell? ⟨w.heap.size, 1, none⟩ = some (.int .i64 q0) := XaA_5.out.cell 1
  have eaA2a : wc1.cell? ⟨w.heap.size, 2, none⟩ = some (.slice a0 len0 cap0) := XaA_5.out.cell 2
  go_wp2_with fail
  clear eaA0a eaA1a eaA2a
  refine (toMatrix_any p0 q0 a0 len0 cap0 z0 _ (Hz0.out.below BW5.out) (by omega)).mono ?_
  rintro e w4 ⟨V, Lx0, rfl, ho, hh, hb⟩
  have BW6 := Lib.hid (BW5.out.trans (hb.mono BW5.out.size))
  have sz6 : Hid (wc1.heap.size ≤ w4.heap.size) := hb.size
  have Rw0_6 := Lib.hid (Rw0_5.out.below hb)
  have XaA_6 := Lib.hid (XaA_5.out.below hb XaA_5.out.lt)
  have XaB_6 := Lib.hid (XaB_5.out.below hb XaB_5.out.lt)
  have Xw0_6 := Lib.hid (Xw0_5.out.below hb Xw0_5.out.lt)
  obtain ⟨Ax0, cx0, rfl⟩ := ho.slice
  have Ux0 := Lib.hid ho.lt
  have Rx0_6 := Lib.hid ho.holds
  have hcapx0 : len0 ≤ cx0 := own_le ho.2.1
  have HHx0 := Lib.hid hh
  obtain ⟨mx0, hmx0⟩ : ∃ m, m = mtot Lx0 := ⟨_, rfl⟩
  have Mx0 : Hid (mx0 = len0 + tot z0) := Lib.hid (by have := mtot_has hh; have := Hz0.out.1; omega)
  have Qx0 : Hid (mtot Lx0 = mx0) := hmx0.symm
  clear hmx0
  clear ho hh hb
  have BW7 := Lib.hid (BW6.out.alloc BW6.out.size (.cells #[.int .i64 p0, .int .i64 q0, .slice Ax0 len0 cx0] 28))
  have sz7 : Hid (w4.heap.size + 1 ≤ (w4.alloc (.cells #[.int .i64 p0, .int .i64 q0, .slice Ax0 len0 cx0] 28)).heap.size) := Lib.hid (by simp)
  have Rw0_7 := Lib.hid (Rw0_6.out.alloc (.cells #[.int .i64 p0, .int .i64 q0, .slice Ax0 len0 cx0] 28))
  have Rx0_7 := Lib.hid (Rx0_6.out.alloc (.cells #[.int .i64 p0, .int .i64 q0, .slice Ax0 len0 cx0] 28))
  have XaA_7 := Lib.hid (XaA_6.out.alloc (.cells #[.int .i64 p0, .int .i64 q0, .slice Ax0 len0 cx0] 28))
  have XaB_7 := Lib.hid (XaB_6.out.alloc (.cells #[.int .i64 p0, .int .i64 q0, .slice Ax0 len0 cx0] 28))
  have Xw0_7 := Lib.hid (Xw0_6.out.alloc (.cells #[.int .i64 p0, .int .i64 q0, .slice Ax0 len0 cx0] 28))
  have Xx0_7 := Lib.hid (Box.new w4 28 #[.int .i64 p0, .int .i64 q0, .slice Ax0 len0 cx0])
  have eaB0a : w4.cell? ⟨w.heap.size + 1, 0, none⟩ = some (.int .i64 p1) := XaB_6.out.cell 0
  have eaB1a : w4.cell? ⟨w.heap.size + 1, 1, none⟩ = some (.int .i64 q1) := XaB_6.out.cell 1
  have eaB2a : w4.cell? ⟨w.heap.size + 1, 2, none⟩ = some (.slice a1 len1 cap1) := XaB_6.out.cell 2
  have eaB0b : (w4.alloc (.cells #[.int .i64 p0, .int .i64 q0, .slice Ax0 len0 cx0] 28)).cell? ⟨w.heap.size + 1, 0, none⟩ = some (.int .i64 p1) := XaB_7.out.cell 0
  have eaB1b : (w4.alloc (.cells #[.int .i64 p0, .int .i64 q0, .slice Ax0 len0 cx0] 28)).cell? ⟨w.heap.size + 1, 1, none⟩ = some (.int .i64 q1) := XaB_7.out.cell 1
  have eaB2b : (w4.alloc (.cells #[.int .i64 p0, .int .i64 q0, .slice Ax0 len0 cx0] 28)).cell? ⟨w.heap.size + 1, 2, none⟩ = some (.slice a1 len1 cap1) := XaB_7.out.cell 2
  have neaB0 : w4.heap.size ≠ w.heap.size + 1 := (by have := XaB_6.out.lt; omega)
  go_wp2_with fail
  clear eaB0a eaB1a eaB2a eaB0b eaB1b eaB2b neaB0
  refine (toMatrix_any p1 q1 a1 len1 cap1 z1 _ (Hz1.out.below BW7.out) (by omega)).mono ?_
  rintro e w5 ⟨V, Lx1, rfl, ho, hh, hb⟩
  have BW8 := Lib.hid (BW7.out.trans (hb.mono BW7.out.size))
  have sz8 : Hid ((w4.alloc (.cells #[.int .i64 p0, .int .i64 q0, .slice Ax0 len0 cx0] 28)).heap.size ≤ w5.heap.size) := hb.size
  have Rw0_8 := Lib.hid (Rw0_7.out.below hb)
  have Rx0_8 := Lib.hid (Rx0_7.out.below hb)
  have XaA_8 := Lib.hid (XaA_7.out.below hb XaA_7.out.lt)
  have XaB_8 := Lib.hid (XaB_7.out.below hb XaB_7.out.lt)
  have Xw0_8 := Lib.hid (Xw0_7.out.below hb Xw0_7.out.lt)
  have Xx0_8 := Lib.hid (Xx0_7.out.below hb Xx0_7.out.lt)
  obtain ⟨Ax1, cx1, rfl⟩ := ho.slice
  have Ux1 := Lib.hid ho.lt
  have Rx1_8 := Lib.hid ho.holds
  have hcapx1 : len1 ≤ cx1 := own_le ho.2.1
  have HHx1 := Lib.hid hh
  obtain ⟨mx1, hmx1⟩ : ∃ m, m = mtot Lx1 := ⟨_, rfl⟩
  have Mx1 : Hid (mx1 = len1 + tot z1) := Lib.hid (by have := mtot_has hh; have := Hz1.out.1; omega)
  have Qx1 : Hid (mtot Lx1 = mx1) := hmx1.symm
  clear hmx1
  clear ho hh hb
  have BW9 := Lib.hid (BW8.out.alloc BW8.out.size (.cells #[.int .i64 p1, .int .i64 q1, .slice Ax1 len1 cx1] 28))
  have sz9 : Hid (w5.heap.size + 1 ≤ (w5.alloc (.cells #[.int .i64 p1, .int .i64 q1, .slice Ax1 len1 cx1] 28)).heap.size) := Lib.hid (by simp)
  have Rw0_9 := Lib.hid (Rw0_8.out.alloc (.cells #[.int .i64 p1, .int .i64 q1, .slice Ax1 len1 cx1] 28))
  have Rx0_9 := Lib.hid (Rx0_8.out.alloc (.cells #[.int .i64 p1, .int .i64 q1, .slice Ax1 len1 cx1] 28))
  have Rx1_9 := Lib.hid (Rx1_8.out.alloc (.cells #[.int .i64 p1, .int .i64 q1, .slice Ax1 len1 cx1] 28))
  have XaA_9 := Lib.hid (XaA_8.out.alloc (.cells #[.int .i64 p1, .int .i64 q1, .slice Ax1 len1 cx1] 28))
  have XaB_9 := Lib.hid (XaB_8.out.alloc (.cells #[.int .i64 p1, .int .i64 q1, .slice Ax1 len1 cx1] 28))
  have Xw0_9 := Lib.hid (Xw0_8.out.alloc (.cells #[.int .i64 p1, .int .i64 q1, .slice Ax1 len1 cx1] 28))
  have Xx0_9 := Lib.hid (Xx0_8.out.alloc (.cells #[.int .i64 p1, .int .i64 q1, .slice Ax1 len1 cx1] 28))
  have Xx1_9 := Lib.hid (Box.new w5 28 #[.int .i64 p1, .int .i64 q1, .slice Ax1 len1 cx1])
  have ex00a : w5.cell? ⟨w4.heap.size, 0, none⟩ = some (.int .i64 p0) := Xx0_8.out.cell 0
  have ex01a : w5.cell? ⟨w4.heap.size, 1, none⟩ = some (.int .i64 q0) := Xx0_8.out.cell 1
  have ex02a : w5.cell? ⟨w4.heap.size, 2, none⟩ = some (.slice Ax0 len0 cx0) := Xx0_8.out.cell 2
  have ex00b : (w5.alloc (.cells #[.int .i64 p1, .int .i64 q1, .slice Ax1 len1 cx1] 28)).cell? ⟨w4.heap.size, 0, none⟩ = some (.int .i64 p0) := Xx0_9.out.cell 0
  have ex01b : (w5.alloc (.cells #[.int .i64 p1, .int .i64 q1, .slice Ax1 len1 cx1] 28)).cell? ⟨w4.heap.size, 1, none⟩ = some (.int .i64 q0) := Xx0_9.out.cell 1
  have ex02b : (w5.alloc (.cells #[.int .i64 p1, .int .i64 q1, .slice Ax1 len1 cx1] 28)).cell? ⟨w4.heap.size, 2, none⟩ = some (.slice Ax0 len0 cx0) := Xx0_9.out.cell 2
  have nex00 : w5.heap.size ≠ w4.heap.size := (by have := Xx0_8.out.lt; omega)
  go_wp2_with fail
  clear ex00a ex01a ex02a ex00b ex01b ex02b nex00
  refine (impl_multiply p0 q0 Ax0 len0 cx0 z0 p1 q1 Ax1 len1 cx1 z1 _ (vin Rx0_9 HHx0 (by omega) Ftz0) Bp0 Bq0 hcapx0 (vin Rx1_9 HHx1 (by omega) Ftz1) Bp1 Bq1 hcapx1).mono ?_
  rintro e w6 ⟨p2_0, q2_0, r2_0, v0, r2_1, rfl, his, h0, hb⟩
  have BW10 := Lib.hid (BW9.out.trans (hb.mono BW9.out.size))
  have sz10 : Hid ((w5.alloc (.cells #[.int .i64 p1, .int .i64 q1, .slice Ax1 len1 cx1] 28)).heap.size ≤ w6.heap.size) := hb.size
  have Rw0_10 := Lib.hid (Rw0_9.out.below hb)
  have Rx0_10 := Lib.hid (Rx0_9.out.below hb)
  have Rx1_10 := Lib.hid (Rx1_9.out.below hb)
  have XaA_10 := Lib.hid (XaA_9.out.below hb XaA_9.out.lt)
  have XaB_10 := Lib.hid (XaB_9.out.below hb XaB_9.out.lt)
  have Xw0_10 := Lib.hid (Xw0_9.out.below hb Xw0_9.out.lt)
  have Xx0_10 := Lib.hid (Xx0_9.out.below hb Xx0_9.out.lt)
  have Xx1_10 := Lib.hid (Xx1_9.out.below hb Xx1_9.out.lt)
  obtain ⟨rfl, rfl, rfl, rfl⟩ := multiply_unique IS.out his
  clear his
  obtain ⟨_, _, Lg0, ho, hh⟩ := h0
  rw [HN0.out] at ho
  obtain ⟨Ag0, cg0, rfl⟩ := ho.slice
  have Ug0 := Lib.hid ho.lt
  have Rg0_10 := Lib.hid ho.holds
  have HHg0 := Lib.hid hh
  obtain ⟨mg0, hmg0⟩ : ∃ m, m = mtot Lg0 := ⟨_, rfl⟩
  have Mg0 : Hid (mg0 = N0 + tot r1_0) := Lib.hid (by have := mtot_has hh; have := HN0.out; omega)
  have Qg0 : Hid (mtot Lg0 = mg0) := hmg0.symm
  clear hmg0
  clear ho hh
  clear hb
  have BW11 := Lib.hid (BW10.out.alloc BW10.out.size (.cells #[.int .i64 p1_0, .int .i64 q1_0, .slice Ag0 N0 cg0] 28))
  have sz11 : Hid (w6.heap.size + 1 ≤ (w6.alloc (.cells #[.int .i64 p1_0, .int .i64 q1_0, .slice Ag0 N0 cg0] 28)).heap.size) := Lib.hid (by simp)
  have Rw0_11 := Lib.hid (Rw0_10.out.alloc (.cells #[.int .i64 p1_0, .int .i64 q1_0, .slice Ag0 N0 cg0] 28))
  have Rx0_11 := Lib.hid (Rx0_10.out.alloc (.cells #[.int .i64 p1_0, .int .i64 q1_0, .slice Ag0 N0 cg0] 28))
  have Rx1_11 := Lib.hid (Rx1_10.out.alloc (.cells #[.int .i64 p1_0, .int .i64 q1_0, .slice Ag0 N0 cg0] 28))
  have Rg0_11 := Lib.hid (Rg0_10.out.alloc (.cells #[.int .i64 p1_0, .int .i64 q1_0, .slice Ag0 N0 cg0] 28))
  have XaA_11 := Lib.hid (XaA_10.out.alloc (.cells #[.int .i64 p1_0, .int .i64 q1_0, .slice Ag0 N0 cg0] 28))
  have XaB_11 := Lib.hid (XaB_10.out.alloc (.cells #[.int .i64 p1_0, .int .i64 q1_0, .slice Ag0 N0 cg0] 28))
  have Xw0_11 := Lib.hid (Xw0_10.out.alloc (.cells #[.int .i64 p1_0, .int .i64 q1_0, .slice Ag0 N0 cg0] 28))
  have Xx0_11 := Lib.hid (Xx0_10.out.alloc (.cells #[.int .i64 p1_0, .int .i64 q1_0, .slice Ag0 N0 cg0] 28))
  have Xx1_11 := Lib.hid (Xx1_10.out.alloc (.cells #[.int .i64 p1_0, .int .i64 q1_0, .slice Ag0 N0 cg0] 28))
  have Xg0_11 := Lib.hid (Box.new w6 28 #[.int .i64 p1_0, .int .i64 q1_0, .slice Ag0 N0 cg0])
  have ew00a : w6.cell? ⟨gb1, 0, none⟩ = some (.int .i64 p1_0) := Xw0_10.out.cell 0
  have ew01a : w6.cell? ⟨gb1, 1, none⟩ = some (.int .i64 q1_0) := Xw0_10.out.cell 1
  have ew02a : w6.cell? ⟨gb1, 2, none⟩ = some (.slice Aw0 N0 cw0) := Xw0_10.out.cell 2
  have ew00b : (w6.alloc (.cells #[.int .i64 p1_0, .int .i64 q1_0, .slice Ag0 N0 cg0] 28)).cell? ⟨gb1, 0, none⟩ = some (.int .i64 p1_0) := Xw0_11.out.cell 0
  have ew01b : (w6.alloc (.cells #[.int .i64 p1_0, .int .i64 q1_0, .slice Ag0 N0 cg0] 28)).cell? ⟨gb1, 1, none⟩ = some (.int .i64 q1_0) := Xw0_11.out.cell 1
  have ew02b : (w6.alloc (.cells #[.int .i64 p1_0, .int .i64 q1_0, .slice Ag0 N0 cg0] 28)).cell? ⟨gb1, 2, none⟩ = some (.slice Aw0 N0 cw0) := Xw0_11.out.cell 2
  have new00 : w6.heap.size ≠ gb1 := (by have := Xw0_10.out.lt; omega)
  go_wp2_with fail
  clear ew00a ew01a ew02a ew00b ew01b ew02b new00
  refine (eqMatrix_same p1_0 q1_0 Ag0 Aw0 N0 cg0 cw0 r1_0 _ (vin Rg0_11 HHg0 (by omega) Ftr1_0) (vin Rw0_11 HHw0 (by omega) Ftr1_0)).mono ?_
  rintro e w7 ⟨rfl, hb⟩
  have BW12 := Lib.hid (BW11.out.trans (hb.mono BW11.out.size))
  have sz12 : Hid ((w6.alloc (.cells #[.int .i64 p1_0, .int .i64 q1_0, .slice Ag0 N0 cg0] 28)).heap.size ≤ w7.heap.size) := hb.size
  have Rw0_12 := Lib.hid (Rw0_11.out.below hb)
  have Rx0_12 := Lib.hid (Rx0_11.out.below hb)
  have Rx1_12 := Lib.hid (Rx1_11.out.below hb)
  have Rg0_12 := Lib.hid (Rg0_11.out.below hb)
  have XaA_12 := Lib.hid (XaA_11.out.below hb XaA_11.out.lt)
  have XaB_12 := Lib.hid (XaB_11.out.below hb XaB_11.out.lt)
  have Xw0_12 := Lib.hid (Xw0_11.out.below hb Xw0_11.out.lt)
  have Xx0_12 := Lib.hid (Xx0_11.out.below hb Xx0_11.out.lt)
  have Xx1_12 := Lib.hid (Xx1_11.out.below hb Xx1_11.out.lt)
  have Xg0_12 := Lib.hid (Xg0_11.out.below hb Xg0_11.out.lt)
  clear hb
  go_wp2_with fail
  have BW13 := Lib.hid BW12.out.drew
  have sz13 : Hid (w7.heap.size ≤ w7.drew.heap.size) := Nat.le_refl _
  have Rw0_13 := Lib.hid Rw0_12.out.drew
  have Rx0_13 := Lib.hid Rx0_12.out.drew
  have Rx1_13 := Lib.hid Rx1_12.out.drew
  have Rg0_13 := Lib.hid Rg0_12.out.drew
  have XaA_13 := Lib.hid XaA_12.out.drew
  have XaB_13 := Lib.hid XaB_12.out.drew
  have Xw0_13 := Lib.hid Xw0_12.out.drew
  have Xx0_13 := Lib.hid Xx0_12.out.drew
  have Xx1_13 := Lib.hid Xx1_12.out.drew
  have Xg0_13 := Lib.hid Xg0_12.out.drew
  have cvx00 : Hid ((#[.int .i64 p0, .int .i64 q0, .slice Ax0 len0 cx0] : Array Value)[0]? = some (.int .i64 p0)) := rfl
  have cvx01 : Hid ((#[.int .i64 p0, .int .i64 q0, .slice Ax0 len0 cx0] : Array Value)[1]? = some (.int .i64 q0)) := rfl
  have cvx02 : Hid ((#[.int .i64 p0, .int .i64 q0, .slice Ax0 len0 cx0] : Array Value)[2]? = some (.slice Ax0 len0 cx0)) := rfl
  have cvaA0 : Hid ((#[.int .i64 p0, .int .i64 q0, .slice a0 len0 cap0] : Array Value)[0]? = some (.int .i64 p0)) := rfl
  have cvaA1 : Hid ((#[.int .i64 p0, .int .i64 q0, .slice a0 len0 cap0] : Array Value)[1]? = some (.int .i64 q0)) := rfl
  have cvaA2 : Hid ((#[.int .i64 p0, .int .i64 q0, .slice a0 len0 cap0] : Array Value)[2]? = some (.slice a0 len0 cap0)) := rfl
  go_region_held3 (fun w' => w'.cell? ⟨w4.heap.size, 0, none⟩ = some (.int .i64 p0) ∧ w'.cell? ⟨w4.heap.size, 1, none⟩ = some (.int .i64 q0) ∧ w'.cell? ⟨w4.heap.size, 2, none⟩ = some (.slice Ax0 len0 cx0) ∧ w'.cell? ⟨w.heap.size, 0, none⟩ = some (.int .i64 p0) ∧ w'.cell? ⟨w.heap.size, 1, none⟩ = some (.int .i64 q0) ∧ w'.cell? ⟨w.heap.size, 2, none⟩ = some (.slice a0 len0 cap0)) (first | with_reducible exact ⟨cellS Xx0_15 cvx00, cellS Xx0_15 cvx01, cellS Xx0_15 cvx02, cellS XaA_15 cvaA0, cellS XaA_15 cvaA1, cellS XaA_15 cvaA2⟩ | with_reducible exact ⟨cellS Xx0_14 cvx00, cellS Xx0_14 cvx01, cellS Xx0_14 cvx02, cellS XaA_14 cvaA0, cellS XaA_14 cvaA1, cellS XaA_14 cvaA2⟩ | with_reducible exact ⟨cellS Xx0_13 cvx00, cellS Xx0_13 cvx01, cellS Xx0_13 cvx02, cellS XaA_13 cvaA0, cellS XaA_13 cvaA1, cellS XaA_13 cvaA2⟩) (first | (go_at_call 9; refine (eqMatrix_same p0 q0 Ax0 At3 len0 cx0 ct3 z0 _ (vin Rx0_14 HHx0 (by omega) Ftz0) (vin Rt3_14 HHt3 (by omega) Ftz0)).mono ?_; rintro e w9 ⟨rfl, hb⟩; have BW15 := Lib.hid (BW14.out.trans (hb.mono BW14.out.size)); have sz15 : Hid (w8.heap.size ≤ w9.heap.size) := hb.size; have Rw0_15 := Lib.hid (Rw0_14.out.below hb); have Rx0_15 := Lib.hid (Rx0_14.out.below hb); have Rx1_15 := Lib.hid (Rx1_14.out.below hb); have Rg0_15 := Lib.hid (Rg0_14.out.below hb); have Rt3_15 := Lib.hid (Rt3_14.out.below hb); have XaA_15 := Lib.hid (XaA_14.out.below hb XaA_14.out.lt); have XaB_15 := Lib.hid (XaB_14.out.below hb XaB_14.out.lt); have Xw0_15 := Lib.hid (Xw0_14.out.below hb Xw0_14.out.lt); have Xx0_15 := Lib.hid (Xx0_14.out.below hb Xx0_14.out.lt); have Xx1_15 := Lib.hid (Xx1_14.out.below hb Xx1_14.out.lt); have Xg0_15 := Lib.hid (Xg0_14.out.below hb Xg0_14.out.lt); clear hb) | (go_at_call 7; refine (toMatrix_any p0 q0 a0 len0 cap0 z0 _ (Hz0.out.below BW13.out) (by omega)).mono ?_; rintro e w8 ⟨V, Lt3, rfl, ho, hh, hb⟩; have BW14 := Lib.hid (BW13.out.trans (hb.mono BW13.out.size)); have sz14 : Hid (w7.drew.heap.size ≤ w8.heap.size) := hb.size; have Rw0_14 := Lib.hid (Rw0_13.out.below hb); have Rx0_14 := Lib.hid (Rx0_13.out.below hb); have Rx1_14 := Lib.hid (Rx1_13.out.below hb); have Rg0_14 := Lib.hid (Rg0_13.out.below hb); have XaA_14 := Lib.hid (XaA_13.out.below hb XaA_13.out.lt); have XaB_14 := Lib.hid (XaB_13.out.below hb XaB_13.out.lt); have Xw0_14 := Lib.hid (Xw0_13.out.below hb Xw0_13.out.lt); have Xx0_14 := Lib.hid (Xx0_13.out.below hb Xx0_13.out.lt); have Xx1_14 := Lib.hid (Xx1_13.out.below hb Xx1_13.out.lt); have Xg0_14 := Lib.hid (Xg0_13.out.below hb Xg0_13.out.lt); obtain ⟨At3, ct3, rfl⟩ := ho.slice; have Ut3 := Lib.hid ho.lt; have Rt3_14 := Lib.hid ho.holds; have hcapt3 : len0 ≤ ct3 := own_le ho.2.1; have HHt3 := Lib.hid hh; obtain ⟨mt3, hmt3⟩ : ∃ m, m = mtot Lt3 := ⟨_, rfl⟩; have Mt3 : Hid (mt3 = len0 + tot z0) := Lib.hid (by have := mtot_has hh; have := Hz0.out.1; omega); have Qt3 : Hid (mtot Lt3 = mt3) := hmt3.symm; clear hmt3; clear ho hh hb))
  clear cvx00 cvx01 cvx02 cvaA0 cvaA1 cvaA2
  clear Rt3_15 Ut3
  go_wp2_with fail
  have BW16 := Lib.hid BW15.out.drew
  have sz16 : Hid (w9.heap.size ≤ w9.drew.heap.size) := Nat.le_refl _
  have Rw0_16 := Lib.hid Rw0_15.out.drew
  have Rx0_16 := Lib.hid Rx0_15.out.drew
  have Rx1_16 := Lib.hid Rx1_15.out.drew
  have Rg0_16 := Lib.hid Rg0_15.out.drew
  have XaA_16 := Lib.hid XaA_15.out.drew
  have XaB_16 := Lib.hid XaB_15.out.drew
  have Xw0_16 := Lib.hid Xw0_15.out.drew
  have Xx0_16 := Lib.hid Xx0_15.out.drew
  have Xx1_16 := Lib.hid Xx1_15.out.drew
  have Xg0_16 := Lib.hid Xg0_15.out.drew
  have cvx10 : Hid ((#[.int .i64 p1, .int .i64 q1, .slice Ax1 len1 cx1] : Array Value)[0]? = some (.int .i64 p1)) := rfl
  have cvx11 : Hid ((#[.int .i64 p1, .int .i64 q1, .slice Ax1 len1 cx1] : Array Value)[1]? = some (.int .i64 q1)) := rfl
  have cvx12 : Hid ((#[.int .i64 p1, .int .i64 q1, .slice Ax1 len1 cx1] : Array Value)[2]? = some (.slice Ax1 len1 cx1)) := rfl
  have cvaB0 : Hid ((#[.int .i64 p1, .int .i64 q1, .slice a1 len1 cap1] : Array Value)[0]? = some (.int .i64 p1)) := rfl
  have cvaB1 : Hid ((#[.int .i64 p1, .int .i64 q1, .slice a1 len1 cap1] : Array Value)[1]? = some (.int .i64 q1)) := rfl
  have cvaB2 : Hid ((#[.int .i64 p1, .int .i64 q1, .slice a1 len1 cap1] : Array Value)[2]? = some (.slice a1 len1 cap1)) := rfl
  go_region_held3 (fun w' => w'.cell? ⟨w5.heap.size, 0, none⟩ = some (.int .i64 p1) ∧ w'.cell? ⟨w5.heap.size, 1, none⟩ = some (.int .i64 q1) ∧ w'.cell? ⟨w5.heap.size, 2, none⟩ = some (.slice Ax1 len1 cx1) ∧ w'.cell? ⟨w.heap.size + 1, 0, none⟩ = some (.int .i64 p1) ∧ w'.cell? ⟨w.heap.size + 1, 1, none⟩ = some (.int .i64 q1) ∧ w'.cell? ⟨w.heap.size + 1, 2, none⟩ = some (.slice a1 len1 cap1)) (first | with_reducible exact ⟨cellS Xx1_18 cvx10, cellS Xx1_18 cvx11, cellS Xx1_18 cvx12, cellS XaB_18 cvaB0, cellS XaB_18 cvaB1, cellS XaB_18 cvaB2⟩ | with_reducible exact ⟨cellS Xx1_17 cvx10, cellS Xx1_17 cvx11, cellS Xx1_17 cvx12, cellS XaB_17 cvaB0, cellS XaB_17 cvaB1, cellS XaB_17 cvaB2⟩ | with_reducible exact ⟨cellS Xx1_16 cvx10, cellS Xx1_16 cvx11, cellS Xx1_16 cvx12, cellS XaB_16 cvaB0, cellS XaB_16 cvaB1, cellS XaB_16 cvaB2⟩) (first | (go_at_call 9; refine (eqMatrix_same p1 q1 Ax1 At4 len1 cx1 ct4 z1 _ (vin Rx1_17 HHx1 (by omega) Ftz1) (vin Rt4_17 HHt4 (by omega) Ftz1)).mono ?_; rintro e w11 ⟨rfl, hb⟩; have BW18 := Lib.hid (BW17.out.trans (hb.mono BW17.out.size)); have sz18 : Hid (w10.heap.size ≤ w11.heap.size) := hb.size; have Rw0_18 := Lib.hid (Rw0_17.out.below hb); have Rx0_18 := Lib.hid (Rx0_17.out.below hb); have Rx1_18 := Lib.hid (Rx1_17.out.below hb); have Rg0_18 := Lib.hid (Rg0_17.out.below hb); have Rt4_18 := Lib.hid (Rt4_17.out.below hb); have XaA_18 := Lib.hid (XaA_17.out.below hb XaA_17.out.lt); have XaB_18 := Lib.hid (XaB_17.out.below hb XaB_17.out.lt); have Xw0_18 := Lib.hid (Xw0_17.out.below hb Xw0_17.out.lt); have Xx0_18 := Lib.hid (Xx0_17.out.below hb Xx0_17.out.lt); have Xx1_18 := Lib.hid (Xx1_17.out.below hb Xx1_17.out.lt); have Xg0_18 := Lib.hid (Xg0_17.out.below hb Xg0_17.out.lt); clear hb) | (go_at_call 7; refine (toMatrix_any p1 q1 a1 len1 cap1 z1 _ (Hz1.out.below BW16.out) (by omega)).mono ?_; rintro e w10 ⟨V, Lt4, rfl, ho, hh, hb⟩; have BW17 := Lib.hid (BW16.out.trans (hb.mono BW16.out.size)); have sz17 : Hid (w9.drew.heap.size ≤ w10.heap.size) := hb.size; have Rw0_17 := Lib.hid (Rw0_16.out.below hb); have Rx0_17 := Lib.hid (Rx0_16.out.below hb); have Rx1_17 := Lib.hid (Rx1_16.out.below hb); have Rg0_17 := Lib.hid (Rg0_16.out.below hb); have XaA_17 := Lib.hid (XaA_16.out.below hb XaA_16.out.lt); have XaB_17 := Lib.hid (XaB_16.out.below hb XaB_16.out.lt); have Xw0_17 := Lib.hid (Xw0_16.out.below hb Xw0_16.out.lt); have Xx0_17 := Lib.hid (Xx0_16.out.below hb Xx0_16.out.lt); have Xx1_17 := Lib.hid (Xx1_16.out.below hb Xx1_16.out.lt); have Xg0_17 := Lib.hid (Xg0_16.out.below hb Xg0_16.out.lt); obtain ⟨At4, ct4, rfl⟩ := ho.slice; have Ut4 := Lib.hid ho.lt; have Rt4_17 := Lib.hid ho.holds; have hcapt4 : len1 ≤ ct4 := own_le ho.2.1; have HHt4 := Lib.hid hh; obtain ⟨mt4, hmt4⟩ : ∃ m, m = mtot Lt4 := ⟨_, rfl⟩; have Mt4 : Hid (mt4 = len1 + tot z1) := Lib.hid (by have := mtot_has hh; have := Hz1.out.1; omega); have Qt4 : Hid (mtot Lt4 = mt4) := hmt4.symm; clear hmt4; clear ho hh hb))
  clear cvx10 cvx11 cvx12 cvaB0 cvaB1 cvaB2
  clear Rt4_18 Ut4
  have ex00a : w11.cell? ⟨w4.heap.size, 0, none⟩ = some (.int .i64 p0) := Xx0_18.out.cell 0
  have ex01a : w11.cell? ⟨w4.heap.size, 1, none⟩ = some (.int .i64 q0) := Xx0_18.out.cell 1
  have ex02a : w11.cell? ⟨w4.heap.size, 2, none⟩ = some (.slice Ax0 len0 cx0) := Xx0_18.out.cell 2
  go_wp2_with fail
  clear ex00a ex01a ex02a
  refine (markMatrix_m _ p0 q0 Ax0 len0 cx0 (1) mx0 Lx0 z0 _ Qx0 (by have := Mx0.out; unfold maxLen; omega) (vnow Rx0_18) HHx0.out).mono ?_
  rintro e w12 ⟨rfl, ho, hW⟩
  have BW19 := Lib.hid (Wrote.below BW18.out hW (fun k hk => Nat.le_trans (Nat.le_trans (Nat.le_of_succ_le sz1.out) (Nat.le_trans (Nat.le_of_succ_le sz2.out) (Nat.le_trans sz3.out (Nat.le_trans sz4.out sz5.out)))) (Ux0.out k hk).1) (Nat.le_trans (Nat.le_of_succ_le sz1.out) (Nat.le_trans (Nat.le_of_succ_le sz2.out) (Nat.le_trans sz3.out (Nat.le_trans sz4.out (Nat.le_trans sz5.out (Nat.le_trans sz6.out (Nat.le_trans (Nat.le_of_succ_le sz7.out) (Nat.le_trans sz8.out (Nat.le_trans (Nat.le_of_succ_le sz9.out) (Nat.le_trans sz10.out (Nat.le_trans (Nat.le_of_succ_le sz11.out) (Nat.le_trans sz12.out (Nat.le_trans sz13.out (Nat.le_trans sz14.out (Nat.le_trans sz15.out (Nat.le_trans sz16.out (Nat.le_trans sz17.out sz18.out))))))))))))))))))
  have sz19 : Hid (w11.heap.size ≤ w12.heap.size) := hW.size
  have Rw0_19 := Lib.hid (Rw0_18.out.wrote hW (two_none Uw0 Ux0 (.inl (Nat.le_refl _))))
  have Rx1_19 := Lib.hid (Rx1_18.out.wrote hW (two_none Ux1 Ux0 (.inr (Nat.le_of_succ_le sz7.out))))
  have Rg0_19 := Lib.hid (Rg0_18.out.wrote hW (two_none Ug0 Ux0 (.inr (Nat.le_trans (Nat.le_of_succ_le sz7.out) (Nat.le_trans sz8.out (Nat.le_of_succ_le sz9.out))))))
  have XaA_19 := Lib.hid (XaA_18.out.wroteV Rx0_18.out.now hW)
  have XaB_19 := Lib.hid (XaB_18.out.wroteV Rx0_18.out.now hW)
  have Xw0_19 := Lib.hid (Xw0_18.out.wroteV Rx0_18.out.now hW)
  have Xx0_19 := Lib.hid (Xx0_18.out.wroteV Rx0_18.out.now hW)
  have Xx1_19 := Lib.hid (Xx1_18.out.wroteV Rx0_18.out.now hW)
  have Xg0_19 := Lib.hid (Xg0_18.out.wroteV Rx0_18.out.now hW)
  have Rx0_19 := Lib.hid ho.holds_marked
  clear ho hW
  clear Rx0_19 Ux0 Xx0_19
  have ex10a : w12.cell? ⟨w5.heap.size, 0, none⟩ = some (.int .i64 p1) := Xx1_19.out.cell 0
  have ex11a : w12.cell? ⟨w5.heap.size, 1, none⟩ = some (.int .i64 q1) := Xx1_19.out.cell 1
  have ex12a : w12.cell? ⟨w5.heap.size, 2, none⟩ = some (.slice Ax1 len1 cx1) := Xx1_19.out.cell 2
  go_wp2_with fail
  clear ex10a ex11a ex12a
  refine (markMatrix_m _ p1 q1 Ax1 len1 cx1 (1 + mx0) mx1 Lx1 z1 _ Qx1 (by have := Mx0.out; have := Mx1.out; unfold maxLen; omega) (vnow Rx1_19) HHx1.out).mono ?_
  rintro e w13 ⟨rfl, ho, hW⟩
  have BW20 := Lib.hid (Wrote.below BW19.out hW (fun k hk => Nat.le_trans (Nat.le_trans (Nat.le_of_succ_le sz1.out) (Nat.le_trans (Nat.le_of_succ_le sz2.out) (Nat.le_trans sz3.out (Nat.le_trans sz4.out (Nat.le_trans sz5.out (Nat.le_trans sz6.out (Nat.le_of_succ_le sz7.out))))))) (Ux1.out k hk).1) (Nat.le_trans (Nat.le_of_succ_le sz1.out) (Nat.le_trans (Nat.le_of_succ_le sz2.out) (Nat.le_trans sz3.out (Nat.le_trans sz4.out (Nat.le_trans sz5.out (Nat.le_trans sz6.out (Nat.le_trans (Nat.le_of_succ_le sz7.out) (Nat.le_trans sz8.out (Nat.le_trans (Nat.le_of_succ_le sz9.out) (Nat.le_trans sz10.out (Nat.le_trans (Nat.le_of_succ_le sz11.out) (Nat.le_trans sz12.out (Nat.le_trans sz13.out (Nat.le_trans sz14.out (Nat.le_trans sz15.out (Nat.le_trans sz16.out (Nat.le_trans sz17.out (Nat.le_trans sz18.out sz19.out)))))))))))))))))))
  have sz20 : Hid (w12.heap.size ≤ w13.heap.size) := hW.size
  have Rw0_20 := Lib.hid (Rw0_19.out.wrote hW (two_none Uw0 Ux1 (.inl (Nat.le_trans sz6.out (Nat.le_of_succ_le sz7.out)))))
  have Rg0_20 := Lib.hid (Rg0_19.out.wrote hW (two_none Ug0 Ux1 (.inr (Nat.le_of_succ_le sz9.out))))
  have XaA_20 := Lib.hid (XaA_19.out.wroteV Rx1_19.out.now hW)
  have XaB_20 := Lib.hid (XaB_19.out.wroteV Rx1_19.out.now hW)
  have Xw0_20 := Lib.hid (Xw0_19.out.wroteV Rx1_19.out.now hW)
  have Xx1_20 := Lib.hid (Xx1_19.out.wroteV Rx1_19.out.now hW)
  have Xg0_20 := Lib.hid (Xg0_19.out.wroteV Rx1_19.out.now hW)
  have Rx1_20 := Lib.hid ho.holds_marked
  clear ho hW
  clear Rx1_20 Ux1 Xx1_20
  have eg00a : w13.cell? ⟨w6.heap.size, 0, none⟩ = some (.int .i64 p1_0) := Xg0_20.out.cell 0
  have eg01a : w13.cell? ⟨w6.heap.size, 1, none⟩ = some (.int .i64 q1_0) := Xg0_20.out.cell 1
  have eg02a : w13.cell? ⟨w6.heap.size, 2, none⟩ = some (.slice Ag0 N0 cg0) := Xg0_20.out.cell 2
  have ew00a : w13.cell? ⟨gb1, 0, none⟩ = some (.int .i64 p1_0) := Xw0_20.out.cell 0
  have ew01a : w13.cell? ⟨gb1, 1, none⟩ = some (.int .i64 q1_0) := Xw0_20.out.cell 1
  have ew02a : w13.cell? ⟨gb1, 2, none⟩ = some (.slice Aw0 N0 cw0) := Xw0_20.out.cell 2
  go_wp2_with fail
  clear eg00a eg01a eg02a ew00a ew01a ew02a
  refine (eqMatrix_same p1_0 q1_0 Ag0 Aw0 N0 cg0 cw0 r1_0 _ (vin Rg0_20 HHg0 (by omega) Ftr1_0) (vin Rw0_20 HHw0 (by omega) Ftr1_0)).mono ?_
  rintro e w14 ⟨rfl, hb⟩
  have BW21 := Lib.hid (BW20.out.trans (hb.mono BW20.out.size))
  have sz21 : Hid (w13.heap.size ≤ w14.heap.size) := hb.size
  have Rw0_21 := Lib.hid (Rw0_20.out.below hb)
  have Rg0_21 := Lib.hid (Rg0_20.out.below hb)
  have XaA_21 := Lib.hid (XaA_20.out.below hb XaA_20.out.lt)
  have XaB_21 := Lib.hid (XaB_20.out.below hb XaB_20.out.lt)
  have Xw0_21 := Lib.hid (Xw0_20.out.below hb Xw0_20.out.lt)
  have Xg0_21 := Lib.hid (Xg0_20.out.below hb Xg0_20.out.lt)
  clear hb
  have eg00a : w14.cell? ⟨w6.heap.size, 0, none⟩ = some (.int .i64 p1_0) := Xg0_21.out.cell 0
  have eg01a : w14.cell? ⟨w6.heap.size, 1, none⟩ = some (.int .i64 q1_0) := Xg0_21.out.cell 1
  have eg02a : w14.cell? ⟨w6.heap.size, 2, none⟩ = some (.slice Ag0 N0 cg0) := Xg0_21.out.cell 2
  go_wp2_with fail
  clear eg00a eg01a eg02a
  refine (markMatrix_m _ p1_0 q1_0 Ag0 N0 cg0 (1) mg0 Lg0 r1_0 _ Qg0 (by have := Mg0.out; unfold maxLen; omega) (vnow Rg0_21) HHg0.out).mono ?_
  rintro e w15 ⟨rfl, ho, hW⟩
  have BW22 := Lib.hid (Wrote.below BW21.out hW (fun k hk => Nat.le_trans (Nat.le_trans (Nat.le_of_succ_le sz1.out) (Nat.le_trans (Nat.le_of_succ_le sz2.out) (Nat.le_trans sz3.out (Nat.le_trans sz4.out (Nat.le_trans sz5.out (Nat.le_trans sz6.out (Nat.le_trans (Nat.le_of_succ_le sz7.out) (Nat.le_trans sz8.out (Nat.le_of_succ_le sz9.out))))))))) (Ug0.out k hk).1) (Nat.le_trans (Nat.le_of_succ_le sz1.out) (Nat.le_trans (Nat.le_of_succ_le sz2.out) (Nat.le_trans sz3.out (Nat.le_trans sz4.out (Nat.le_trans sz5.out (Nat.le_trans sz6.out (Nat.le_trans (Nat.le_of_succ_le sz7.out) (Nat.le_trans sz8.out (Nat.le_trans (Nat.le_of_succ_le sz9.out) (Nat.le_trans sz10.out (Nat.le_trans (Nat.le_of_succ_le sz11.out) (Nat.le_trans sz12.out (Nat.le_trans sz13.out (Nat.le_trans sz14.out (Nat.le_trans sz15.out (Nat.le_trans sz16.out (Nat.le_trans sz17.out (Nat.le_trans sz18.out (Nat.le_trans sz19.out (Nat.le_trans sz20.out sz21.out)))))))))))))))))))))
  have sz22 : Hid (w14.heap.size ≤ w15.heap.size) := hW.size
  have Rw0_22 := Lib.hid (Rw0_21.out.wrote hW (two_none Uw0 Ug0 (.inl (Nat.le_trans sz6.out (Nat.le_trans (Nat.le_of_succ_le sz7.out) (Nat.le_trans sz8.out (Nat.le_of_succ_le sz9.out)))))))
  have XaA_22 := Lib.hid (XaA_21.out.wroteV Rg0_21.out.now hW)
  have XaB_22 := Lib.hid (XaB_21.out.wroteV Rg0_21.out.now hW)
  have Xw0_22 := Lib.hid (Xw0_21.out.wroteV Rg0_21.out.now hW)
  have Xg0_22 := Lib.hid (Xg0_21.out.wroteV Rg0_21.out.now hW)
  have Rg0_22 := Lib.hid ho.holds_marked
  clear ho hW
  have eg00a : w15.cell? ⟨w6.heap.size, 0, none⟩ = some (.int .i64 p1_0) := Xg0_22.out.cell 0
  have eg01a : w15.cell? ⟨w6.heap.size, 1, none⟩ = some (.int .i64 q1_0) := Xg0_22.out.cell 1
  have eg02a : w15.cell? ⟨w6.heap.size, 2, none⟩ = some (.slice Ag0 N0 cg0) := Xg0_22.out.cell 2
  go_wp2_with fail
  clear eg00a eg01a eg02a
  refine (heldMatrix_m _ p1_0 q1_0 Ag0 N0 cg0 (1) mg0 Lg0 _ Qg0 (by have := Mg0.out; unfold maxLen; omega) (vnow Rg0_22)).mono ?_
  rintro e w16 ⟨rfl, hb⟩
  have BW23 := Lib.hid (BW22.out.trans (hb.mono BW22.out.size))
  have sz23 : Hid (w15.heap.size ≤ w16.heap.size) := hb.size
  have Rw0_23 := Lib.hid (Rw0_22.out.below hb)
  have Rg0_23 := Lib.hid (Rg0_22.out.below hb)
  have XaA_23 := Lib.hid (XaA_22.out.below hb XaA_22.out.lt)
  have XaB_23 := Lib.hid (XaB_22.out.below hb XaB_22.out.lt)
  have Xw0_23 := Lib.hid (Xw0_22.out.below hb Xw0_22.out.lt)
  have Xg0_23 := Lib.hid (Xg0_22.out.below hb Xg0_22.out.lt)
  clear hb
  go_upto_region 31 with fail
  go_cut [15, 16] (fun s15 s16 wx => ∃ (gb : Nat) (Ah0 : Option Addr) (ch0 : Nat) (Lh0 : List El), s15 = .pointer (some ⟨gb, 0, none⟩) ∧ s16 = .bool r1_1 ∧ Hid (OwnV wx w16.heap.size (.slice Ah0 N0 ch0) N0 Lh0) ∧ Hid (Has Lh0 r1_0) ∧ Hid (Box wx gb 28 #[.int .i64 p1_0, .int .i64 q1_0, .slice Ah0 N0 ch0]) ∧ Hid (Below w.heap.size w wx) ∧ Hid (w16.heap.size ≤ wx.heap.size) ∧ Hid (Holds wx (footV (.slice Aw0 N0 cw0) Lw0) fun w => OwnV w ws1.heap.size (.slice Aw0 N0 cw0) N0 Lw0) ∧ Hid (Holds wx (footV (.slice Ag0 N0 cg0) Lg0) fun w => OwnV w (w5.alloc (.cells #[.int .i64 p1, .int .i64 q1, .slice Ax1 len1 cx1] 28)).heap.size (.slice Ag0 N0 cg0) N0 (markL (1) Lg0)) ∧ Hid (Box wx (w.heap.size) 24 #[.int .i64 p0, .int .i64 q0, .slice a0 len0 cap0]) ∧ Hid (Box wx (w.heap.size + 1) 24 #[.int .i64 p1, .int .i64 q1, .slice a1 len1 cap1]) ∧ Hid (Box wx (gb1) 28 #[.int .i64 p1_0, .int .i64 q1_0, .slice Aw0 N0 cw0]) ∧ Hid (Box wx (w6.heap.size) 28 #[.int .i64 p1_0, .int .i64 q1_0, .slice Ag0 N0 cg0]))
  case first =>
    have BW24 := Lib.hid BW23.out.drew
    have sz24 : Hid (w16.heap.size ≤ w16.drew.heap.size) := Nat.le_refl _
    have Rw0_24 := Lib.hid Rw0_23.out.drew
    have Rg0_24 := Lib.hid Rg0_23.out.drew
    have XaA_24 := Lib.hid XaA_23.out.drew
    have XaB_24 := Lib.hid XaB_23.out.drew
    have Xw0_24 := Lib.hid Xw0_23.out.drew
    have Xg0_24 := Lib.hid Xg0_23.out.drew
    go_region_held3 (fun w' => w'.cell? ⟨w.heap.size, 0, none⟩ = some (.int .i64 p0) ∧ w'.cell? ⟨w.heap.size, 1, none⟩ = some (.int .i64 q0) ∧ w'.cell? ⟨w.heap.size, 2, none⟩ = some (.slice a0 len0 cap0) ∧ w'.cell? ⟨w.heap.size + 1, 0, none⟩ = some (.int .i64 p1) ∧ w'.cell? ⟨w.heap.size + 1, 1, none⟩ = some (.int .i64 q1) ∧ w'.cell? ⟨w.heap.size + 1, 2, none⟩ = some (.slice a1 len1 cap1)) (first | with_reducible exact two_mats XaA_27 XaB_27 | with_reducible exact two_mats (hAlloc XaA_27 _) (hAlloc XaB_27 _) | with_reducible exact two_mats (hFar3 XaA_27 (by have := XaA_23.out.lt; have := sz24.out; have := sz25.out; have := sz26.out; have := sz27.out; omega) _ _ _) (hFar3 XaB_27 (by have := XaB_23.out.lt; have := sz24.out; have := sz25.out; have := sz26.out; have := sz27.out; omega) _ _ _) | with_reducible exact two_mats XaA_26 XaB_26 | with_reducible exact two_mats (hAlloc XaA_26 _) (hAlloc XaB_26 _) | with_reducible exact two_mats XaA_25 XaB_25 | with_reducible exact two_mats (hAlloc XaA_25 _) (hAlloc XaB_25 _) | with_reducible exact two_mats XaA_24 XaB_24 | with_reducible exact two_mats (hAlloc XaA_24 _) (hAlloc XaB_24 _) | with_reducible exact two_mats (hDrew (hAlloc XaA_23 _)) (hDrew (hAlloc XaB_23 _))) (first | (go_at_call 8; first | ((with_reducible refine (impl_multiply p0 q0 At5 len0 ct5 z0 p1 q1 At6 len1 ct6 z1 _ (vin Rt5_26 HHt5 (by omega) Ftz0) Bp0 Bq0 hcapt5 (vin Rt6_26 HHt6 (by omega) Ftz1) Bp1 Bq1 hcapt6).mono ?_); rintro e w19 ⟨p3_0, q3_0, r3_0, v0, r3_1, rfl, his, h0, hb⟩; have BW27 := Lib.hid (BW26.out.trans (hb.mono BW26.out.size)); have sz27 : Hid (w18.heap.size ≤ w19.heap.size) := (by have h := hb.size; first | exact h | (simp at h; unfold Hid; omega) | (simp only [drew_size'] at h; simp at h; unfold Hid; omega)); have Rw0_27 := Lib.hid (Rw0_26.out.below hb); have Rg0_27 := Lib.hid (Rg0_26.out.below hb); have Rt5_27 := Lib.hid (Rt5_26.out.below hb); have Rt6_27 := Lib.hid (Rt6_26.out.below hb); have XaA_27 := Lib.hid (XaA_26.out.below hb XaA_26.out.lt); have XaB_27 := Lib.hid (XaB_26.out.below hb XaB_26.out.lt); have Xw0_27 := Lib.hid (Xw0_26.out.below hb Xw0_26.out.lt); have Xg0_27 := Lib.hid (Xg0_26.out.below hb Xg0_26.out.lt); obtain ⟨rfl, rfl, rfl, rfl⟩ := multiply_unique IS.out his; clear his; obtain ⟨_, _, Lh0, ho, hh⟩ := h0; rw [HN0.out] at ho; obtain ⟨Ah0, ch0, rfl⟩ := ho.slice; have Uh0 := Lib.hid ho.lt; have Rh0_27 := Lib.hid ho.holds; have HHh0 := Lib.hid hh; obtain ⟨mh0, hmh0⟩ : ∃ m, m = mtot Lh0 := ⟨_, rfl⟩; have Mh0 : Hid (mh0 = N0 + tot r1_0) := Lib.hid (by have := mtot_has hh; have := HN0.out; omega); have Qh0 : Hid (mtot Lh0 = mh0) := hmh0.symm; clear hmh0; clear ho hh; (try (have NN_27 := Lib.hid (NN_26.out.below hb NN_26.out.lt))); clear hb; (try (have eN0 := NN_27.out.cell 0; have eN1 := NN_27.out.cell 1; have eN2 := NN_27.out.cell 2; simp at eN0 eN1 eN2; have fN0 := NN_27.out.free 0; have fN1 := NN_27.out.free 1; have fN2 := NN_27.out.free 2))) | (replace Rw0_26 := Lib.hid (Rw0_26.out.alloc (.cells #[.int .i64 0, .int .i64 0, .slice none 0 0] 28)); replace Rg0_26 := Lib.hid (Rg0_26.out.alloc (.cells #[.int .i64 0, .int .i64 0, .slice none 0 0] 28)); replace Rt5_26 := Lib.hid (Rt5_26.out.alloc (.cells #[.int .i64 0, .int .i64 0, .slice none 0 0] 28)); replace Rt6_26 := Lib.hid (Rt6_26.out.alloc (.cells #[.int .i64 0, .int .i64 0, .slice none 0 0] 28)); replace XaA_26 := Lib.hid (XaA_26.out.alloc (.cells #[.int .i64 0, .int .i64 0, .slice none 0 0] 28)); replace XaB_26 := Lib.hid (XaB_26.out.alloc (.cells #[.int .i64 0, .int .i64 0, .slice none 0 0] 28)); replace Xw0_26 := Lib.hid (Xw0_26.out.alloc (.cells #[.int .i64 0, .int .i64 0, .slice none 0 0] 28)); replace Xg0_26 := Lib.hid (Xg0_26.out.alloc (.cells #[.int .i64 0, .int .i64 0, .slice none 0 0] 28)); replace BW26 := Lib.hid (BW26.out.alloc BW26.out.size (.cells #[.int .i64 0, .int .i64 0, .slice none 0 0] 28)); have NN_26 := Lib.hid (Box.new w18 28 #[.int .i64 0, .int .i64 0, .slice none 0 0]); (with_reducible refine (impl_multiply p0 q0 At5 len0 ct5 z0 p1 q1 At6 len1 ct6 z1 _ (vin Rt5_26 HHt5 (by omega) Ftz0) Bp0 Bq0 hcapt5 (vin Rt6_26 HHt6 (by omega) Ftz1) Bp1 Bq1 hcapt6).mono ?_); rintro e w19 ⟨p3_0, q3_0, r3_0, v0, r3_1, rfl, his, h0, hb⟩; have BW27 := Lib.hid (BW26.out.trans (hb.mono BW26.out.size)); have sz27 : Hid (w18.heap.size ≤ w19.heap.size) := (by have h := hb.size; first | exact h | (simp at h; unfold Hid; omega) | (simp only [drew_size'] at h; simp at h; unfold Hid; omega)); have Rw0_27 := Lib.hid (Rw0_26.out.below hb); have Rg0_27 := Lib.hid (Rg0_26.out.below hb); have Rt5_27 := Lib.hid (Rt5_26.out.below hb); have Rt6_27 := Lib.hid (Rt6_26.out.below hb); have XaA_27 := Lib.hid (XaA_26.out.below hb XaA_26.out.lt); have XaB_27 := Lib.hid (XaB_26.out.below hb XaB_26.out.lt); have Xw0_27 := Lib.hid (Xw0_26.out.below hb Xw0_26.out.lt); have Xg0_27 := Lib.hid (Xg0_26.out.below hb Xg0_26.out.lt); obtain ⟨rfl, rfl, rfl, rfl⟩ := multiply_unique IS.out his; clear his; obtain ⟨_, _, Lh0, ho, hh⟩ := h0; rw [HN0.out] at ho; obtain ⟨Ah0, ch0, rfl⟩ := ho.slice; have Uh0 := Lib.hid ho.lt; have Rh0_27 := Lib.hid ho.holds; have HHh0 := Lib.hid hh; obtain ⟨mh0, hmh0⟩ : ∃ m, m = mtot Lh0 := ⟨_, rfl⟩; have Mh0 : Hid (mh0 = N0 + tot r1_0) := Lib.hid (by have := mtot_has hh; have := HN0.out; omega); have Qh0 : Hid (mtot Lh0 = mh0) := hmh0.symm; clear hmh0; clear ho hh; (try (have NN_27 := Lib.hid (NN_26.out.below hb NN_26.out.lt))); clear hb; (try (have eN0 := NN_27.out.cell 0; have eN1 := NN_27.out.cell 1; have eN2 := NN_27.out.cell 2; simp at eN0 eN1 eN2; have fN0 := NN_27.out.free 0; have fN1 := NN_27.out.free 1; have fN2 := NN_27.out.free 2)))) | (go_at_call 7; first | ((with_reducible refine (toMatrix_any p1 q1 a1 len1 cap1 z1 _ (Hz1.out.below BW25.out) (by omega)).mono ?_); rintro e w18 ⟨V, Lt6, rfl, ho, hh, hb⟩; have BW26 := Lib.hid (BW25.out.trans (hb.mono BW25.out.size)); have sz26 : Hid (w17.heap.size ≤ w18.heap.size) := (by have h := hb.size; first | exact h | (simp at h; unfold Hid; omega) | (simp only [drew_size'] at h; simp at h; unfold Hid; omega)); have Rw0_26 := Lib.hid (Rw0_25.out.below hb); have Rg0_26 := Lib.hid (Rg0_25.out.below hb); have Rt5_26 := Lib.hid (Rt5_25.out.below hb); have XaA_26 := Lib.hid (XaA_25.out.below hb XaA_25.out.lt); have XaB_26 := Lib.hid (XaB_25.out.below hb XaB_25.out.lt); have Xw0_26 := Lib.hid (Xw0_25.out.below hb Xw0_25.out.lt); have Xg0_26 := Lib.hid (Xg0_25.out.below hb Xg0_25.out.lt); obtain ⟨At6, ct6, rfl⟩ := ho.slice; have Ut6 := Lib.hid ho.lt; have Rt6_26 := Lib.hid ho.holds; have hcapt6 : len1 ≤ ct6 := own_le ho.2.1; have HHt6 := Lib.hid hh; obtain ⟨mt6, hmt6⟩ : ∃ m, m = mtot Lt6 := ⟨_, rfl⟩; have Mt6 : Hid (mt6 = len1 + tot z1) := Lib.hid (by have := mtot_has hh; have := Hz1.out.1; omega); have Qt6 : Hid (mtot Lt6 = mt6) := hmt6.symm; clear hmt6; (try (have NN_26 := Lib.hid (NN_25.out.below hb NN_25.out.lt))); clear ho hh hb) | (replace Rw0_25 := Lib.hid (Rw0_25.out.alloc (.cells #[.int .i64 0, .int .i64 0, .slice none 0 0] 28)); replace Rg0_25 := Lib.hid (Rg0_25.out.alloc (.cells #[.int .i64 0, .int .i64 0, .slice none 0 0] 28)); replace Rt5_25 := Lib.hid (Rt5_25.out.alloc (.cells #[.int .i64 0, .int .i64 0, .slice none 0 0] 28)); replace XaA_25 := Lib.hid (XaA_25.out.alloc (.cells #[.int .i64 0, .int .i64 0, .slice none 0 0] 28)); replace XaB_25 := Lib.hid (XaB_25.out.alloc (.cells #[.int .i64 0, .int .i64 0, .slice none 0 0] 28)); replace Xw0_25 := Lib.hid (Xw0_25.out.alloc (.cells #[.int .i64 0, .int .i64 0, .slice none 0 0] 28)); replace Xg0_25 := Lib.hid (Xg0_25.out.alloc (.cells #[.int .i64 0, .int .i64 0, .slice none 0 0] 28)); replace BW25 := Lib.hid (BW25.out.alloc BW25.out.size (.cells #[.int .i64 0, .int .i64 0, .slice none 0 0] 28)); have NN_25 := Lib.hid (Box.new w17 28 #[.int .i64 0, .int .i64 0, .slice none 0 0]); (with_reducible refine (toMatrix_any p1 q1 a1 len1 cap1 z1 _ (Hz1.out.below BW25.out) (by omega)).mono ?_); rintro e w18 ⟨V, Lt6, rfl, ho, hh, hb⟩; have BW26 := Lib.hid (BW25.out.trans (hb.mono BW25.out.size)); have sz26 : Hid (w17.heap.size ≤ w18.heap.size) := (by have h := hb.size; first | exact h | (simp at h; unfold Hid; omega) | (simp only [drew_size'] at h; simp at h; unfold Hid; omega)); have Rw0_26 := Lib.hid (Rw0_25.out.below hb); have Rg0_26 := Lib.hid (Rg0_25.out.below hb); have Rt5_26 := Lib.hid (Rt5_25.out.below hb); have XaA_26 := Lib.hid (XaA_25.out.below hb XaA_25.out.lt); have XaB_26 := Lib.hid (XaB_25.out.below hb XaB_25.out.lt); have Xw0_26 := Lib.hid (Xw0_25.out.below hb Xw0_25.out.lt); have Xg0_26 := Lib.hid (Xg0_25.out.below hb Xg0_25.out.lt); obtain ⟨At6, ct6, rfl⟩ := ho.slice; have Ut6 := Lib.hid ho.lt; have Rt6_26 := Lib.hid ho.holds; have hcapt6 : len1 ≤ ct6 := own_le ho.2.1; have HHt6 := Lib.hid hh; obtain ⟨mt6, hmt6⟩ : ∃ m, m = mtot Lt6 := ⟨_, rfl⟩; have Mt6 : Hid (mt6 = len1 + tot z1) := Lib.hid (by have := mtot_has hh; have := Hz1.out.1; omega); have Qt6 : Hid (mtot Lt6 = mt6) := hmt6.symm; clear hmt6; (try (have NN_26 := Lib.hid (NN_25.out.below hb NN_25.out.lt))); clear ho hh hb)) | (go_at_call 7; first | ((with_reducible refine (toMatrix_any p0 q0 a0 len0 cap0 z0 _ (Hz0.out.below BW24.out) (by omega)).mono ?_); rintro e w17 ⟨V, Lt5, rfl, ho, hh, hb⟩; have BW25 := Lib.hid (BW24.out.trans (hb.mono BW24.out.size)); have sz25 : Hid (w16.heap.size ≤ w17.heap.size) := (by have h := hb.size; first | exact h | (simp at h; unfold Hid; omega) | (simp only [drew_size'] at h; simp at h; unfold Hid; omega)); have Rw0_25 := Lib.hid (Rw0_24.out.below hb); have Rg0_25 := Lib.hid (Rg0_24.out.below hb); have XaA_25 := Lib.hid (XaA_24.out.below hb XaA_24.out.lt); have XaB_25 := Lib.hid (XaB_24.out.below hb XaB_24.out.lt); have Xw0_25 := Lib.hid (Xw0_24.out.below hb Xw0_24.out.lt); have Xg0_25 := Lib.hid (Xg0_24.out.below hb Xg0_24.out.lt); obtain ⟨At5, ct5, rfl⟩ := ho.slice; have Ut5 := Lib.hid ho.lt; have Rt5_25 := Lib.hid ho.holds; have hcapt5 : len0 ≤ ct5 := own_le ho.2.1; have HHt5 := Lib.hid hh; obtain ⟨mt5, hmt5⟩ : ∃ m, m = mtot Lt5 := ⟨_, rfl⟩; have Mt5 : Hid (mt5 = len0 + tot z0) := Lib.hid (by have := mtot_has hh; have := Hz0.out.1; omega); have Qt5 : Hid (mtot Lt5 = mt5) := hmt5.symm; clear hmt5; (try (have NN_25 := Lib.hid (NN_24.out.below hb NN_24.out.lt))); clear ho hh hb) | (replace Rw0_24 := Lib.hid (Rw0_23.out.alloc (.cells #[.int .i64 0, .int .i64 0, .slice none 0 0] 28)).drew; replace Rg0_24 := Lib.hid (Rg0_23.out.alloc (.cells #[.int .i64 0, .int .i64 0, .slice none 0 0] 28)).drew; replace XaA_24 := Lib.hid (XaA_23.out.alloc (.cells #[.int .i64 0, .int .i64 0, .slice none 0 0] 28)).drew; replace XaB_24 := Lib.hid (XaB_23.out.alloc (.cells #[.int .i64 0, .int .i64 0, .slice none 0 0] 28)).drew; replace Xw0_24 := Lib.hid (Xw0_23.out.alloc (.cells #[.int .i64 0, .int .i64 0, .slice none 0 0] 28)).drew; replace Xg0_24 := Lib.hid (Xg0_23.out.alloc (.cells #[.int .i64 0, .int .i64 0, .slice none 0 0] 28)).drew; replace BW24 := Lib.hid (BW23.out.alloc BW23.out.size (.cells #[.int .i64 0, .int .i64 0, .slice none 0 0] 28)).drew; have NN_24 := Lib.hid (Box.new w16 28 #[.int .i64 0, .int .i64 0, .slice none 0 0]).drew; (with_reducible refine (toMatrix_any p0 q0 a0 len0 cap0 z0 _ (Hz0.out.below BW24.out) (by omega)).mono ?_); rintro e w17 ⟨V, Lt5, rfl, ho, hh, hb⟩; have BW25 := Lib.hid (BW24.out.trans (hb.mono BW24.out.size)); have sz25 : Hid (w16.heap.size ≤ w17.heap.size) := (by have h := hb.size; first | exact h | (simp at h; unfold Hid; omega) | (simp only [drew_size'] at h; simp at h; unfold Hid; omega)); have Rw0_25 := Lib.hid (Rw0_24.out.below hb); have Rg0_25 := Lib.hid (Rg0_24.out.below hb); have XaA_25 := Lib.hid (XaA_24.out.below hb XaA_24.out.lt); have XaB_25 := Lib.hid (XaB_24.out.below hb XaB_24.out.lt); have Xw0_25 := Lib.hid (Xw0_24.out.below hb Xw0_24.out.lt); have Xg0_25 := Lib.hid (Xg0_24.out.below hb Xg0_24.out.lt); obtain ⟨At5, ct5, rfl⟩ := ho.slice; have Ut5 := Lib.hid ho.lt; have Rt5_25 := Lib.hid ho.holds; have hcapt5 : len0 ≤ ct5 := own_le ho.2.1; have HHt5 := Lib.hid hh; obtain ⟨mt5, hmt5⟩ : ∃ m, m = mtot Lt5 := ⟨_, rfl⟩; have Mt5 : Hid (mt5 = len0 + tot z0) := Lib.hid (by have := mtot_has hh; have := Hz0.out.1; omega); have Qt5 : Hid (mtot Lt5 = mt5) := hmt5.symm; clear hmt5; (try (have NN_25 := Lib.hid (NN_24.out.below hb NN_24.out.lt))); clear ho hh hb)))
    all_goals (have zzb := BW23.out.size; have zz24 := sz24.out; have zz25 := sz25.out; have zz26 := sz26.out; have zz27 := sz27.out; have zyw0 := (Nat.le_trans sz6.out (Nat.le_trans (Nat.le_of_succ_le sz7.out) (Nat.le_trans sz8.out (Nat.le_trans (Nat.le_of_succ_le sz9.out) (Nat.le_trans sz10.out (Nat.le_trans (Nat.le_of_succ_le sz11.out) (Nat.le_trans sz12.out (Nat.le_trans sz13.out (Nat.le_trans sz14.out (Nat.le_trans sz15.out (Nat.le_trans sz16.out (Nat.le_trans sz17.out (Nat.le_trans sz18.out (Nat.le_trans sz19.out (Nat.le_trans sz20.out (Nat.le_trans sz21.out (Nat.le_trans sz22.out sz23.out))))))))))))))))); have zyg0 := (Nat.le_trans (Nat.le_of_succ_le sz11.out) (Nat.le_trans sz12.out (Nat.le_trans sz13.out (Nat.le_trans sz14.out (Nat.le_trans sz15.out (Nat.le_trans sz16.out (Nat.le_trans sz17.out (Nat.le_trans sz18.out (Nat.le_trans sz19.out (Nat.le_trans sz20.out (Nat.le_trans sz21.out (Nat.le_trans sz22.out sz23.out)))))))))))); go_wp2_with fail; go_meet; first | exact ⟨_, _, _, Lh0, rfl, rfl, OwnV.lower ((vnow Rh0_27).alloc _) (by first | omega | (simp; omega) | (simp only [drew_size']; simp; omega)), HHh0, Box.new _ _ _, BW27.out.alloc BW27.out.size _, (by first | (simp; omega) | (unfold Hid; simp; omega)), Rw0_27.out.alloc _, Rg0_27.out.alloc _, XaA_27.out.alloc _, XaB_27.out.alloc _, Xw0_27.out.alloc _, Xg0_27.out.alloc _⟩ | exact ⟨_, _, _, Lh0, rfl, rfl, OwnV.lower ((vnow Rh0_27).box_set3 NN_27.out _ _ _) (by first | omega | (simp; omega) | (simp only [drew_size']; simp; omega)), HHh0, (((NN_27.out.set_ 0 _).set_ 1 _).set_ 2 _), (((BW27.out.setCell (by dsimp only; omega) _).setCell (by dsimp only; omega) _).setCell (by dsimp only; omega) _), (by first | (simp; omega) | (unfold Hid; simp; omega)), holds_set3 Rw0_27.out (fun hk => by have := Uw0.out _ hk; omega) _ _ _, holds_set3 Rg0_27.out (fun hk => by have := Ug0.out _ hk; omega) _ _ _, XaA_27.out.set3 (by have := XaA_23.out.lt; omega) 0 1 2 _ _ _, XaB_27.out.set3 (by have := XaB_23.out.lt; omega) 0 1 2 _ _ _, Xw0_27.out.set3 (by have := Xw0_23.out.lt; omega) 0 1 2 _ _ _, Xg0_27.out.set3 (by have := Xg0_23.out.lt; omega) 0 1 2 _ _ _⟩)
  obtain ⟨gb4, Ah0, ch0, Lh0, rfl, rfl, HOx, HHh0, Xh0_24, BW24, sz24, Rw0_24, Rg0_24, XaA_24, XaB_24, Xw0_24, Xg0_24⟩ := hcut
  obtain ⟨wc4, rfl⟩ : ∃ q, q = wc := ⟨_, rfl⟩
  have ho := HOx.out
  clear HOx
  have Uh0 := Lib.hid ho.lt
  have Rh0_24 := Lib.hid ho.holds
  clear ho
  obtain ⟨mh0, hmh0⟩ : ∃ m, m = mtot Lh0 := ⟨_, rfl⟩
  have Mh0 : Hid (mh0 = N0 + tot r1_0) := Lib.hid (by have := mtot_has HHh0.out; have := HN0.out; omega)
  have Qh0 : Hid (mtot Lh0 = mh0) := hmh0.symm
  clear hmh0
  have eh00a : wc4.cell? ⟨gb4, 0, none⟩ = some (.int .i64 p1_0) := Xh0_24.out.cell 0
  have eh01a : wc4.cell? ⟨gb4, 1, none⟩ = some (.int .i64 q1_0) := Xh0_24.out.cell 1
  have eh02a : wc4.cell? ⟨gb4, 2, none⟩ = some (.slice Ah0 N0 ch0) := Xh0_24.out.cell 2
  have ew00a : wc4.cell? ⟨gb1, 0, none⟩ = some (.int .i64 p1_0) := Xw0_24.out.cell 0
  have ew01a : wc4.cell? ⟨gb1, 1, none⟩ = some (.int .i64 q1_0) := Xw0_24.out.cell 1
  have ew02a : wc4.cell? ⟨gb1, 2, none⟩ = some (.slice Aw0 N0 cw0) := Xw0_24.out.cell 2
  go_wp2_with fail
  clear eh00a eh01a eh02a ew00a ew01a ew02a
  refine (eqMatrix_same p1_0 q1_0 Ah0 Aw0 N0 ch0 cw0 r1_0 _ (vin Rh0_24 HHh0 (by omega) Ftr1_0) (vin Rw0_24 HHw0 (by omega) Ftr1_0)).mono ?_
  rintro e w20 ⟨rfl, hb⟩
  have BW25 := Lib.hid (BW24.out.trans (hb.mono BW24.out.size))
  have sz25 : Hid (wc4.heap.size ≤ w20.heap.size) := hb.size
  have Rw0_25 := Lib.hid (Rw0_24.out.below hb)
  have Rg0_25 := Lib.hid (Rg0_24.out.below hb)
  have Rh0_25 := Lib.hid (Rh0_24.out.below hb)
  have XaA_25 := Lib.hid (XaA_24.out.below hb XaA_24.out.lt)
  have XaB_25 := Lib.hid (XaB_24.out.below hb XaB_24.out.lt)
  have Xw0_25 := Lib.hid (Xw0_24.out.below hb Xw0_24.out.lt)
  have Xg0_25 := Lib.hid (Xg0_24.out.below hb Xg0_24.out.lt)
  have Xh0_25 := Lib.hid (Xh0_24.out.below hb Xh0_24.out.lt)
  clear hb
  clear Rw0_25 Uw0 Xw0_25
  clear Rh0_25 Uh0 Xh0_25
  have eg00a : w20.cell? ⟨w6.heap.size, 0, none⟩ = some (.int .i64 p1_0) := Xg0_25.out.cell 0
  have eg01a : w20.cell? ⟨w6.heap.size, 1, none⟩ = some (.int .i64 q1_0) := Xg0_25.out.cell 1
  have eg02a : w20.cell? ⟨w6.heap.size, 2, none⟩ = some (.slice Ag0 N0 cg0) := Xg0_25.out.cell 2
  go_wp2_with fail
  clear eg00a eg01a eg02a
  refine (heldMatrix_m _ p1_0 q1_0 Ag0 N0 cg0 (1) mg0 Lg0 _ Qg0 (by have := Mg0.out; unfold maxLen; omega) (vnow Rg0_25)).mono ?_
  rintro e w21 ⟨rfl, hb⟩
  have BW26 := Lib.hid (BW25.out.trans (hb.mono BW25.out.size))
  have sz26 : Hid (w20.heap.size ≤ w21.heap.size) := hb.size
  have Rg0_26 := Lib.hid (Rg0_25.out.below hb)
  have XaA_26 := Lib.hid (XaA_25.out.below hb XaA_25.out.lt)
  have XaB_26 := Lib.hid (XaB_25.out.below hb XaB_25.out.lt)
  have Xg0_26 := Lib.hid (Xg0_25.out.below hb Xg0_25.out.lt)
  clear hb
  clear Rg0_26 Ug0 Xg0_26
  go_wp2_with fail
  go_ret
  exact ⟨rfl, BW26.out⟩
end Go.Proofs.YtmclfoahfifmfaaGreat.fnExactMultiply
