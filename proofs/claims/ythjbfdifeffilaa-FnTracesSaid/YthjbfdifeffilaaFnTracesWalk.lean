/- The walk of the law: for every slice of bytes the law FnTraces returns true; no condition. -/
import Derived.Test.YthjbfdifeffilaaGV
import Derived.Test.YthjbfdifeffilaaDrawS
import Derived.Test.YthjbfdifeffilaaSymI2
import Derived.Test.YthjbfdifeffilaaGF
import Derived.ProofKit
import Derived.OpenShut
import Derived.ShutString
import Derived.Lib.SmallJoins
namespace Go.Proofs.Ythjbfdifeffilaa.fnTraces
set_option maxRecDepth 100000
open Go.ChangeShapes Go.WideShapes Go.ChangeAt Go.RowKit Go.Joins Go.Deep
open Go.ChangeMaps (open_string shut_string)

set_option maxRecDepth 100000 in
set_option maxHeartbeats 16000000 in
theorem walk {w : World} (A : Option Addr) (n c : Nat) (hx : IsBytes w A n) :
    Calls Try.prog 3 #[.slice A n c] w fun e w' => e = .returned (.bool true) ∧ Below w.heap.size w w' := by
  have Hby := Lib.hid hx.2
  clear hx
  by_cases hbig : 1048576 < (n : Int)
  · go_enter Try.func3, Try.ntmps3
    go_wp2_with fail
    go_ret
    exact ⟨rfl, Below.refl _ _⟩
  have BW_0 : Hid (Below w.heap.size w w) := Below.refl _ _
  go_enter Try.func3, Try.ntmps3
  go_wp2_with fail
  refine (spec_makeSymmetric A n c _ (by omega) Hby.out).mono ?_
  rintro e w1 ⟨p, k, rs, V, rfl, ⟨rfl, rfl, hq⟩, hr, hb⟩
  obtain ⟨Am, cm, rfl, hcm, hi⟩ := resV_in hr (n := 9) hq.length
  have HQ := Lib.hid hq
  have HM : Hid (MOk 3 3 rs) := hq.mok
  have BW_1 := Lib.hid (BW_0.out.trans (hb.mono BW_0.out.size))
  obtain ⟨W2, hW2⟩ : ∃ W, W = w1.alloc (.cells #[.int .i64 3, .int .i64 3, .slice Am 9 cm] 25) := ⟨_, rfl⟩
  have hbx : Below w1.heap.size w1 W2 := by rw [hW2]; exact (Below.refl _ _).alloc (Nat.le_refl _) _
  have Xm_2 : Hid (Box W2 w1.heap.size 25 #[.int .i64 3, .int .i64 3, .slice Am 9 cm]) := by rw [hW2]; exact Box.new _ _ _
  have Im_2 := Lib.hid (hi.below hbx)
  have BW_2 := Lib.hid (BW_1.out.trans (hbx.mono BW_1.out.size))
  clear hq hr hb hi hbx
  go_wp2_with fail
  rw [← hW2]
  clear hW2
  refine (impl_ratFromInt 0 _ ⟨by omega, by omega⟩).mono ?_
  rintro e w3 ⟨g, r, v, dd, u, rfl, hq, q1, q2, hap, hb⟩
  obtain ⟨A6, c6, rfl⟩ := own_slice q1.2
  obtain ⟨B6, d6, rfl⟩ := own_slice q2.2
  obtain ⟨zs, hzs⟩ : ∃ zs, zs = diag 3 rs := ⟨_, rfl⟩
  have HZS := Lib.hid hzs
  have HR0 : Hid (RD.mk g r dd = rsum zs 0) := rint_of hq
  obtain ⟨W4, hW4⟩ : ∃ W, W = w3.alloc (.cells #[.bool g, .slice A6 r.length c6, .slice B6 dd.length d6] 31) := ⟨_, rfl⟩
  have hbx : Below w3.heap.size w3 W4 := by rw [hW4]; exact (Below.refl _ _).alloc (Nat.le_refl _) _
  have hlt4 : w3.heap.size < W4.heap.size := by rw [hW4]; simp
  have BW_3 := Lib.hid (BW_2.out.trans (hb.mono BW_2.out.size))
  have BW_4 := Lib.hid (BW_3.out.trans (hbx.mono BW_3.out.size))
  have hb24 : Below W2.heap.size W2 W4 := hb.trans (hbx.mono hb.size)
  have Im_3 := Lib.hid (Im_2.out.below hb)
  have Xm_4 := Lib.hid (Xm_2.out.below hb24 Xm_2.out.lt)
  have Im_4 := Lib.hid (Im_2.out.below hb24)
  have HB34 := Lib.hid hbx
  have hsz3 := BW_3.out.size
  have hm3 : w1.heap.size < w3.heap.size := by have := Xm_2.out.lt; have := hb.size; omega
  have S0 : Hid (RSum W4 w.heap.size w3.heap.size ⟨g, r, dd⟩ A6 c6 B6 d6) := by
    rw [hW4]
    exact ⟨Box.new _ _ _, own_base (q1.2.alloc _) BW_2.out.size, own_base (q2.2.alloc _) BW_2.out.size, hap⟩
  have hem := Xm_4
  rw [hW4] at hem
  have em0 := hem.out.cell 0
  have em1 := hem.out.cell 1
  have em2 := hem.out.cell 2
  simp at em0 em1 em2
  clear hq q1 q2 hap hb hbx hb24 hzs hem
  go_wp2_with fail
  rw [← hW4]
  clear em0 em1 em2 hW4
  refine (impl_diagonalOf0 3 3 Am 9 cm rs _ Im_4.out (by omega) (by omega) hcm).mono ?_
  rintro e w5 ⟨zs5, V, rfl, hq, ⟨hl5, hf5, L, ho5, hh5⟩, hb⟩
  obtain rfl : zs5 = zs := by
    rcases hq with ⟨_, h⟩ | ⟨h, _⟩
    · rw [h, HZS.out]; rfl
    · exact absurd ⟨HM.out, rfl⟩ h
  have hlen : zs5.length = 3 := by rw [HZS.out, diag_length]
  rw [hlen] at ho5
  obtain ⟨A1, c1, rfl⟩ := ho5.slice
  have HO5 := Lib.hid ho5
  have HH5 := Lib.hid hh5
  have HF5 := Lib.hid hf5
  have S5 := Lib.hid (S0.out.below hb)
  have B35 : Hid (Below w3.heap.size w3 w5) := HB34.out.trans (hb.mono (by omega))
  have BW_5 := Lib.hid (BW_4.out.trans (hb.mono BW_4.out.size))
  have Xm_5 := Lib.hid (Xm_4.out.below hb Xm_4.out.lt)
  have Im_5 := Lib.hid (Im_4.out.below hb)
  clear hq hl5 hf5 ho5 hh5 hlen hb
  go_wp2_with fail
  go_loopw [18] (fun y wr => ∃ (i : Nat) (q : RD) (As : Option Addr) (cs : Nat) (Bs : Option Addr) (ds : Nat), i ≤ 3 ∧ y = .int .i64 i ∧ Hid (q = rsum zs5 i) ∧ Hid (RSum wr w.heap.size w3.heap.size q As cs Bs ds) ∧ Hid (Below w3.heap.size w3 wr) ∧ Hid (Wrote (fun k => k = w3.heap.size) w5 wr)) (fun y _ => 3 - (intOf y).toNat)
  case atStart => exact ⟨0, _, _, _, _, _, by omega, rfl, HR0, S5, B35, Wrote.refl _ _⟩
  case round =>
    obtain ⟨i, q, As, cs, Bs, ds, hle, rfl, heq, hsum, hb, hW⟩ := hrel
    have HG : Hid (q.ok ∨ q = RD.zero) := by rw [heq.out]; exact rsum_good _ _
    by_cases hlt : i < 3
    · have OW := Lib.hid (OwnV.wroteG HO5.out hW.out hlt4)
      obtain ⟨b2, o2, rfl, hb2, r2, hr2, A4, n4, c4, B4, m4, d4, at2, i2, ra2, j2, rb2⟩ := (OW.out.in_ HH5.out (by omega) HF5.out).at_ i hlt
      have hi0 : (0 : Int) ≤ (i : Int) := by omega
      have hi1 : (i : Int) < (3 : Int) := by omega
      have hbx : Below wr.heap.size wr (wr.alloc (.cells #[.bool r2.g, .slice A4 n4 c4, .slice B4 m4 d4] 31)) := (Below.refl _ _).alloc (Nat.le_refl _) _
      have BD := Lib.hid (hb.out.trans (hbx.mono hb.out.size))
      have WD := Lib.hid (hW.out.trans (Wrote.of_below hbx))
      have S3 := Lib.hid (hsum.out.below hbx)
      obtain ⟨es0, es1, es2, _, _, _⟩ := S3.out.three
      have I2 := Lib.hid (i2.below hbx)
      have J2 := Lib.hid (j2.below hbx)
      have RA2 := Lib.hid ra2
      have RB2 := Lib.hid rb2
      have HR2 : Hid (rsum zs5 (i + 1) = radd q r2) := by rw [heq.out]; exact rsum_succ hr2
      obtain ⟨e20, e21, e22⟩ := at2
      clear i2 j2 hr2 ra2 rb2 hbx
      go_wp2_with fail
      clear e20 e21 e22 es0 es1 es2
      refine (impl_ratAdd0 q.g As q.xs.length cs q.xs Bs q.ds.length ds q.ds r2.g A4 n4 c4 r2.xs B4 m4 d4 r2.ds _ (S3.out.in1 HG.out) S3.out.room1 (S3.out.in2 HG.out) S3.out.room2 I2.out RA2.out J2.out RB2.out).mono ?_
      rintro e w6 ⟨g, r, v, dd, u, rfl, hq, q1, q2, hap, hc2⟩
      obtain ⟨A7, c7, rfl⟩ := own_slice q1.2
      obtain ⟨B7, d7, rfl⟩ := own_slice q2.2
      have HQ2 : Hid (RD.mk g r dd = rsum zs5 (i + 1)) := (radd_of hq).trans HR2.out.symm
      have hst := sum_store (q := ⟨g, r, dd⟩) (W := w3) (base := w.heap.size) (S3.out.below hc2).1 rfl q1.2 q2.2 (by have := BD.out.size; omega) hap (BD.out.trans (hc2.mono BD.out.size)) (Nat.le_refl _)
      have HS4 := Lib.hid hst.1
      have HB4 := Lib.hid hst.2
      have HW4 : Hid (Wrote (fun k => k = w3.heap.size) w5 (((w6.setCell ⟨w3.heap.size, 0, none⟩ (.bool g)).setCell ⟨w3.heap.size, 1, none⟩ (.slice A7 r.length c7)).setCell ⟨w3.heap.size, 2, none⟩ (.slice B7 dd.length d7))) := (((WD.out.trans (Wrote.of_below hc2)).setCell (p := ⟨w3.heap.size, 0, none⟩) rfl _).setCell (p := ⟨w3.heap.size, 1, none⟩) rfl _).setCell (p := ⟨w3.heap.size, 2, none⟩) rfl _
      obtain ⟨es0, es1, es2, fs0, fs1, fs2⟩ := (S3.out.below hc2).three
      clear hq q1 q2 hap hc2 hst
      go_wp2_with fail
      clear es0 es1 es2 fs0 fs1 fs2
      go_roundw
      case rel => exact ⟨i + 1, ⟨g, r, dd⟩, A7, c7, B7, d7, by omega, by go_num, HQ2, HS4, HB4, HW4⟩
      case measure => simp [intOf]; omega
    · obtain rfl : i = 3 := by omega
      have Xm_6 : Hid (Box wr w1.heap.size 25 #[.int .i64 3, .int .i64 3, .slice Am 9 cm]) := (hW.out.block _ Xm_5.out.lt (by omega)).trans Xm_5.out
      have Im_6 := Lib.hid (Im_3.out.below hb.out)
      have BW_6 := Lib.hid (BW_3.out.trans (hb.out.mono BW_3.out.size))
      have hi1 : ¬ ((3 : Nat) : Int) < 3 := by omega
      have em0 := Xm_6.out.cell 0
      have em1 := Xm_6.out.cell 1
      have em2 := Xm_6.out.cell 2
      simp at em0 em1 em2
      go_wp2_with fail
      clear em0 em1 em2
      refine (impl_traceOf0 3 3 Am 9 cm rs _ Im_6.out (by omega) (by omega) hcm).mono ?_
      rintro e w7 ⟨g7, r7, v7, d7, u7, b7, rfl, hq7, q1, q2, hap, hb7⟩
      obtain ⟨A7, c7, rfl⟩ := own_slice q1.2
      obtain ⟨B7, f7, rfl⟩ := own_slice q2.2
      obtain ⟨hqe, rfl⟩ : RD.mk g7 r7 d7 = q ∧ b7 = true := by
        rcases hq7 with ⟨_, h1, h2⟩ | ⟨h1, _⟩
        · exact ⟨by rw [h1, heq.out, HZS.out]; rfl, h2⟩
        · exact absurd ⟨⟨HM.out, rfl⟩, symQ_trace HQ.out⟩ h1
      have eg : g7 = q.g := by rw [← hqe]
      have er : r7 = q.xs := by rw [← hqe]
      have ed : d7 = q.ds := by rw [← hqe]
      clear hq7 hqe
      subst eg er ed
      obtain ⟨W8, hW8⟩ : ∃ W, W = w7.alloc (.cells #[.bool q.g, .slice A7 q.xs.length c7, .slice B7 q.ds.length f7] 31) := ⟨_, rfl⟩
      have hbx : Below w7.heap.size w7 W8 := by rw [hW8]; exact (Below.refl _ _).alloc (Nat.le_refl _) _
      have hb68 : Below wr.heap.size wr W8 := hb7.trans (hbx.mono hb7.size)
      have T8 : Hid (RSum W8 w.heap.size w7.heap.size q A7 c7 B7 f7) := by
        rw [hW8]
        exact ⟨Box.new _ _ _, own_base (q1.2.alloc _) BW_6.out.size, own_base (q2.2.alloc _) BW_6.out.size, hap⟩
      have S8 := Lib.hid (hsum.out.below hb68)
      have Xm_8 := Lib.hid (Xm_6.out.below hb68 Xm_6.out.lt)
      have Im_8 := Lib.hid (Im_6.out.below hb68)
      have BW_8 := Lib.hid (BW_6.out.trans (hb68.mono BW_6.out.size))
      obtain ⟨es0, es1, es2, _, _, _⟩ := S8.out.three
      obtain ⟨et0, et1, et2, _, _, _⟩ := T8.out.three
      rw [hW8] at es0 es1 es2 et0 et1 et2
      clear q1 q2 hap hb7 hbx hb68
      go_wp2_with fail
      rw [← hW8]
      clear es0 es1 es2 et0 et1 et2 hW8
      refine (impl_ratEqual q.g A7 q.xs.length c7 q.xs B7 q.ds.length f7 q.ds q.g As q.xs.length cs q.xs Bs q.ds.length ds q.ds _ (T8.out.in1 HG.out) T8.out.room1 (T8.out.in2 HG.out) T8.out.room2 (S8.out.in1 HG.out) S8.out.room1 (S8.out.in2 HG.out) S8.out.room2).mono ?_
      rintro e w9 ⟨b9, rfl, hq9, hb9⟩
      obtain rfl : b9 = true := hq9.2 ⟨rfl, rfl, rfl⟩
      have Xm_9 := Lib.hid (Xm_8.out.below hb9 Xm_8.out.lt)
      have Im_9 := Lib.hid (Im_8.out.below hb9)
      have BW_9 := Lib.hid (BW_8.out.trans (hb9.mono BW_8.out.size))
      have em0 := Xm_9.out.cell 0
      have em1 := Xm_9.out.cell 1
      have em2 := Xm_9.out.cell 2
      simp at em0 em1 em2
      clear hq9 hb9
      go_wp2_with fail
      clear em0 em1 em2
      refine (impl_diagonalOf0 3 3 Am 9 cm rs _ Im_9.out (by omega) (by omega) hcm).mono ?_
      rintro e w10 ⟨zs9, V, rfl, hq, hr, hb⟩
      have hlen : zs9.length = 3 := by
        rcases hq with ⟨_, h⟩ | ⟨h, _⟩
        · rw [h]; exact diag_length _ _
        · exact absurd ⟨HM.out, rfl⟩ h
      obtain ⟨A9, c9, rfl, _, _⟩ := resV_in hr hlen
      have BW_10 := Lib.hid (BW_9.out.trans (hb.mono BW_9.out.size))
      clear hq hr hlen hb
      go_wp2_with fail
      go_ret
      exact ⟨rfl, BW_10.out⟩
end Go.Proofs.Ythjbfdifeffilaa.fnTraces
