/- Contracts of vectors: the inner product, by the program. -/
import Derived.Test.YtjohglkfcefimaaGreatVecB
import Derived.Test.YtjohglkfcefimaaGreatVecI3
namespace Go.Proofs.YtjohglkfcefimaaGreat
set_option maxRecDepth 100000
open Go.RowKit

set_option maxHeartbeats 3200000 in
theorem impl_innerProduct0 (A : Option Addr) (n c : Nat) (rs1 : List RD) (B : Option Addr) (m d : Nat) (rs2 : List RD) (w : World) (h1 : InV w A n rs1) (h2 : InV w B m rs2) :
    Calls Tryz.prog 113 #[.slice A n c, .slice B m d] w fun e w' => RatOkEnd (InnerProductIs rs1 rs2) w w' e := by
  obtain ⟨W0, hW0⟩ : ∃ W, W = (w.alloc (.cells #[.bool false, .slice none 0 0, .slice none 0 0] 39)) := ⟨_, rfl⟩
  have hs_0 : Hid (Box W0 (w.heap.size) 39 #[.bool false, .slice none 0 0, .slice none 0 0]) := by rw [hW0]; exact (Box.at' (by simp))
  have BW_0 : Hid (Below w.heap.size w W0) := by rw [hW0]; exact ((Below.refl w.heap.size w).alloc (by simp) _)
  have hsz0 : w.heap.size + 1 ≤ W0.heap.size := by rw [hW0]; simp
  have H1 := Lib.hid (h1.below BW_0.out)
  have H2 := Lib.hid (h2.below BW_0.out)
  have hn := h1.2.1
  clear h1 h2
  go_enter Tryz.func113, Tryz.ntmps113
  go_wp2_with fail
  rw [← hW0]
  clear hW0
  refine (impl_combine_RatMul A n c rs1 B m d rs2 _ H1.out H2.out).mono ?_
  rintro e w1 ⟨zs, V, b, rfl, hq, ⟨hl, hf, L, ho, hh⟩, hb⟩
  obtain ⟨A1, c1, rfl⟩ := ho.slice
  have hs_1 := Lib.hid (hs_0.out.below hb hs_0.out.lt)
  have BW_1 := Lib.hid (BW_0.out.trans (hb.mono BW_0.out.size))
  clear hb
  rcases hq with ⟨⟨hp, hk⟩, rfl, rfl⟩ | ⟨hno, rfl, rfl⟩
  case inr =>
    have ehs0 := hs_1.out.cell 0
    have ehs1 := hs_1.out.cell 1
    have ehs2 := hs_1.out.cell 2
    have fhs0 := hs_1.out.free 0
    have fhs1 := hs_1.out.free 1
    have fhs2 := hs_1.out.free 2
    simp at ehs0 ehs1 ehs2
    have HZ : Hid (InnerProductIs rs1 rs2 false [] [] false) := .inr ⟨fun h => hno ⟨h.1, rinner_ok h.2⟩, rfl, rfl⟩
    clear hno hh ho hl hf
    go_wp2_with fail
    refine bodyPost_ret (v := .tuple #[.agg #[.bool false, .slice none 0 0, .slice none 0 0], .bool false]) (by simp [results, Tryz.results113, ehs0, ehs1, ehs2, go_sem]) rfl ?_
    exact ratOkEnd_zero HZ.out (below_store3 BW_1.out (by omega) _ _ _)
  have HP := Lib.hid hp
  have HK := Lib.hid hk
  obtain ⟨zs, hzs⟩ : ∃ zs, zs = List.zipWith rmul rs1 rs2 := ⟨_, rfl⟩
  rw [← hzs] at hh hl hf ho HK ⊢
  obtain ⟨N, hN⟩ : ∃ N, N = zs.length := ⟨_, rfl⟩
  rw [← hN] at ho ⊢
  have HN := Lib.hid hN
  have HZS := Lib.hid hzs
  have hN20 : N ≤ 1048576 := by omega
  have HV : Hid (InV w1 A1 N zs) := ho.in_ hh hN20 hf
  clear hh hl hf ho hk hp hzs hN
  go_wp2_with fail
  refine (impl_ratFromInt 0 _ ⟨by omega, by omega⟩).mono ?_
  rintro e w2 ⟨g, r, v, dd, u, rfl, hq, q1, q2, hap, hb⟩
  obtain ⟨A6, c6, rfl⟩ := own_slice q1.2
  obtain ⟨B6, d6, rfl⟩ := own_slice q2.2
  have HR0 : Hid (RD.mk g r dd = rsum zs 0) := rint_of hq
  have HB12 := Lib.hid hb
  have hs_2 := Lib.hid (hs_1.out.below hb hs_1.out.lt)
  have BW_2 := Lib.hid (BW_1.out.trans (hb.mono BW_1.out.size))
  clear hb
  have S0 : Hid (RSum (w2.alloc (.cells #[.bool g, .slice A6 r.length c6, .slice B6 dd.length d6] 39)) w.heap.size w2.heap.size ⟨g, r, dd⟩ A6 c6 B6 d6) :=
    ⟨Box.new _ _ _, own_base (q1.2.alloc _) BW_1.out.size, own_base (q2.2.alloc _) BW_1.out.size, hap⟩
  have BS := Lib.hid (BW_2.out.alloc BW_2.out.size (.cells #[.bool g, .slice A6 r.length c6, .slice B6 dd.length d6] 39))
  have HS0 := Lib.hid (hs_2.out.alloc (.cells #[.bool g, .slice A6 r.length c6, .slice B6 dd.length d6] 39))
  have hs2 : w.heap.size + 1 ≤ w2.heap.size := by have := hs_2.out.lt; omega
  have HB1S := Lib.hid (HB12.out.alloc HB12.out.size (.cells #[.bool g, .slice A6 r.length c6, .slice B6 dd.length d6] 39))
  have hb12 := HB12.out.size
  clear hq q1 q2 hap
  go_wp2_with fail
  go_loopw [23] (fun y wr => ∃ (i : Nat) (q : RD) (As : Option Addr) (cs : Nat) (Bs : Option Addr) (ds : Nat), i ≤ N ∧ y = .int .i64 i ∧ Hid (q = rsum zs i) ∧ Hid (RSum wr w.heap.size w2.heap.size q As cs Bs ds) ∧ Hid (Below w1.heap.size w1 wr)) (fun y _ => N - (intOf y).toNat)
  case atStart => exact ⟨0, _, _, _, _, _, Nat.zero_le _, rfl, HR0, S0, HB1S⟩
  case round =>
    obtain ⟨i, q, As, cs, Bs, ds, hle, rfl, heq, hsum, hb⟩ := hrel
    have HG : Hid (q.ok ∨ q = RD.zero) := by rw [heq.out]; exact rsum_good _ _
    by_cases hlt : i < N
    · obtain ⟨b2, o2, rfl, hb2, r2, hr2, A4, n4, c4, B4, m4, d4, at2, i2, ra2, j2, rb2⟩ := HV.out.atB hb.out i hlt
      have hi0 : (0 : Int) ≤ (i : Int) := by omega
      have hi1 : (i : Int) < (N : Int) := by omega
      have hw0 : w1.heap.size ≤ wr.heap.size := hb.out.size
      have hbx : Below wr.heap.size wr (wr.alloc (.cells #[.bool r2.g, .slice A4 n4 c4, .slice B4 m4 d4] 39)) := (Below.refl _ _).alloc (Nat.le_refl _) _
      have BD := Lib.hid (hb.out.trans (hbx.mono hw0))
      have S3 := Lib.hid (hsum.out.below hbx)
      obtain ⟨es0, es1, es2, _, _, _⟩ := S3.out.three
      have I2 := Lib.hid (i2.below hbx)
      have J2 := Lib.hid (j2.below hbx)
      have RA2 := Lib.hid ra2
      have RB2 := Lib.hid rb2
      have HR2 : Hid (rsum zs (i + 1) = radd q r2) := by rw [heq.out]; exact rsum_succ hr2
      obtain ⟨e20, e21, e22⟩ := at2
      clear i2 j2 hr2 ra2 rb2 hbx
      go_wp2_with fail
      clear e20 e21 e22 es0 es1 es2
      refine (impl_ratAdd0 q.g As q.xs.length cs q.xs Bs q.ds.length ds q.ds r2.g A4 n4 c4 r2.xs B4 m4 d4 r2.ds _ (S3.out.in1 HG.out) S3.out.room1 (S3.out.in2 HG.out) S3.out.room2 I2.out RA2.out J2.out RB2.out).mono ?_
      rintro e w4 ⟨g, r, v, dd, u, rfl, hq, q1, q2, hap, hc2⟩
      obtain ⟨A7, c7, rfl⟩ := own_slice q1.2
      obtain ⟨B7, d7, rfl⟩ := own_slice q2.2
      have HQ2 : Hid (RD.mk g r dd = rsum zs (i + 1)) := (radd_of hq).trans HR2.out.symm
      have hst := sum_store (q := ⟨g, r, dd⟩) (W := w1) (base := w.heap.size) (S3.out.below hc2).1 rfl q1.2 q2.2 (by have := BW_1.out.size; simp; omega) hap (BD.out.trans (hc2.mono BD.out.size)) hb12
      have HS4 := Lib.hid hst.1
      have HB4 := Lib.hid hst.2
      obtain ⟨es0, es1, es2, fs0, fs1, fs2⟩ := (S3.out.below hc2).three
      clear hq q1 q2 hap hc2 hst
      go_wp2_with fail
      clear es0 es1 es2 fs0 fs1 fs2
      go_roundw
      case rel => exact ⟨i + 1, ⟨g, r, dd⟩, A7, c7, B7, d7, by omega, by go_num, HQ2, HS4, HB4⟩
      case measure => simp [intOf]; omega
    · obtain rfl : i = N := by omega
      have S_0 := Lib.hid hsum.out.drew
      have hs_5 := Lib.hid (hs_1.out.below hb.out hs_1.out.lt).drew
      have BW_5 := Lib.hid (BW_1.out.trans (hb.out.mono BW_1.out.size)).drew
      have HIN : Hid (rinner rs1 rs2 = q) := by rw [heq.out, HN.out, HZS.out]; rfl
      have HNE : Hid (w2.heap.size ≠ w.heap.size) := by unfold Hid; omega
      go_wp2_with fail
      go_region_held3 (fun w' => w'.cell? ⟨w2.heap.size, 0, none⟩ = some (.bool q.g) ∧ w'.cell? ⟨w2.heap.size, 1, none⟩ = some (.slice As q.xs.length cs) ∧ w'.cell? ⟨w2.heap.size, 2, none⟩ = some (.slice Bs q.ds.length ds)) (first | with_reducible exact sum3far S_1 HNE _ _ _ | with_reducible exact sum3 S_1 | with_reducible exact sum3 S_0) (first | (go_at_call 105; (with_reducible refine (impl_ratOk' q.g As q.xs.length cs q.xs Bs q.ds.length ds q.ds _ (S_0.out.in1 HG.out) (S_0.out.in2 HG.out)).mono ?_); rintro e w5 ⟨⟨b, rfl, hi⟩, hb5⟩; have HI5 := Lib.hid hi; have S_1 := Lib.hid (S_0.out.below hb5); have hs_6 := Lib.hid (hs_5.out.below hb5 hs_5.out.lt); have BW_6 := Lib.hid (BW_5.out.trans (hb5.mono BW_5.out.size)); clear hi hb5; have ehs0 := hs_6.out.cell 0; have fhs0 := hs_6.out.free 0; have ehs1 := hs_6.out.cell 1; have fhs1 := hs_6.out.free 1; have ehs2 := hs_6.out.cell 2; have fhs2 := hs_6.out.free 2; simp at ehs0 ehs1 ehs2))
      have HQF : Hid (InnerProductIs rs1 rs2 q.g q.xs q.ds b) := by
        unfold Hid InnerProductIs
        rw [HIN.out]
        have hi := HI5.out
        cases b
        · exact .inr ⟨fun h => (by have h1 := hi.2 h.2; cases h1), HG.out.resolve_left (fun h => (by have h1 := hi.2 h; cases h1)), rfl⟩
        · exact .inl ⟨⟨HP.out, hi.1 rfl⟩, rfl, rfl⟩
      go_wp2_with fail
      refine bodyPost_ret (v := .tuple #[.agg #[.bool q.g, .slice As q.xs.length cs, .slice Bs q.ds.length ds], .bool b]) (by simp [results, Tryz.results113, ehs0, ehs1, ehs2, go_sem]) rfl ?_
      exact ratOkEnd_sum hs_6.out (Nat.le_refl _) BW_6.out HQF.out HG.out S_1.out
theorem impl_innerProduct (A : Option Addr) (n c : Nat) (rs1 : List RD) (B : Option Addr) (m d : Nat) (rs2 : List RD) (w : World) (h1 : InV w A n rs1) (h2 : InV w B m rs2) :
    Calls Tryz.prog 113 #[.slice A n c, .slice B m d] w fun e w' => ∃ g r v d u b, e = .returned (.tuple #[.agg #[.bool g, v, u], .bool b]) ∧ InnerProductIs rs1 rs2 g r d b ∧ ResI w w' v r ∧ ResI w w' u d ∧ Apart u v ∧ Below w.heap.size w w' := (impl_innerProduct0 A n c rs1 B m d rs2 w h1 h2).mono fun _ _ h => h.said
end Go.Proofs.YtjohglkfcefimaaGreat
