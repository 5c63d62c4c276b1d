/- Contracts of vectors: the inner product, by the model. -/
import Derived.Test.YtjohglkfcefimaaGreatVecB
import Derived.Test.YtjohglkfcefimaaGreatGW
import Derived.Deep.RegionWith
namespace Go.Proofs.YtjohglkfcefimaaGreat
set_option maxRecDepth 100000
open Go.RowKit

def NilEnd (xs : List Int) (w w' : World) (e : Ending) : Prop := ∃ b, e = .returned (.bool b) ∧ (b = true ↔ xs = []) ∧ Below w.heap.size w w'
set_option maxHeartbeats 800000 in
theorem spec_l05Nil (g : Bool) (A : Option Addr) (n c : Nat) (xs : List Int) (B : Option Addr) (m d : Nat) (w : World) (hm : xs.length = n) (_hb : n ≤ 1048576) :
    Calls Tryz.prog 152 #[.agg #[.bool g, .slice A n c, .slice B m d]] w fun e w' => NilEnd xs w w' e := by
  obtain ⟨t, ht⟩ : ∃ t, ((n : Int) == 0) = t := ⟨_, rfl⟩
  have HQ : Hid (t = true ↔ xs = []) := by
    unfold Hid
    rw [← ht, beq_iff_eq]
    exact ⟨fun h => List.eq_nil_of_length_eq_zero (by omega), fun h => by rw [h] at hm; simp at hm; omega⟩
  clear hm
  go_enter Tryz.func152, Tryz.ntmps152
  go_wp2_with fail
  go_ret
  exact ⟨t, rfl, HQ.out, (Below.refl _ _).alloc (Nat.le_refl _) _⟩
theorem in_gr {w : World} {base c : Nat} {A : Option Addr} {r : List Int} (hl : r.length ≤ 24) (hr : InR r) (ho : w.ownsRow base 3 1 (.slice A r.length c) r.length (r.map (.int .i64))) : InI w A r.length r := ⟨rfl, by omega, Reads.of_own ho, limbs_bd hr⟩
theorem ok_ds {r : RD} (h : r.ok) : r.ds ≠ [] := fun e => by
  have h4 := h.2.2.1
  rw [e] at h4
  simp [val] at h4
set_option maxHeartbeats 6400000 in
theorem spec_l05Inner (A : Option Addr) (n c : Nat) (rs1 : List RD) (B : Option Addr) (m d : Nat) (rs2 : List RD) (w : World) (h1 : InV w A n rs1) (h2 : InV w B m rs2) (hp : PairOk rs1 rs2) :
    Calls Tryz.prog 159 #[.slice A n c, .slice B m d] w fun e w' => RatEnd (fun g l d => RD.mk g l d = rinner rs1 rs2) w w' e := by
  obtain rfl : n = m := by rw [← h1.1, ← h2.1]; exact hp.2.2
  have hn := h1.2.1
  have HN : Hid ((List.zipWith rmul rs1 rs2).length = n) := by unfold Hid; rw [List.length_zipWith, h1.1, h2.1, Nat.min_self]
  obtain ⟨W0, hW0⟩ : ∃ W, W = (w.alloc (.cells #[.bool false, .slice none 0 0, .slice none 0 0] 39)) := ⟨_, rfl⟩
  have hs_0 : Hid (Box W0 (w.heap.size) 39 #[.bool false, .slice none 0 0, .slice none 0 0]) := by rw [hW0]; exact (Box.at' (by simp))
  have BW_0 : Hid (Below w.heap.size w W0) := by rw [hW0]; exact ((Below.refl w.heap.size w).alloc (by simp) _)
  have hsz0 : w.heap.size + 1 ≤ W0.heap.size := by rw [hW0]; simp
  have HP := Lib.hid hp
  have H1 := Lib.hid (h1.below BW_0.out)
  have H2 := Lib.hid (h2.below BW_0.out)
  clear h1 h2 hp
  go_enter Tryz.func159, Tryz.ntmps159
  go_wp2_with fail
  rw [← hW0]
  clear hW0
  refine (spec_l05Zero _).mono ?_
  rintro e w2 ⟨g, r, v, dd, u, rfl, hq, q1, q2, hap, hb⟩
  obtain ⟨A6, c6, rfl⟩ := own_slice q1.2
  obtain ⟨B6, d6, rfl⟩ := own_slice q2.2
  have HR0 : Hid (RD.mk g r dd = rsum (List.zipWith rmul rs1 rs2) 0) := rint_of hq
  have HB12 := Lib.hid (hb.alloc hb.size (.cells #[.bool g, .slice A6 r.length c6, .slice B6 dd.length d6] 39))
  have hb12 := hb.size
  have hs0 := hs_0.out.lt
  have S0 : Hid (RSum (w2.alloc (.cells #[.bool g, .slice A6 r.length c6, .slice B6 dd.length d6] 39)) w.heap.size w2.heap.size ⟨g, r, dd⟩ A6 c6 B6 d6) :=
    ⟨Box.new _ _ _, own_base (q1.2.alloc _) BW_0.out.size, own_base (q2.2.alloc _) BW_0.out.size, hap⟩
  clear hq q1 q2 hap hb
  go_wp2_with fail
  go_loopw [11] (fun y wr => ∃ (i : Nat) (q : RD) (As : Option Addr) (cs : Nat) (Bs : Option Addr) (ds : Nat), i ≤ n ∧ y = .int .i64 i ∧ Hid (q = rsum (List.zipWith rmul rs1 rs2) i) ∧ Hid (RSum wr w.heap.size w2.heap.size q As cs Bs ds) ∧ Hid (Below W0.heap.size W0 wr)) (fun y _ => n - (intOf y).toNat)
  case atStart => exact ⟨0, _, _, _, _, _, Nat.zero_le _, rfl, HR0, S0, HB12⟩
  case round =>
    obtain ⟨i, q, As, cs, Bs, ds, hle, rfl, heq, hsum, hb⟩ := hrel
    have HG : Hid (q.ok ∨ q = RD.zero) := by rw [heq.out]; exact rsum_good _ _
    by_cases hlt : i < n
    · obtain ⟨b1, o1, rfl, hb1, r1, hr1, A3, n3, c3, B3, m3, d3, at1, i1, ra1, j1, rb1⟩ := H1.out.atB hb.out i hlt
      obtain ⟨b2, o2, rfl, hb2, r2, hr2, A4, n4, c4, B4, m4, d4, at2, i2, ra2, j2, rb2⟩ := H2.out.atB hb.out i hlt
      have hi0 : (0 : Int) ≤ (i : Int) := by omega
      have hi1 : (i : Int) < (n : Int) := by omega
      have hw0 : W0.heap.size ≤ wr.heap.size := hb.out.size
      have K1 : Hid (ROk r1.g r1.xs r1.ds) := vok_at HP.out.1 hr1
      have K2 : Hid (ROk r2.g r2.xs r2.ds) := vok_at HP.out.2.1 hr2
      have HSK : Hid (r1.xs = [] ∨ r2.xs = [] → q = rsum (List.zipWith rmul rs1 rs2) (i + 1)) := fun h => heq.out.trans (rsum_skip hr1 hr2 K1.out K2.out h).symm
      have HSU : Hid (rsum (List.zipWith rmul rs1 rs2) (i + 1) = radd q (rmul r1 r2)) := by rw [heq.out]; exact rsum_succ (zip_at hr1 hr2)
      obtain ⟨W3, hW3⟩ : ∃ W, W = wr.alloc (.cells #[.bool r1.g, .slice A3 n3 c3, .slice B3 m3 d3] 39) := ⟨_, rfl⟩
      have hbx : Below wr.heap.size wr W3 := by rw [hW3]; exact (Below.refl _ _).alloc (Nat.le_refl _) _
      have X3 : Hid (Box W3 wr.heap.size 39 #[.bool r1.g, .slice A3 n3 c3, .slice B3 m3 d3]) := by rw [hW3]; exact Box.new _ _ _
      have B3' := Lib.hid (hb.out.trans (hbx.mono hw0))
      have S3 := Lib.hid (hsum.out.below hbx)
      have P3 := Lib.hid (at2.below (Nat.lt_of_lt_of_le hb2 hw0) hbx)
      have I1 := Lib.hid (i1.below hbx)
      have I2 := Lib.hid (i2.below hbx)
      have J1 := Lib.hid (j1.below hbx)
      have J2 := Lib.hid (j2.below hbx)
      have RA1 := Lib.hid ra1
      have RA2 := Lib.hid ra2
      have RB1 := Lib.hid rb1
      have RB2 := Lib.hid rb2
      have HLT2 := Lib.hid hb2
      have hn3 := i1.2.1
      have hn4 := i2.2.1
      have hm3 := j1.2.1
      have hm4 := j2.2.1
      obtain ⟨e10, e11, e12⟩ := at1
      clear i1 i2 j1 j2 hr1 hr2 ra1 ra2 rb1 rb2 hbx at2
      go_wp2_with fail
      rw [← hW3]
      clear e10 e11 e12 hW3
      refine (spec_l05Nil r1.g A3 n3 c3 r1.xs B3 m3 d3 _ I1.out.1 hn3).mono ?_
      rintro e w4 ⟨t1, rfl, ht1, hb4⟩
      have HT1 := Lib.hid ht1
      have X4 := Lib.hid (X3.out.below hb4 X3.out.lt)
      have B4' := Lib.hid (B3'.out.trans (hb4.mono B3'.out.size))
      have S4 := Lib.hid (S3.out.below hb4)
      have P4 := Lib.hid (P3.out.below (Nat.lt_of_lt_of_le HLT2.out B3'.out.size) hb4)
      have I14 := Lib.hid (I1.out.below hb4)
      have I24 := Lib.hid (I2.out.below hb4)
      have J14 := Lib.hid (J1.out.below hb4)
      have J24 := Lib.hid (J2.out.below hb4)
      clear ht1 hb4 I1 I2 J1 J2
      cases t1
      case true =>
        have ex0 := X4.out.cell 0
        have ex1 := X4.out.cell 1
        have ex2 := X4.out.cell 2
        simp at ex0 ex1 ex2
        go_wp2_with fail
        clear ex0 ex1 ex2
        refine (spec_l05Bad r1.g A3 n3 c3 B3 m3 d3 r1.ds _ J14.out.1 hm3).mono ?_
        rintro e w5 ⟨t2, rfl, ht2, hb5⟩
        have S5 := Lib.hid (S4.out.below hb5)
        have B5' := Lib.hid (B4'.out.trans (hb5.mono B4'.out.size))
        have HQ5 := Lib.hid (HSK.out (.inl (HT1.out.1 (by simp))))
        obtain rfl : t2 = false := by
          cases t2
          · rfl
          · exact absurd (ht2.1 rfl) (ok_ds K1.out)
        clear ht2 hb5
        go_wp2_with fail
        go_roundw
        case rel => exact ⟨i + 1, q, As, cs, Bs, ds, by omega, by go_num, HQ5, S5, B5'⟩
        case measure => simp [intOf]; omega
      obtain ⟨ex0, ex1, ex2⟩ := P4.out
      go_wp2_with fail
      clear ex0 ex1 ex2
      refine (spec_l05Nil r2.g A4 n4 c4 r2.xs B4 m4 d4 _ I24.out.1 hn4).mono ?_
      rintro e w5 ⟨t2, rfl, ht2, hb5⟩
      have HT2 := Lib.hid ht2
      have X5 := Lib.hid (X4.out.below hb5 X4.out.lt)
      have B5' := Lib.hid (B4'.out.trans (hb5.mono B4'.out.size))
      have S5 := Lib.hid (S4.out.below hb5)
      have P5 := Lib.hid (P4.out.below (Nat.lt_of_lt_of_le HLT2.out B4'.out.size) hb5)
      have I15 := Lib.hid (I14.out.below hb5)
      have I25 := Lib.hid (I24.out.below hb5)
      have J15 := Lib.hid (J14.out.below hb5)
      have J25 := Lib.hid (J24.out.below hb5)
      clear ht2 hb5 I14 I24 J14 J24
      cases t2
      case true =>
        obtain ⟨ex0, ex1, ex2⟩ := P5.out
        go_wp2_with fail
        clear ex0 ex1 ex2
        refine (spec_l05Bad r2.g A4 n4 c4 B4 m4 d4 r2.ds _ J25.out.1 hm4).mono ?_
        rintro e w6 ⟨t3, rfl, ht3, hb6⟩
        have S6 := Lib.hid (S5.out.below hb6)
        have B6' := Lib.hid (B5'.out.trans (hb6.mono B5'.out.size))
        have HQ6 := Lib.hid (HSK.out (.inr (HT2.out.1 (by simp))))
        obtain rfl : t3 = false := by
          cases t3
          · rfl
          · exact absurd (ht3.1 rfl) (ok_ds K2.out)
        clear ht3 hb6
        go_wp2_with fail
        go_roundw
        case rel => exact ⟨i + 1, q, As, cs, Bs, ds, by omega, by go_num, HQ6, S6, B6'⟩
        case measure => simp [intOf]; omega
      have S6 := Lib.hid S5.out.drew
      have B6' := Lib.hid B5'.out.drew
      have I16 := Lib.hid I15.out.drew
      have I26 := Lib.hid I25.out.drew
      have J16 := Lib.hid J15.out.drew
      have J26 := Lib.hid J25.out.drew
      have es0 := S6.out.1.cell 0
      have es1 := S6.out.1.cell 1
      have es2 := S6.out.1.cell 2
      have ex0 := X5.out.drew.cell 0
      have ex1 := X5.out.drew.cell 1
      have ex2 := X5.out.drew.cell 2
      simp at es0 es1 es2 ex0 ex1 ex2
      obtain ⟨ep0, ep1, ep2⟩ := P5.out.drew
      have hb5s := B6'.out.size
      have GQ : Hid (GRat q.g q.xs q.ds) := RD.gr HG.out
      have hbw := BW_0.out.size
      go_wp2_with fail
      go_region_with (first | (go_at_call 150; (with_reducible refine (spec_l04Mul r1.g A3 n3 c3 r1.xs B3 m3 d3 r1.ds r2.g A4 n4 c4 r2.xs B4 m4 d4 r2.ds _ I16.out RA1.out J16.out RB1.out I26.out RA2.out J26.out RB2.out K1.out K2.out).mono ?_); rintro e w7 ⟨gz, rz, vz, dz, uz, rfl, hq7, q1, q2, hap7, hb7⟩; obtain ⟨Az, cz, rfl⟩ := own_slice q1.2; obtain ⟨Bz, ez, rfl⟩ := own_slice q2.2; have HQ7 : Hid (RD.mk gz rz dz = rmul r1 r2) := rmul_of hq7; have HO7 := Lib.hid q1.2; have HU7 := Lib.hid q2.2; have HG7 : Hid ((RD.mk gz rz dz).ok ∨ RD.mk gz rz dz = RD.zero) := (by rw [HQ7.out]; exact rmul_good _ _); have GZ : Hid (GRat gz rz dz) := RD.gr HG7.out; have hz1 : rz.length ≤ 24 := GZ.out.short.1; have hz2 : dz.length ≤ 24 := GZ.out.short.2; have S7 := Lib.hid (S6.out.below hb7); have B7' := Lib.hid (B6'.out.trans (hb7.mono B6'.out.size)); have et0 := S7.out.1.cell 0; have et1 := S7.out.1.cell 1; have et2 := S7.out.1.cell 2; simp at et0 et1 et2; clear hq7 q1 q2 hap7 hb7) | (go_at_call 100; (with_reducible refine (spec_l04AddG q.g As q.xs.length cs q.xs Bs q.ds.length ds q.ds gz Az rz.length cz rz Bz dz.length ez dz _ (S7.out.in1 HG.out) S7.out.room1 (S7.out.in2 HG.out) S7.out.room2 (in_gr hz1 GZ.out.nr HO7.out) (room_own HO7.out) (in_gr hz2 GZ.out.dr HU7.out) (room_own HU7.out) GQ.out GZ.out).mono ?_); rintro e w8 ⟨g8, r8, v8, dd8, u8, rfl, hq8, q1, q2, hap8, hb8⟩; obtain ⟨A8, c8, rfl⟩ := own_slice q1.2; obtain ⟨B8, d8, rfl⟩ := own_slice q2.2; have HQ8 : Hid (RD.mk g8 r8 dd8 = rsum (List.zipWith rmul rs1 rs2) (i + 1)) := ((radd_of (r := q) (s := ⟨gz, rz, dz⟩) hq8).trans (by rw [HQ7.out])).trans HSU.out.symm; have hst := sum_store (q := ⟨g8, r8, dd8⟩) (W := W0) (base := w.heap.size) (S7.out.below hb8).1 rfl q1.2 q2.2 (by have := B7'.out.size; omega) hap8 (B7'.out.trans (hb8.mono B7'.out.size)) hb12; have HS9 := Lib.hid hst.1; have HB9 := Lib.hid hst.2; obtain ⟨fc0, fc1, fc2, fs0, fs1, fs2⟩ := (S7.out.below hb8).three; clear hq8 q1 q2 hap8 hb8 hst))
      all_goals
        go_wp2_with fail
        go_roundw
        case rel => exact ⟨i + 1, ⟨g8, r8, dd8⟩, A8, c8, B8, d8, by omega, by go_num, HQ8, HS9, HB9⟩
        case measure => simp [intOf]; omega
    · obtain rfl : i = n := by omega
      have hs_5 := Lib.hid (hs_0.out.below hb.out hs_0.out.lt)
      have BW_5 := Lib.hid (BW_0.out.trans (hb.out.mono BW_0.out.size))
      have HQ : Hid (RD.mk q.g q.xs q.ds = rinner rs1 rs2) := by
        have := heq.out
        rw [← HN.out] at this
        exact this
      have hsh := (RD.gr HG.out).short
      have hsh1 := hsh.1
      have hsh2 := hsh.2
      have ehs0 := hs_5.out.cell 0
      have ehs1 := hs_5.out.cell 1
      have ehs2 := hs_5.out.cell 2
      have fhs0 := hs_5.out.free 0
      have fhs1 := hs_5.out.free 1
      have fhs2 := hs_5.out.free 2
      simp at ehs0 ehs1 ehs2
      obtain ⟨es0, es1, es2, _, _, _⟩ := hsum.out.three
      have HSM := hsum
      clear hsum hsh
      go_wp2_with fail
      refine bodyPost_ret (v := .agg #[.bool q.g, .slice As q.xs.length cs, .slice Bs q.ds.length ds]) (by simp [results, Tryz.results159, ehs0, ehs1, ehs2, go_sem]) rfl ?_
      exact ratEnd_store hs_5.out (Nat.le_refl _) BW_5.out HQ.out rfl rfl (by omega) (by omega) HSM.out.2.1 (Nat.le_refl _) HSM.out.2.2.1 (Nat.le_refl _) HSM.out.2.2.2
end Go.Proofs.YtjohglkfcefimaaGreat
