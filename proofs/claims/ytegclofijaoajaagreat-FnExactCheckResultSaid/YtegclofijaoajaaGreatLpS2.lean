/- Contracts of linear programs, by the model: sums of products. -/
import Derived.Test.YtegclofijaoajaaGreatLp
import Derived.Test.YtegclofijaoajaaGreatLpS
import Derived.Test.YtegclofijaoajaaGreatVecB3
import Derived.Test.YtegclofijaoajaaGreatTA
namespace Go.Proofs.YtegclofijaoajaaGreat
set_option maxRecDepth 100000
open Go.RowKit

set_option maxHeartbeats 6400000 in
theorem spec_l09Sum (A : Option Addr) (n c : Nat) (ns : List Int) (B : Option Addr) (d : Nat) (vs : List RD) (w : World) (h1 : InI w A n ns) (h2 : InV w B n vs) :
    Calls Tryz.prog 198 #[.slice A n c, .slice B n d] w fun e w' => RatOkEnd (ValueIs True ns vs) w w' e := by
  obtain ⟨W0, hW0⟩ : ∃ W, W = (w.alloc (.cells #[.bool false, .slice none 0 0, .slice none 0 0] 34)) := ⟨_, rfl⟩
  have hs_0 : Hid (Box W0 (w.heap.size) 34 #[.bool false, .slice none 0 0, .slice none 0 0]) := by rw [hW0]; exact (Box.at' (by simp))
  have BW_0 : Hid (Below w.heap.size w W0) := by rw [hW0]; exact ((Below.refl w.heap.size w).alloc (by simp) _)
  have hsz0 : w.heap.size + 1 ≤ W0.heap.size := by rw [hW0]; simp
  have hn := h1.2.1
  have H1 := Lib.hid (h1.below BW_0.out)
  have H2 := Lib.hid (h2.below BW_0.out)
  clear h1 h2
  go_enter Tryz.func198, Tryz.ntmps198
  go_wp2_with fail
  rw [← hW0]
  clear hW0
  refine (spec_ratFromInt 0 _ ⟨by omega, by omega⟩).mono ?_
  rintro e w2 ⟨g, r, v, dd, u, rfl, hq, q1, q2, hap, hb⟩
  obtain ⟨A6, c6, rfl⟩ := own_slice q1.2
  obtain ⟨B6, d6, rfl⟩ := own_slice q2.2
  have HR0 : Hid (RD.mk g r dd = ldotTo ns vs 0) := rint_of hq
  have HB12 := Lib.hid (hb.alloc hb.size (.cells #[.bool g, .slice A6 r.length c6, .slice B6 dd.length d6] 34))
  have hb12 := hb.size
  have hs0 := hs_0.out.lt
  have S0 : Hid (RSum (w2.alloc (.cells #[.bool g, .slice A6 r.length c6, .slice B6 dd.length d6] 34)) w.heap.size w2.heap.size ⟨g, r, dd⟩ A6 c6 B6 d6) :=
    ⟨Box.new _ _ _, own_base (q1.2.alloc _) BW_0.out.size, own_base (q2.2.alloc _) BW_0.out.size, hap⟩
  have HK0 : Hid (ldotTo ns vs 0).ok := rint_okc ⟨by omega, by omega⟩
  clear hq q1 q2 hap hb
  go_wp2_with fail
  go_loopw [12] (fun y wr => ∃ (i : Nat) (q : RD) (As : Option Addr) (cs : Nat) (Bs : Option Addr) (ds : Nat), i ≤ n ∧ y = .int .i64 i ∧ Hid (q = ldotTo ns vs i) ∧ Hid q.ok ∧ Hid (RSum wr w.heap.size w2.heap.size q As cs Bs ds) ∧ Hid (Below W0.heap.size W0 wr)) (fun y _ => n - (intOf y).toNat)
  case atStart => exact ⟨0, _, _, _, _, _, Nat.zero_le _, rfl, HR0, (by unfold Hid; rw [show (RD.mk g r dd) = _ from HR0.out]; exact HK0.out), S0, HB12⟩
  case round =>
    obtain ⟨i, q, As, cs, Bs, ds, hle, rfl, heq, hqk, hsum, hb⟩ := hrel
    have HG : Hid (q.ok ∨ q = RD.zero) := by rw [heq.out]; exact ldotTo_good _ _ _
    by_cases hlt : i < n
    · obtain ⟨b0, o0, z, hA, hz, hcell, hbl, hz0, hz1⟩ := (H1.out.below hb.out).get hlt
      obtain ⟨b1, o1, rfl, hb1, r1, hr1, A3, n3, c3, B3, m3, d3, at1, i1, ra1, j1, rb1⟩ := H2.out.atB hb.out i hlt
      subst hA
      have hi0 : (0 : Int) ≤ (i : Int) := by omega
      have hi1 : (i : Int) < (n : Int) := by omega
      have hw0 : W0.heap.size ≤ wr.heap.size := hb.out.size
      have HZB : Hid (-9223372036854775808 ≤ z ∧ z ≤ 9223372036854775807) := ⟨hz0, hz1⟩
      have HSU : Hid (ldotTo ns vs (i + 1) = radd q (rmul (rint z) r1)) := by rw [heq.out]; exact ldotTo_succ hz hr1
      have RA1 := Lib.hid ra1
      have RB1 := Lib.hid rb1
      clear hz hr1 ra1 rb1 hz0 hz1
      have S5 := Lib.hid hsum.out.drew
      have B5 := Lib.hid hb.out.drew
      have I5 := Lib.hid i1.drew
      have J5 := Lib.hid j1.drew
      have hb1r : b1 < wr.heap.size := Nat.lt_of_lt_of_le hb1 hw0
      have C_5 : Hid (AtL wr.drew [(⟨w2.heap.size, 0, none⟩, .bool q.g), (⟨w2.heap.size, 1, none⟩, .slice As q.xs.length cs), (⟨w2.heap.size, 2, none⟩, .slice Bs q.ds.length ds), (⟨b1, o1 + i * 3, none⟩, .bool r1.g), (⟨b1, o1 + i * 3 + 1, none⟩, .slice A3 n3 c3), (⟨b1, o1 + i * 3 + 2, none⟩, .slice B3 m3 d3)]) := AtL.drew (AtL.append hsum.out.1.atL3 (at3L at1 hb1r))
      clear at1 i1 j1 hbl
      go_wp2_with fail
      refine wp_region_last (S := (fun w' => w'.cell? ⟨w2.heap.size, 0, none⟩ = some (.bool q.g) ∧ w'.cell? ⟨w2.heap.size, 1, none⟩ = some (.slice As q.xs.length cs) ∧ w'.cell? ⟨w2.heap.size, 2, none⟩ = some (.slice Bs q.ds.length ds) ∧ w'.cell? ⟨b1, o1 + i * 3, none⟩ = some (.bool r1.g) ∧ w'.cell? ⟨b1, o1 + i * 3 + 1, none⟩ = some (.slice A3 n3 c3) ∧ w'.cell? ⟨b1, o1 + i * 3 + 2, none⟩ = some (.slice B3 m3 d3))) 9 (by kernel_rfl) ?_ (fun hHeld => ?_)
      · (try dsimp only); (first | with_reducible exact atL6 C_8 | with_reducible exact atL6 C_7 | with_reducible exact atL6 C_6 | with_reducible exact atL6 C_5)
      refine wpAnyL_go (i := 0) (d := some 17) (v := ?_) (y := 8) [0] (by rfl) (by kernel_rfl) (fun _ _ _ h => h) (by assumption) ?_ ?_
      rotate_left 1
      · (intro oS hoS wS hSw; obtain rfl := Option.some.inj hoS; (try dsimp only at hSw); go_simp; try with_reducible rfl)
      (try simp only [Act.put, List.setIfInBounds_toArray])
      refine wpAnyL_go (i := 1) (d := some 18) (v := ?_) (y := 8) [7, 2, 1] (by rfl) (by kernel_rfl) (fun _ _ _ h => h) (by assumption) ?_ ?_
      rotate_left 1
      · (intro oS hoS wS hSw; obtain rfl := Option.some.inj hoS; (try dsimp only at hSw); go_simp; try with_reducible rfl)
      (try simp only [Act.put, List.setIfInBounds_toArray])
      refine wpAnyL_go (i := 3) (d := some 20) (v := ?_) (y := 8) [7, 6, 5, 3] (by rfl) (by kernel_rfl) (fun _ _ _ h => h) (by assumption) ?_ ?_
      rotate_left 1
      · (intro oS hoS wS hSw; obtain rfl := Option.some.inj hoS; (try dsimp only at hSw); go_simp; try with_reducible rfl)
      (try simp only [Act.put, List.setIfInBounds_toArray])
      refine wpAnyL_go (i := 4) (d := some 21) (v := ?_) (y := 8) [7, 6, 5, 4] (by rfl) (by kernel_rfl) (fun _ _ _ h => h) (by assumption) ?_ ?_
      rotate_left 1
      · (intro oS hoS wS hSw; obtain rfl := Option.some.inj hoS; (try dsimp only at hSw); go_simp; try with_reducible rfl)
      (try simp only [Act.put, List.setIfInBounds_toArray])
      refine wpAnyL_go (i := 5) (d := some 22) (v := ?_) (y := 8) [7, 6, 5] (by rfl) (by kernel_rfl) (fun _ _ _ h => h) (by assumption) ?_ ?_
      rotate_left 1
      · (intro oS hoS wS hSw; obtain rfl := Option.some.inj hoS; (try dsimp only at hSw); go_simp; try with_reducible rfl)
      (try simp only [Act.put, List.setIfInBounds_toArray])
      refine wpAnyL_go (i := 6) (d := some 23) (v := ?_) (y := 8) [7, 6] (by rfl) (by kernel_rfl) (fun _ _ _ h => h) (by assumption) ?_ ?_
      rotate_left 1
      · (intro oS hoS wS hSw; obtain rfl := Option.some.inj hoS; (try dsimp only at hSw); go_simp; try with_reducible rfl)
      (try simp only [Act.put, List.setIfInBounds_toArray])
      refine wpAnyL_one 2 (by kernel_rfl) (by decide) rfl (fun KK hK => ?_)
      go_simp
      (go_at_call 184; (with_reducible refine (spec_ratFromInt z _ HZB.out).mono ?_); rintro e w6 ⟨gf, rf, vf, df, uf, rfl, hq6, q1, q2, hap6, hb6⟩; obtain ⟨Af, cf, rfl⟩ := own_slice q1.2; obtain ⟨Bf, ef, rfl⟩ := own_slice q2.2; have HQ6 : Hid (RD.mk gf rf df = rint z) := rint_of hq6; have HO6 := Lib.hid q1.2; have HU6 := Lib.hid q2.2; have HG6 : Hid ((RD.mk gf rf df).ok ∨ RD.mk gf rf df = RD.zero) := (by rw [HQ6.out]; exact rint_good _); have GF : Hid (GRat gf rf df) := RD.gr HG6.out; have hf1 : rf.length ≤ 24 := GF.out.short.1; have hf2 : df.length ≤ 24 := GF.out.short.2; have S6 := Lib.hid (S5.out.below hb6); have B6 := Lib.hid (B5.out.trans (hb6.mono B5.out.size)); have I6 := Lib.hid (I5.out.below hb6); have J6 := Lib.hid (J5.out.below hb6); have C_6 := Lib.hid (C_5.out.below hb6); clear hq6 q1 q2 hap6 hb6)
      (try go_wp2_with fail)
      refine hK.out _ _ ?_ (fun hHeld => ?_)
      · (try dsimp only); (first | with_reducible exact atL6 C_8 | with_reducible exact atL6 C_7 | with_reducible exact atL6 C_6 | with_reducible exact atL6 C_5)
      clear hK KK
      (try simp only [Act.put, List.setIfInBounds_toArray])
      refine wpAnyL_one 7 (by kernel_rfl) (by decide) rfl (fun KK hK => ?_)
      go_simp
      (go_at_call 244; (with_reducible refine (spec_ratMul0 gf Af rf.length cf rf Bf df.length ef df r1.g A3 n3 c3 r1.xs B3 m3 d3 r1.ds _ (in_gr hf1 GF.out.nr HO6.out) (room_own HO6.out) (in_gr hf2 GF.out.dr HU6.out) (room_own HU6.out) I6.out RA1.out J6.out RB1.out).mono ?_); rintro e w7 ⟨gz, rz, vz, dz, uz, rfl, hq7, q1, q2, hap7, hb7⟩; obtain ⟨Az, cz, rfl⟩ := own_slice q1.2; obtain ⟨Bz, ez, rfl⟩ := own_slice q2.2; have HQ7 : Hid (RD.mk gz rz dz = rmul (rint z) r1) := (by rw [← HQ6.out]; exact rmul_of (r := ⟨gf, rf, df⟩) (s := r1) hq7); have HO7 := Lib.hid q1.2; have HU7 := Lib.hid q2.2; have HG7 : Hid ((RD.mk gz rz dz).ok ∨ RD.mk gz rz dz = RD.zero) := (by rw [HQ7.out]; exact rmul_good _ _); have GZ : Hid (GRat gz rz dz) := RD.gr HG7.out; have hz1 : rz.length ≤ 24 := GZ.out.short.1; have hz2 : dz.length ≤ 24 := GZ.out.short.2; have S7 := Lib.hid (S6.out.below hb7); have B7 := Lib.hid (B6.out.trans (hb7.mono B6.out.size)); have C_7 := Lib.hid (C_6.out.below hb7); clear hq7 q1 q2 hap7 hb7)
      (try go_wp2_with fail)
      refine hK.out _ _ ?_ (fun hHeld => ?_)
      · (try dsimp only); (first | with_reducible exact atL6 C_8 | with_reducible exact atL6 C_7 | with_reducible exact atL6 C_6 | with_reducible exact atL6 C_5)
      clear hK KK
      (try simp only [Act.put, List.setIfInBounds_toArray])
      refine wpAnyL_one 8 (by kernel_rfl) (by decide) rfl (fun KK hK => ?_)
      go_simp
      (go_at_call 243; (with_reducible refine (spec_ratAdd0 q.g As q.xs.length cs q.xs Bs q.ds.length ds q.ds gz Az rz.length cz rz Bz dz.length ez dz _ (S7.out.in1 HG.out) S7.out.room1 (S7.out.in2 HG.out) S7.out.room2 (in_gr hz1 GZ.out.nr HO7.out) (room_own HO7.out) (in_gr hz2 GZ.out.dr HU7.out) (room_own HU7.out)).mono ?_); rintro e w8 ⟨g8, r8, v8, dd8, u8, rfl, hq8, q1, q2, hap8, hb8⟩; obtain ⟨A8, c8, rfl⟩ := own_slice q1.2; obtain ⟨B8, d8, rfl⟩ := own_slice q2.2; have HQ8 : Hid (RD.mk g8 r8 dd8 = ldotTo ns vs (i + 1)) := ((radd_of (r := q) (s := ⟨gz, rz, dz⟩) hq8).trans (by rw [HQ7.out])).trans HSU.out.symm; have hst := sum_store (q := ⟨g8, r8, dd8⟩) (W := W0) (base := w.heap.size) (S7.out.below hb8).1 rfl q1.2 q2.2 (by have := B7.out.size; have := BW_0.out.size; omega) hap8 (B7.out.trans (hb8.mono B7.out.size)) hb12; have HS9 := Lib.hid hst.1; have HB9 := Lib.hid hst.2; obtain ⟨fc0, fc1, fc2, fs0, fs1, fs2⟩ := (S7.out.below hb8).three; have C_8 := Lib.hid (C_7.out.below hb8); clear hq8 q1 q2 hap8 hb8 hst)
      (try go_wp2_with fail)
      refine hK.out _ _ ?_ (fun hHeld => ?_)
      · (try dsimp only); (first | with_reducible exact atL6 C_8 | with_reducible exact atL6 C_7 | with_reducible exact atL6 C_6 | with_reducible exact atL6 C_5)
      clear hK KK
      (try simp only [Act.put, List.setIfInBounds_toArray])
      refine wpAnyL_last (by kernel_rfl) rfl (fun KK hK => ?_)
      go_simp
      refine hK.out _ _ ?_
      clear hK KK
      (try simp only [Act.put, List.setIfInBounds_toArray])
      refine wpAnyL_done (by kernel_rfl) ?_ _
      all_goals
        have HG9 : Hid ((RD.mk g8 r8 dd8).ok ∨ RD.mk g8 r8 dd8 = RD.zero) := by rw [HQ8.out]; exact ldotTo_good _ _ _
        obtain ⟨et0, et1, et2, _, _, _⟩ := HS9.out.three
        clear fc0 fc1 fc2 fs0 fs1 fs2
        go_wp2_with fail
        clear et0 et1 et2
        refine (spec_ratOk' g8 A8 r8.length c8 r8 B8 dd8.length d8 dd8 _ (HS9.out.in1 HG9.out) (HS9.out.in2 HG9.out)).mono ?_
        rintro e w10 ⟨⟨b, rfl, hi⟩, hb10⟩
        have HI10 := Lib.hid hi
        have S10 := Lib.hid (HS9.out.below hb10)
        have B10 := Lib.hid (HB9.out.trans (hb10.mono HB9.out.size))
        clear hi hb10
        cases b
        case false =>
          have HV : Hid (ValueIs True ns vs false [] [] false) := value_stuck (i := i + 1) (by rw [← HQ8.out]; intro h; have := HI10.out.2 h; cases this) H1.out.1 H2.out.1 (by omega)
          have hs_10 := Lib.hid (hs_0.out.below B10.out hs_0.out.lt)
          have BW_10 := Lib.hid (BW_0.out.trans (B10.out.mono BW_0.out.size))
          have ehs0 := hs_10.out.cell 0
          have ehs1 := hs_10.out.cell 1
          have ehs2 := hs_10.out.cell 2
          have fhs0 := hs_10.out.free 0
          have fhs1 := hs_10.out.free 1
          have fhs2 := hs_10.out.free 2
          simp at ehs0 ehs1 ehs2
          go_wp2_with fail
          refine bodyPost_ret (v := .tuple #[.agg #[.bool false, .slice none 0 0, .slice none 0 0], .bool false]) (by simp [results, Tryz.results198, ehs0, ehs1, ehs2, go_sem]) rfl ?_
          exact ratOkEnd_zero HV.out (below_store3 BW_10.out (Nat.le_refl _) _ _ _)
        have HK10 : Hid (RD.mk g8 r8 dd8).ok := HI10.out.1 rfl
        go_wp2_with fail
        go_roundw
        case rel => exact ⟨i + 1, ⟨g8, r8, dd8⟩, A8, c8, B8, d8, by omega, by go_num, HQ8, HK10, S10, B10⟩
        case measure => simp [intOf]; omega
    · obtain rfl : i = n := by omega
      have HV : Hid (ValueIs True ns vs q.g q.xs q.ds true) := value_full (by rw [heq.out]; exact ldotTo_all H1.out.1 H2.out.1) hqk.out
      have hs_5 := Lib.hid (hs_0.out.below hb.out hs_0.out.lt)
      have BW_5 := Lib.hid (BW_0.out.trans (hb.out.mono BW_0.out.size))
      have ehs0 := hs_5.out.cell 0
      have ehs1 := hs_5.out.cell 1
      have ehs2 := hs_5.out.cell 2
      have fhs0 := hs_5.out.free 0
      have fhs1 := hs_5.out.free 1
      have fhs2 := hs_5.out.free 2
      simp at ehs0 ehs1 ehs2
      obtain ⟨es0, es1, es2, _, _, _⟩ := hsum.out.three
      go_wp2_with fail
      refine bodyPost_ret (v := .tuple #[.agg #[.bool q.g, .slice As q.xs.length cs, .slice Bs q.ds.length ds], .bool true]) (by simp [results, Tryz.results198, ehs0, ehs1, ehs2, go_sem]) rfl ?_
      exact ratOkEnd_sum hs_5.out (Nat.le_refl _) BW_5.out HV.out HG.out hsum.out
end Go.Proofs.YtegclofijaoajaaGreat
