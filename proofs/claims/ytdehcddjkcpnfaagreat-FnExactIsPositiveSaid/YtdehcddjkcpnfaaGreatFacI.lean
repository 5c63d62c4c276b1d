/- Contracts of the factoring, by the program: rest. -/
import Derived.Test.YtdehcddjkcpnfaaGreatFA
import Derived.Test.YtdehcddjkcpnfaaGreatVecB3
import Derived.Test.YtdehcddjkcpnfaaGreatGE
import Derived.Test.YtdehcddjkcpnfaaGreatGK
import Derived.Test.YtdehcddjkcpnfaaGreatGF
import Derived.Deep.RegionWith
import Derived.Test.YtdehcddjkcpnfaaGreatTA
namespace Go.Proofs.YtdehcddjkcpnfaaGreat
set_option maxRecDepth 100000
open Go.RowKit

set_option maxHeartbeats 6400000 in
theorem impl_rest (g1 : Bool) (A1 : Option Addr) (n1 c1 : Nat) (xs : List Int) (B1 : Option Addr) (m1 d1 : Nat) (es : List Int) (Aa : Option Addr) (na ca : Nat) (sa : List RD) (Ab : Option Addr) (nb cb : Nat) (sb : List RD) (Ad : Option Addr) (nd cd : Nat) (sd : List RD) (w : World)
    (h1 : InI w A1 n1 xs) (r1 : Room A1 n1 c1) (k1 : InI w B1 m1 es) (s1 : Room B1 m1 d1) (hx : (RD.mk g1 xs es).ok ∨ RD.mk g1 xs es = RD.zero) (ha : InV w Aa na sa) (hb : InV w Ab nb sb) (hd : InV w Ad nd sd) (hnb : na ≤ nb) (hnd : na ≤ nd) :
    Calls Tryz.prog 151 #[.agg #[.bool g1, .slice A1 n1 c1, .slice B1 m1 d1], .slice Aa na ca, .slice Ab nb cb, .slice Ad nd cd] w fun e w' => RatEnd (fun g l d => RD.mk g l d = restF ⟨g1, xs, es⟩ (seq sa) (seq sb) (seq sd) na) w w' e := by
  have hn := ha.2.1
  have hsx := (RD.gr hx).short
  have hx24 : xs.length ≤ 24 := hsx.1
  have hd24 : es.length ≤ 24 := hsx.2
  obtain ⟨W0, hW0⟩ : ∃ W, W = ((w.alloc (.cells #[.bool g1, .slice A1 n1 c1, .slice B1 m1 d1] 30)).alloc (.cells #[.bool false, .slice none 0 0, .slice none 0 0] 30)) := ⟨_, rfl⟩
  have hy0_0 : Hid (Box W0 (w.heap.size) 30 #[.bool g1, .slice A1 n1 c1, .slice B1 m1 d1]) := by rw [hW0]; exact ((Box.at' (by simp)).alloc _)
  have hs_0 : Hid (Box W0 (w.heap.size + 1) 30 #[.bool false, .slice none 0 0, .slice none 0 0]) := by rw [hW0]; exact (Box.at' (by simp))
  have BW_0 : Hid (Below w.heap.size w W0) := by rw [hW0]; exact (((Below.refl w.heap.size w).alloc (by simp) _).alloc (by simp) _)
  have hsz0 : w.heap.size + 1 + 1 ≤ W0.heap.size := by rw [hW0]; simp
  have HX := Lib.hid hx
  have I0 := Lib.hid (h1.below BW_0.out)
  have J0 := Lib.hid (k1.below BW_0.out)
  have R0' := Lib.hid r1
  have S0' := Lib.hid s1
  have HA := Lib.hid (ha.below BW_0.out)
  have HB := Lib.hid (hb.below BW_0.out)
  have HD := Lib.hid (hd.below BW_0.out)
  clear h1 r1 k1 s1 hx ha hb hd hsx
  go_enter Tryz.func151, Tryz.ntmps151
  go_wp2_with fail
  rw [← hW0]
  clear hW0
  have ehy00 := hy0_0.out.cell 0
  have ehy01 := hy0_0.out.cell 1
  have ehy02 := hy0_0.out.cell 2
  simp at ehy00 ehy01 ehy02
  go_wp2_with fail
  clear ehy00 ehy01 ehy02
  refine (impl_copyOfRat g1 A1 n1 c1 xs B1 m1 d1 es _ I0.out R0'.out J0.out S0'.out hx24 hd24).mono ?_
  rintro e w2 ⟨g, r, v, dd, u, rfl, hq, q1, q2, hap, hb⟩
  obtain ⟨A6, c6, rfl⟩ := own_slice q1.2
  obtain ⟨B6, d6, rfl⟩ := own_slice q2.2
  have HR0 : Hid (RD.mk g r dd = restF ⟨g1, xs, es⟩ (seq sa) (seq sb) (seq sd) 0) := by
    obtain ⟨k1, k2, k3⟩ := hq
    unfold Hid
    rw [k1, k2, k3]; rfl
  have HB12 := Lib.hid (hb.alloc hb.size (.cells #[.bool g, .slice A6 r.length c6, .slice B6 dd.length d6] 30))
  have hb12 := hb.size
  have hs0 := hs_0.out.lt
  have S0 : Hid (RSum (w2.alloc (.cells #[.bool g, .slice A6 r.length c6, .slice B6 dd.length d6] 30)) w.heap.size w2.heap.size ⟨g, r, dd⟩ A6 c6 B6 d6) :=
    ⟨Box.new _ _ _, own_base (q1.2.alloc _) BW_0.out.size, own_base (q2.2.alloc _) BW_0.out.size, hap⟩
  clear hq q1 q2 hap hb
  go_wp2_with fail
  go_loopw [15] (fun y wr => ∃ (i : Nat) (q : RD) (As : Option Addr) (cs : Nat) (Bs : Option Addr) (es' : Nat), i ≤ na ∧ y = .int .i64 i ∧ Hid (q = restF ⟨g1, xs, es⟩ (seq sa) (seq sb) (seq sd) i) ∧ Hid (RSum wr w.heap.size w2.heap.size q As cs Bs es') ∧ Hid (Below W0.heap.size W0 wr)) (fun y _ => na - (intOf y).toNat)
  case atStart => exact ⟨0, _, _, _, _, _, Nat.zero_le _, rfl, HR0, S0, HB12⟩
  case round =>
    obtain ⟨i, q, As, cs, Bs, es', hle, rfl, heq, hsum, hb⟩ := hrel
    have HG : Hid (q.ok ∨ q = RD.zero) := by rw [heq.out]; exact restF_good HX.out _
    by_cases hlt : i < na
    · obtain ⟨b1, o1, rfl, hb1, r1, hr1, A3, n3, c3, B3, m3, d3, at1, i1, ra1, j1, rb1⟩ := HA.out.atB hb.out i hlt
      obtain ⟨b2, o2, rfl, hb2, r2, hr2, A4, n4, c4, B4, m4, d4, at2, i2, ra2, j2, rb2⟩ := HB.out.atB hb.out i (by omega)
      obtain ⟨b3, o3, rfl, hb3, r3, hr3, A5, n5, c5, B5, m5, d5, at3, i3, ra3, j3, rb3⟩ := HD.out.atB hb.out i (by omega)
      have hi0 : (0 : Int) ≤ (i : Int) := by omega
      have hi1 : (i : Int) < (na : Int) := by omega
      have hi2 : (i : Int) < (nb : Int) := by omega
      have hi3 : (i : Int) < (nd : Int) := by omega
      have hw0 : W0.heap.size ≤ wr.heap.size := hb.out.size
      have hbw := BW_0.out.size
      have HS1 : Hid (restF ⟨g1, xs, es⟩ (seq sa) (seq sb) (seq sd) (i + 1) = rsub q (rmul (rmul r1 r2) r3)) := by
        unfold Hid
        simp only [restF]
        rw [seq_of hr1, seq_of hr2, seq_of hr3, ← heq.out]
      have I1 := Lib.hid i1.drew
      have J1 := Lib.hid j1.drew
      have I2 := Lib.hid i2.drew
      have J2 := Lib.hid j2.drew
      have I3 := Lib.hid i3.drew
      have J3 := Lib.hid j3.drew
      have RA1 := Lib.hid ra1
      have RA2 := Lib.hid ra2
      have RA3 := Lib.hid ra3
      have RB1 := Lib.hid rb1
      have RB2 := Lib.hid rb2
      have RB3 := Lib.hid rb3
      have hl1 : b1 < wr.heap.size := by omega
      have hl2 : b2 < wr.heap.size := by omega
      have hl3 : b3 < wr.heap.size := by omega
      have hsum0 := hsum.out
      have S6 := Lib.hid hsum.out.drew
      have B6' := Lib.hid hb.out.drew
      clear i1 i2 i3 j1 j2 j3 hr1 hr2 hr3 ra1 ra2 ra3 rb1 rb2 rb3 hsum hb1 hb2 hb3
      have C_6 : Hid (AtL wr.drew [(⟨w2.heap.size, 0, none⟩, .bool q.g), (⟨w2.heap.size, 1, none⟩, .slice As q.xs.length cs), (⟨w2.heap.size, 2, none⟩, .slice Bs q.ds.length es'), (⟨b1, o1 + i * 3, none⟩, .bool r1.g), (⟨b1, o1 + i * 3 + 1, none⟩, .slice A3 n3 c3), (⟨b1, o1 + i * 3 + 2, none⟩, .slice B3 m3 d3), (⟨b2, o2 + i * 3, none⟩, .bool r2.g), (⟨b2, o2 + i * 3 + 1, none⟩, .slice A4 n4 c4), (⟨b2, o2 + i * 3 + 2, none⟩, .slice B4 m4 d4), (⟨b3, o3 + i * 3, none⟩, .bool r3.g), (⟨b3, o3 + i * 3 + 1, none⟩, .slice A5 n5 c5), (⟨b3, o3 + i * 3 + 2, none⟩, .slice B5 m5 d5)]) := AtL.drew (AtL.append hsum0.1.atL3 (AtL.append (at3L at1 hl1) (AtL.append (at3L at2 hl2) (at3L at3 hl3))))
      clear at1 at2 at3 hl1 hl2 hl3 hsum0
      go_wp2_with fail
      refine wp_region_last (S := (fun w' => w'.cell? ⟨w2.heap.size, 0, none⟩ = some (.bool q.g) ∧ w'.cell? ⟨w2.heap.size, 1, none⟩ = some (.slice As q.xs.length cs) ∧ w'.cell? ⟨w2.heap.size, 2, none⟩ = some (.slice Bs q.ds.length es') ∧ w'.cell? ⟨b1, o1 + i * 3, none⟩ = some (.bool r1.g) ∧ w'.cell? ⟨b1, o1 + i * 3 + 1, none⟩ = some (.slice A3 n3 c3) ∧ w'.cell? ⟨b1, o1 + i * 3 + 2, none⟩ = some (.slice B3 m3 d3) ∧ w'.cell? ⟨b2, o2 + i * 3, none⟩ = some (.bool r2.g) ∧ w'.cell? ⟨b2, o2 + i * 3 + 1, none⟩ = some (.slice A4 n4 c4) ∧ w'.cell? ⟨b2, o2 + i * 3 + 2, none⟩ = some (.slice B4 m4 d4) ∧ w'.cell? ⟨b3, o3 + i * 3, none⟩ = some (.bool r3.g) ∧ w'.cell? ⟨b3, o3 + i * 3 + 1, none⟩ = some (.slice A5 n5 c5) ∧ w'.cell? ⟨b3, o3 + i * 3 + 2, none⟩ = some (.slice B5 m5 d5))) 16 (by kernel_rfl) ?_ (fun hHeld => ?_)
      · (try dsimp only); (first | with_reducible exact atL12 C_9 | with_reducible exact atL12 C_8 | with_reducible exact atL12 C_7 | with_reducible exact atL12 C_6)
      refine wpAnyL_go (i := 0) (d := some 18) (v := ?_) (y := 15) [0] (by rfl) (by kernel_rfl) (fun _ _ _ h => h) (by assumption) ?_ ?_
      rotate_left 1
      · (intro oS hoS wS hSw; obtain rfl := Option.some.inj hoS; (try dsimp only at hSw); go_simp; try with_reducible rfl)
      (try simp only [Act.put, List.setIfInBounds_toArray])
      refine wpAnyL_go (i := 1) (d := some 19) (v := ?_) (y := 15) [14, 9, 4, 3, 1] (by rfl) (by kernel_rfl) (fun _ _ _ h => h) (by assumption) ?_ ?_
      rotate_left 1
      · (intro oS hoS wS hSw; obtain rfl := Option.some.inj hoS; (try dsimp only at hSw); go_simp; try with_reducible rfl)
      (try simp only [Act.put, List.setIfInBounds_toArray])
      refine wpAnyL_go (i := 2) (d := some 20) (v := ?_) (y := 15) [14, 9, 4, 3, 2] (by rfl) (by kernel_rfl) (fun _ _ _ h => h) (by assumption) ?_ ?_
      rotate_left 1
      · (intro oS hoS wS hSw; obtain rfl := Option.some.inj hoS; (try dsimp only at hSw); go_simp; try with_reducible rfl)
      (try simp only [Act.put, List.setIfInBounds_toArray])
      refine wpAnyL_go (i := 3) (d := some 21) (v := ?_) (y := 15) [14, 9, 4, 3] (by rfl) (by kernel_rfl) (fun _ _ _ h => h) (by assumption) ?_ ?_
      rotate_left 1
      · (intro oS hoS wS hSw; obtain rfl := Option.some.inj hoS; (try dsimp only at hSw); go_simp; try with_reducible rfl)
      (try simp only [Act.put, List.setIfInBounds_toArray])
      refine wpAnyL_go (i := 4) (d := some 22) (v := ?_) (y := 15) [14, 9, 4] (by rfl) (by kernel_rfl) (fun _ _ _ h => h) (by assumption) ?_ ?_
      rotate_left 1
      · (intro oS hoS wS hSw; obtain rfl := Option.some.inj hoS; (try dsimp only at hSw); go_simp; try with_reducible rfl)
      (try simp only [Act.put, List.setIfInBounds_toArray])
      refine wpAnyL_go (i := 5) (d := some 23) (v := ?_) (y := 15) [14, 9, 8, 7, 5] (by rfl) (by kernel_rfl) (fun _ _ _ h => h) (by assumption) ?_ ?_
      rotate_left 1
      · (intro oS hoS wS hSw; obtain rfl := Option.some.inj hoS; (try dsimp only at hSw); go_simp; try with_reducible rfl)
      (try simp only [Act.put, List.setIfInBounds_toArray])
      refine wpAnyL_go (i := 6) (d := some 24) (v := ?_) (y := 15) [14, 9, 8, 7, 6] (by rfl) (by kernel_rfl) (fun _ _ _ h => h) (by assumption) ?_ ?_
      rotate_left 1
      · (intro oS hoS wS hSw; obtain rfl := Option.some.inj hoS; (try dsimp only at hSw); go_simp; try with_reducible rfl)
      (try simp only [Act.put, List.setIfInBounds_toArray])
      refine wpAnyL_go (i := 7) (d := some 25) (v := ?_) (y := 15) [14, 9, 8, 7] (by rfl) (by kernel_rfl) (fun _ _ _ h => h) (by assumption) ?_ ?_
      rotate_left 1
      · (intro oS hoS wS hSw; obtain rfl := Option.some.inj hoS; (try dsimp only at hSw); go_simp; try with_reducible rfl)
      (try simp only [Act.put, List.setIfInBounds_toArray])
      refine wpAnyL_go (i := 8) (d := some 26) (v := ?_) (y := 15) [14, 9, 8] (by rfl) (by kernel_rfl) (fun _ _ _ h => h) (by assumption) ?_ ?_
      rotate_left 1
      · (intro oS hoS wS hSw; obtain rfl := Option.some.inj hoS; (try dsimp only at hSw); go_simp; try with_reducible rfl)
      (try simp only [Act.put, List.setIfInBounds_toArray])
      refine wpAnyL_go (i := 10) (d := some 28) (v := ?_) (y := 15) [14, 13, 12, 10] (by rfl) (by kernel_rfl) (fun _ _ _ h => h) (by assumption) ?_ ?_
      rotate_left 1
      · (intro oS hoS wS hSw; obtain rfl := Option.some.inj hoS; (try dsimp only at hSw); go_simp; try with_reducible rfl)
      (try simp only [Act.put, List.setIfInBounds_toArray])
      refine wpAnyL_go (i := 11) (d := some 29) (v := ?_) (y := 15) [14, 13, 12, 11] (by rfl) (by kernel_rfl) (fun _ _ _ h => h) (by assumption) ?_ ?_
      rotate_left 1
      · (intro oS hoS wS hSw; obtain rfl := Option.some.inj hoS; (try dsimp only at hSw); go_simp; try with_reducible rfl)
      (try simp only [Act.put, List.setIfInBounds_toArray])
      refine wpAnyL_go (i := 12) (d := some 30) (v := ?_) (y := 15) [14, 13, 12] (by rfl) (by kernel_rfl) (fun _ _ _ h => h) (by assumption) ?_ ?_
      rotate_left 1
      · (intro oS hoS wS hSw; obtain rfl := Option.some.inj hoS; (try dsimp only at hSw); go_simp; try with_reducible rfl)
      (try simp only [Act.put, List.setIfInBounds_toArray])
      refine wpAnyL_go (i := 13) (d := some 31) (v := ?_) (y := 15) [14, 13] (by rfl) (by kernel_rfl) (fun _ _ _ h => h) (by assumption) ?_ ?_
      rotate_left 1
      · (intro oS hoS wS hSw; obtain rfl := Option.some.inj hoS; (try dsimp only at hSw); go_simp; try with_reducible rfl)
      (try simp only [Act.put, List.setIfInBounds_toArray])
      refine wpAnyL_one 9 (by kernel_rfl) (by decide) rfl (fun KK hK => ?_)
      go_simp
      (go_at_call 168; (with_reducible refine (impl_ratMul0 r1.g A3 n3 c3 r1.xs B3 m3 d3 r1.ds r2.g A4 n4 c4 r2.xs B4 m4 d4 r2.ds _ I1.out RA1.out J1.out RB1.out I2.out RA2.out J2.out RB2.out).mono ?_); rintro e w7 ⟨gz, rz, vz, dz, uz, rfl, hq7, q1, q2, hap7, hb7⟩; obtain ⟨Az, cz, rfl⟩ := own_slice q1.2; obtain ⟨Bz, ez, rfl⟩ := own_slice q2.2; have HQ7 : Hid (RD.mk gz rz dz = rmul r1 r2) := rmul_of hq7; have HO7 := Lib.hid q1.2; have HU7 := Lib.hid q2.2; have GZ : Hid (GRat gz rz dz) := RD.gr (r := ⟨gz, rz, dz⟩) (by rw [HQ7.out]; exact rmul_good _ _); have hz1 : rz.length ≤ 24 := GZ.out.short.1; have hz2 : dz.length ≤ 24 := GZ.out.short.2; have S7 := Lib.hid (S6.out.below hb7); have B7' := Lib.hid (B6'.out.trans (hb7.mono B6'.out.size)); have I37 := Lib.hid (I3.out.below hb7); have J37 := Lib.hid (J3.out.below hb7); have C_7 := Lib.hid (C_6.out.below hb7); clear hq7 q1 q2 hap7 hb7)
      (try go_wp2_with fail)
      refine hK.out _ _ ?_ (fun hHeld => ?_)
      · (try dsimp only); (first | with_reducible exact atL12 C_9 | with_reducible exact atL12 C_8 | with_reducible exact atL12 C_7 | with_reducible exact atL12 C_6)
      clear hK KK
      (try simp only [Act.put, List.setIfInBounds_toArray])
      refine wpAnyL_one 14 (by kernel_rfl) (by decide) rfl (fun KK hK => ?_)
      go_simp
      (go_at_call 168; (with_reducible refine (impl_ratMul0 gz Az rz.length cz rz Bz dz.length ez dz r3.g A5 n5 c5 r3.xs B5 m5 d5 r3.ds _ (in_gr hz1 GZ.out.nr HO7.out) (room_own HO7.out) (in_gr hz2 GZ.out.dr HU7.out) (room_own HU7.out) I37.out RA3.out J37.out RB3.out).mono ?_); rintro e w8 ⟨gy, ry, vy, dy, uy, rfl, hq8, q1, q2, hap8, hb8⟩; obtain ⟨Ay, cy, rfl⟩ := own_slice q1.2; obtain ⟨By, ey, rfl⟩ := own_slice q2.2; have HQ8 : Hid (RD.mk gy ry dy = rmul (rmul r1 r2) r3) := (rmul_of (r := ⟨gz, rz, dz⟩) (s := r3) hq8).trans (by rw [HQ7.out]); have HO8 := Lib.hid q1.2; have HU8 := Lib.hid q2.2; have GY : Hid (GRat gy ry dy) := RD.gr (r := ⟨gy, ry, dy⟩) (by rw [HQ8.out]; exact rmul_good _ _); have hy1 : ry.length ≤ 24 := GY.out.short.1; have hy2 : dy.length ≤ 24 := GY.out.short.2; have S8 := Lib.hid (S7.out.below hb8); have B8' := Lib.hid (B7'.out.trans (hb8.mono B7'.out.size)); have C_8 := Lib.hid (C_7.out.below hb8); clear hq8 q1 q2 hap8 hb8)
      (try go_wp2_with fail)
      refine hK.out _ _ ?_ (fun hHeld => ?_)
      · (try dsimp only); (first | with_reducible exact atL12 C_9 | with_reducible exact atL12 C_8 | with_reducible exact atL12 C_7 | with_reducible exact atL12 C_6)
      clear hK KK
      (try simp only [Act.put, List.setIfInBounds_toArray])
      refine wpAnyL_one 15 (by kernel_rfl) (by decide) rfl (fun KK hK => ?_)
      go_simp
      (go_at_call 204; (with_reducible refine (impl_ratSub0 q.g As q.xs.length cs q.xs Bs q.ds.length es' q.ds gy Ay ry.length cy ry By dy.length ey dy _ (S8.out.in1 HG.out) S8.out.room1 (S8.out.in2 HG.out) S8.out.room2 (in_gr hy1 GY.out.nr HO8.out) (room_own HO8.out) (in_gr hy2 GY.out.dr HU8.out) (room_own HU8.out)).mono ?_); rintro e w9 ⟨g9, r9, v9, d9, u9, rfl, hq9, q1, q2, hap9, hb9⟩; obtain ⟨A9, c9, rfl⟩ := own_slice q1.2; obtain ⟨B9, f9, rfl⟩ := own_slice q2.2; have HQ9 : Hid (RD.mk g9 r9 d9 = restF ⟨g1, xs, es⟩ (seq sa) (seq sb) (seq sd) (i + 1)) := ((rsub_of (r := q) (s := ⟨gy, ry, dy⟩) hq9).trans (by rw [HQ8.out])).trans HS1.out.symm; have hst := sum_store (q := ⟨g9, r9, d9⟩) (W := W0) (base := w.heap.size) (S8.out.below hb9).1 rfl q1.2 q2.2 (by have := B8'.out.size; omega) hap9 (B8'.out.trans (hb9.mono B8'.out.size)) hb12; have HS9 := Lib.hid hst.1; have HB9 := Lib.hid hst.2; obtain ⟨fc0, fc1, fc2, fs0, fs1, fs2⟩ := (S8.out.below hb9).three; have C_9 := Lib.hid (C_8.out.below hb9); clear hq9 q1 q2 hap9 hb9 hst)
      (try go_wp2_with fail)
      refine hK.out _ _ ?_ (fun hHeld => ?_)
      · (try dsimp only); (first | with_reducible exact atL12 C_9 | with_reducible exact atL12 C_8 | with_reducible exact atL12 C_7 | with_reducible exact atL12 C_6)
      clear hK KK
      (try simp only [Act.put, List.setIfInBounds_toArray])
      refine wpAnyL_last (by kernel_rfl) rfl (fun KK hK => ?_)
      go_simp
      refine hK.out _ _ ?_
      clear hK KK
      (try simp only [Act.put, List.setIfInBounds_toArray])
      refine wpAnyL_done (by kernel_rfl) ?_ _
      all_goals
        go_wp2_with fail
        go_roundw
        case rel => exact ⟨i + 1, ⟨g9, r9, d9⟩, A9, c9, B9, f9, by omega, by go_num, HQ9, HS9, HB9⟩
        case measure => simp [intOf]; omega
    · obtain rfl : i = na := by omega
      have hs_5 := Lib.hid (hs_0.out.below hb.out hs_0.out.lt)
      have BW_5 := Lib.hid (BW_0.out.trans (hb.out.mono BW_0.out.size))
      have HQ : Hid (RD.mk q.g q.xs q.ds = restF ⟨g1, xs, es⟩ (seq sa) (seq sb) (seq sd) i) := heq.out
      have hsh := (RD.gr HG.out).short
      have hsh1 := hsh.1
      have hsh2 := hsh.2
      have ehs0 := hs_5.out.cell 0
      have ehs1 := hs_5.out.cell 1
      have ehs2 := hs_5.out.cell 2
      have fhs0 := hs_5.out.free 0
      have fhs1 := hs_5.out.free 1
      have fhs2 := hs_5.out.free 2
      simp at ehs0 ehs1 ehs2
      obtain ⟨es0, es1, es2, _, _, _⟩ := hsum.out.three
      have HSM := hsum
      clear hsum hsh
      go_wp2_with fail
      refine bodyPost_ret (v := .agg #[.bool q.g, .slice As q.xs.length cs, .slice Bs q.ds.length es']) (by simp [results, Tryz.results151, ehs0, ehs1, ehs2, go_sem]) rfl ?_
      exact ratEnd_store hs_5.out (by omega) BW_5.out HQ.out rfl rfl (by omega) (by omega) HSM.out.2.1 (Nat.le_refl _) HSM.out.2.2.1 (Nat.le_refl _) HSM.out.2.2.2
end Go.Proofs.YtdehcddjkcpnfaaGreat
