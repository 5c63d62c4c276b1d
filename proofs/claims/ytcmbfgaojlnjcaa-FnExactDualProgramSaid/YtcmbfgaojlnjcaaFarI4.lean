/- The program that searches for weights, by the program: weightProgram. -/
import Derived.Test.YtcmbfgaojlnjcaaFarI3
namespace Go.Proofs.Ytcmbfgaojlnjcaa
set_option maxRecDepth 100000
open Go.RowKit

/-- The row of a column and an element s. -/
theorem frow_set {K : Nat} {la : List Int} {P j : Nat} (h : Ent la) : (lcol K la P j ++ wneg (lcol K la P j) ++ List.replicate K 0).set (2 * P + j) (-1) = frow K la P j := by
  rw [wneg_ent (ent_lcol h), frow, iunit]
  have hl : (lcol K la P j ++ ineg (lcol K la P j)).length = 2 * P := by rw [List.length_append, ineg_length, lcol_length]; omega
  rw [List.set_append_right _ _ (by omega), hl, Nat.add_sub_cancel_left]
set_option maxHeartbeats 6400000 in
theorem impl_weightProgram (P K : Nat) (A : Option Addr) (n c : Nat) (la : List Int) (B : Option Addr) (m d : Nat) (C : Option Addr) (l f : Nat) (X : Option Addr) (nx cx : Nat) (xs : List Int) (w : World) (hA : InI w A n la) (h : InI w X nx xs) (hl : n = P * K) (hP : P ≤ 9) (hK : K ≤ 16) (he : Ent la) (hnc : n ≤ c) (hnx : nx ≤ 1024) :
    Calls Try.prog 113 #[.agg #[.int .i64 P, .int .i64 K, .slice A n c, .slice B m d, .slice C l f], .slice X nx cx] w fun e w' => ToPEnd K (2 * P + K) (frows K la P K).length (frows K la P K) nx xs (2 * P + K) (List.replicate (2 * P + K) 0) w w' e := by
  obtain ⟨i0, hi, hz0, hz1, hz2⟩ := info_parts Try.infoI
  obtain ⟨j0, hj', hy0, hy1, hy2⟩ := info_parts Try.infoLP
  obtain ⟨W0, hW0⟩ : ∃ W, W = ((w.alloc (.cells #[.int .i64 P, .int .i64 K, .slice A n c, .slice B m d, .slice C l f] 102)).alloc (.cells #[.int .i64 0, .int .i64 0, .slice none 0 0, .slice none 0 0, .slice none 0 0] 26)) := ⟨_, rfl⟩
  have hp0_0 : Hid (Box W0 (w.heap.size) 102 #[.int .i64 P, .int .i64 K, .slice A n c, .slice B m d, .slice C l f]) := by rw [hW0]; exact ((Box.at' (by simp)).alloc _)
  have hpr_0 : Hid (Box W0 (w.heap.size + 1) 26 #[.int .i64 0, .int .i64 0, .slice none 0 0, .slice none 0 0, .slice none 0 0]) := by rw [hW0]; exact (Box.at' (by simp))
  have BW_0 : Hid (Below w.heap.size w W0) := by rw [hW0]; exact (((Below.refl w.heap.size w).alloc (by simp) _).alloc (by simp) _)
  have hsz0 : w.heap.size + 1 + 1 ≤ W0.heap.size := by rw [hW0]; simp
  have HI := Lib.hid (hA.below BW_0.out)
  have HX := Lib.hid (h.below BW_0.out)
  have HXL : Hid (xs.length = nx) := h.1
  have hnxM : nx ≤ 1048576 := by omega
  have HL := Lib.hid hl
  have HE := Lib.hid he
  have hwp1 : IntKind.i64.wrap (2 * (P : Int)) = 2 * (P : Int) := by rw [IntKind.wrap_i64]; omega
  have hwp2 : IntKind.i64.wrap (2 * (P : Int) + (K : Int)) = 2 * (P : Int) + (K : Int) := by rw [IntKind.wrap_i64]; omega
  clear hA h hl he
  go_enter Try.func113, Try.ntmps113
  go_upto_region 1 with fail
  rw [← hW0]
  clear hW0
  go_cut [5] (fun s5 wx => ∃ (g : Nat) (B1 : Option Addr) (c2 : Nat), s5 = .pointer (some ⟨g, 0, none⟩) ∧ W0.heap.size ≤ g ∧ PM W0.heap.size wx g K (2 * P + K) none 0 0 [] B1 nx c2 xs none 0 0 [] ∧ Below W0.heap.size W0 wx)
  case first =>
    have BD : Hid (Below W0.heap.size W0 W0.drew) := (Below.refl _ _).drew
    have XB := Lib.hid hp0_0.out.drew
    have XI : Hid (InI W0.drew X nx xs) := HX.out.below (Below.refl _ _).drew
    have hw1 : w.heap.size + 1 < W0.heap.size := hpr_0.out.lt
    clear hp0_0 HI HX hpr_0 BW_0
    refine wp_region_held_drew (S := (fun w' => w'.cell? ⟨w.heap.size, 0, none⟩ = some (.int .i64 P) ∧ w'.cell? ⟨w.heap.size, 1, none⟩ = some (.int .i64 K) ∧ w'.cell? ⟨w.heap.size, 2, none⟩ = some (.slice A n c) ∧ w'.cell? ⟨w.heap.size, 3, none⟩ = some (.slice B m d) ∧ w'.cell? ⟨w.heap.size, 4, none⟩ = some (.slice C l f))) (by kernel_rfl) ?_ (fun hHeld => ?_)
    · (try dsimp only); (first | with_reducible exact box5 XZ | with_reducible exact box5 XB | with_reducible exact box5_far XZ hnb)
    refine wpAnyH_go (i := 0) (d := some 8) (v := ?_) (by rfl) (by kernel_rfl) (by kernel_rfl) (by kernel_rfl) (fun _ _ _ h => h) (by assumption) ?_ ?_
    rotate_left 1
    · (intro oS hoS wS hSw; obtain rfl := Option.some.inj hoS; (try dsimp only at hSw); go_simp; try with_reducible rfl)
    (try simp only [Act.put, List.setIfInBounds_toArray, List.set_cons_zero, List.set_cons_succ])
    refine wpAnyH_go (i := 1) (d := some 9) (v := ?_) (by rfl) (by kernel_rfl) (by kernel_rfl) (by kernel_rfl) (fun _ _ _ h => h) (by assumption) ?_ ?_
    rotate_left 1
    · (intro oS hoS wS hSw; obtain rfl := Option.some.inj hoS; (try dsimp only at hSw); go_simp; try with_reducible rfl)
    (try simp only [Act.put, List.setIfInBounds_toArray, List.set_cons_zero, List.set_cons_succ])
    refine wpAnyH_go (i := 2) (d := some 10) (v := ?_) (by rfl) (by kernel_rfl) (by kernel_rfl) (by kernel_rfl) (fun _ _ _ h => h) (by assumption) ?_ ?_
    rotate_left 1
    · (intro oS hoS wS hSw; obtain rfl := Option.some.inj hoS; (try dsimp only at hSw); go_simp; try with_reducible rfl)
    (try simp only [Act.put, List.setIfInBounds_toArray, List.set_cons_zero, List.set_cons_succ])
    refine wpAnyH_go (i := 3) (d := some 11) (v := ?_) (by rfl) (by kernel_rfl) (by kernel_rfl) (by kernel_rfl) (fun _ _ _ h => h) (by assumption) ?_ ?_
    rotate_left 1
    · (intro oS hoS wS hSw; obtain rfl := Option.some.inj hoS; (try dsimp only at hSw); go_simp; try with_reducible rfl)
    (try simp only [Act.put, List.setIfInBounds_toArray, List.set_cons_zero, List.set_cons_succ])
    refine wpAnyH_go (i := 4) (d := some 12) (v := ?_) (by rfl) (by kernel_rfl) (by kernel_rfl) (by kernel_rfl) (fun _ _ _ h => h) (by assumption) ?_ ?_
    rotate_left 1
    · (intro oS hoS wS hSw; obtain rfl := Option.some.inj hoS; (try dsimp only at hSw); go_simp; try with_reducible rfl)
    (try simp only [Act.put, List.setIfInBounds_toArray, List.set_cons_zero, List.set_cons_succ])
    refine wpAnyH_go (i := 5) (d := some 13) (v := ?_) (by rfl) (by kernel_rfl) (by kernel_rfl) (by kernel_rfl) (fun _ _ _ h => h) (by assumption) ?_ ?_
    rotate_left 1
    · (intro oS hoS wS hSw; obtain rfl := Option.some.inj hoS; (try dsimp only at hSw); go_simp; try with_reducible rfl)
    (try simp only [Act.put, List.setIfInBounds_toArray, List.set_cons_zero, List.set_cons_succ])
    refine wpAnyH_go (i := 6) (d := some 14) (v := ?_) (by rfl) (by kernel_rfl) (by kernel_rfl) (by kernel_rfl) (fun _ _ _ h => h) (by assumption) ?_ ?_
    rotate_left 1
    · (intro oS hoS wS hSw; obtain rfl := Option.some.inj hoS; (try dsimp only at hSw); go_simp; try with_reducible rfl)
    (try simp only [Act.put, List.setIfInBounds_toArray, List.set_cons_zero, List.set_cons_succ])
    refine wpAnyH_go (i := 7) (d := some 15) (v := ?_) (by rfl) (by kernel_rfl) (by kernel_rfl) (by kernel_rfl) (fun _ _ _ h => h) (by assumption) ?_ ?_
    rotate_left 1
    · (intro oS hoS wS hSw; obtain rfl := Option.some.inj hoS; (try dsimp only at hSw); go_simp; try with_reducible rfl)
    (try simp only [Act.put, List.setIfInBounds_toArray, List.set_cons_zero, List.set_cons_succ])
    refine wpAnyH_go (i := 8) (d := some 16) (v := ?_) (by rfl) (by kernel_rfl) (by kernel_rfl) (by kernel_rfl) (fun _ _ _ h => h) (by assumption) ?_ ?_
    rotate_left 1
    · (intro oS hoS wS hSw; obtain rfl := Option.some.inj hoS; (try dsimp only at hSw); go_simp; try with_reducible rfl)
    (try simp only [Act.put, List.setIfInBounds_toArray, List.set_cons_zero, List.set_cons_succ])
    refine wpAnyH_go (i := 9) (d := some 17) (v := ?_) (by rfl) (by kernel_rfl) (by kernel_rfl) (by kernel_rfl) (fun _ _ _ h => h) (by assumption) ?_ ?_
    rotate_left 1
    · (intro oS hoS wS hSw; obtain rfl := Option.some.inj hoS; (try dsimp only at hSw); go_simp; try with_reducible rfl)
    (try simp only [Act.put, List.setIfInBounds_toArray, List.set_cons_zero, List.set_cons_succ])
    refine wpAnyH_go (i := 10) (d := some 18) (v := ?_) (by rfl) (by kernel_rfl) (by kernel_rfl) (by kernel_rfl) (fun _ _ _ h => h) (by assumption) ?_ ?_
    rotate_left 1
    · (intro oS hoS wS hSw; obtain rfl := Option.some.inj hoS; (try dsimp only at hSw); go_simp; try with_reducible rfl)
    (try simp only [Act.put, List.setIfInBounds_toArray, List.set_cons_zero, List.set_cons_succ])
    refine wpAnyH_go (i := 11) (d := some 19) (v := ?_) (by rfl) (by kernel_rfl) (by kernel_rfl) (by kernel_rfl) (fun _ _ _ h => h) (by assumption) ?_ ?_
    rotate_left 1
    · (intro oS hoS wS hSw; obtain rfl := Option.some.inj hoS; (try dsimp only at hSw); go_simp; try with_reducible rfl)
    (try simp only [Act.put, List.setIfInBounds_toArray, List.set_cons_zero, List.set_cons_succ])
    refine wpAnyH_makers (fuel := 2) 2 [12, 14] [20, 5] [0] (fun j => match j with | 0 => RRow nx (xs.map (.int .i64)) | _ => RBox 26 (Value.cells (.agg #[.int .i64 0, .int .i64 0, .slice none 0 0, .slice none 0 0, .slice none 0 0]))) (by kernel_rfl) (by kernel_rfl) (fun w1 hb1 => box5 (Lib.hid (XB.out.below hb1 XB.out.lt))) ?_ ?_ ?_
    · intro j hj lo hi v w1 w2 h1 h2 h3
      match j, hj with
      | 0, _ => exact RRow.keep h1 h3
      | 1, _ => exact RBox.keep h1 h3
    · intro j hj
      match j, hj with
      | 0, _ =>
        intro oS hoS Y wy hby K' hK
        simp only [List.getD_cons_zero, List.getElem?_toArray, List.getElem?_cons_zero, List.getElem?_cons_succ, Option.some.injEq] at hoS
        subst hoS
        refine step_call1_at rfl 115 Try.func115 (by kernel_rfl) (.tmp 19) _ rfl (.slice X nx cx) ((actB_off (by kernel_rfl)).trans rfl) ?_
        refine (clone_any X nx cx xs _ HXL.out hnxM (XI.out.below hby).2.2.1).mono ?_
        rintro e wv ⟨v, rfl, ho, hb⟩
        rw [HXL.out] at ho
        exact ⟨v, rfl, hK.out _ _ hb (RRow.of ho)⟩
      | 1, _ =>
        intro oS hoS Y wy hby K' hK
        simp only [List.getD_cons_zero, List.getD_cons_succ, List.getElem?_toArray, List.getElem?_cons_zero, List.getElem?_cons_succ, Option.some.injEq] at hoS
        subst hoS
        exact need_alloc rfl 26 rfl j0 _ hj' hy0 fun v wv hbv hro => hK.out _ _ hbv hro
    · intro D Y LO HI wz hstop hbz hres hdis
      simp only [stopB, List.all_cons, List.all_nil, Bool.and_true] at hstop
      have hdone0 := hstop
      have hr0 := hres 0 (by decide) hdone0
      cases hdone1 : D 1
      case true =>
        simp only [leftB, lstB, hdone0, hdone1, if_true, List.getD_cons_zero, List.getD_cons_succ]
        simp only [actB, List.getD_cons_zero, List.getD_cons_succ, Act.put, List.setIfInBounds_toArray, List.set_cons_zero, List.set_cons_succ]
        have hr1 := hres 1 (by decide) hdone1
        have hd01 := hdis 0 1 (by decide) (by decide) (by decide) hdone0 hdone1
        generalize Y 0 = y0 at hr0 ⊢
        generalize Y 1 = y1 at hr1 ⊢
        clear hres hdis
        obtain ⟨hA, hA1, hA2, hA3⟩ := hr0
        have hA0 := hA.1
        obtain ⟨B1, c2, rfl⟩ := own_slice hA0
        have OA := Lib.hid (own_base hA0 hA1)
        have BD' := Lib.hid (BD.out.trans (hbz.mono BD.out.size))
        have XZ := Lib.hid (XB.out.below hbz XB.out.lt)
        have hHeld := box5 XZ
        clear hA hA0 hA1 hA2 hA3 hd01 hbz
        obtain ⟨⟨g, rfl, hg1, hg2, hN⟩, hN1, hN2, hN3⟩ := hr1
        have NN := Lib.hid hN
        have hg0 : W0.heap.size ≤ g := Nat.le_trans hN1 hg1
        have hnb : w.heap.size ≠ g := by omega
        clear hN hN1 hN2 hN3 hg1 hg2
        refine wpAnyH_go (i := 13) (d := some 21) (v := ?_) (by rfl) (by kernel_rfl) (by kernel_rfl) (by kernel_rfl) (fun _ _ _ h => h) (by assumption) ?_ ?_
        rotate_left 1
        · (intro oS hoS wS hSw; obtain rfl := Option.some.inj hoS; (try dsimp only at hSw); go_simp; try with_reducible rfl)
        (try simp only [Act.put, List.setIfInBounds_toArray])
        have eN0 := NN.out.cell 0
        have eN1 := NN.out.cell 1
        have eN2 := NN.out.cell 2
        have eN3 := NN.out.cell 3
        have eN4 := NN.out.cell 4
        simp [Value.cells] at eN0 eN1 eN2 eN3 eN4
        have fN0 := NN.out.free 0
        have fN1 := NN.out.free 1
        have fN2 := NN.out.free 2
        have fN3 := NN.out.free 3
        have fN4 := NN.out.free 4
        refine wpAnyH_ready (rs := [15]) (by kernel_rfl) (by simp) ?_
        refine AllReadyH.cons rfl (fun KK hK => ?_) AllReadyH.nil
        go_simp
        refine hK.out _ _ ?_ (fun hHeld => ?_)
        · (try dsimp only); (first | with_reducible exact box5 XZ | with_reducible exact box5 XB | with_reducible exact box5_far XZ hnb)
        clear hK KK
        (try simp only [Act.put, List.setIfInBounds_toArray])
        refine wpAnyH_done (by kernel_rfl) ?_ _
        go_wp2_with fail
        go_meet
        exact ⟨g, B1, c2, rfl, hg0, pm_store5 (la := []) (lc := []) NN.out ⟨World.ownsRow_nil _ _ _ _, OA.out, World.ownsRow_nil _ _ _ _, (fun k hk hk' => by cases hk'), (fun k hk => by cases hk), (fun k hk => by cases hk)⟩ _ _, below_store5 BD'.out hg0 _ _ _ _ _⟩
      case false =>
        simp only [leftB, lstB, hdone0, hdone1, if_true, if_false, Bool.false_eq_true, List.getD_cons_zero, List.getD_cons_succ]
        simp only [actB, List.getD_cons_zero, List.getD_cons_succ, Act.put, List.setIfInBounds_toArray, List.set_cons_zero, List.set_cons_succ]
        generalize Y 0 = y0 at hr0 ⊢
        generalize Y 1 = y1 at ⊢
        clear hres hdis
        obtain ⟨hA, hA1, hA2, hA3⟩ := hr0
        have hA0 := hA.1
        obtain ⟨B1, c2, rfl⟩ := own_slice hA0
        have OA := Lib.hid (own_base hA0 hA1)
        have BD' := Lib.hid (BD.out.trans (hbz.mono BD.out.size))
        have XZ := Lib.hid (XB.out.below hbz XB.out.lt)
        have hHeld := box5 XZ
        clear hA hA0 hA1 hA2 hA3 hbz
        refine wpAnyH_go (i := 13) (d := some 21) (v := ?_) (by rfl) (by kernel_rfl) (by kernel_rfl) (by kernel_rfl) (fun _ _ _ h => h) (by assumption) ?_ ?_
        rotate_left 1
        · (intro oS hoS wS hSw; obtain rfl := Option.some.inj hoS; (try dsimp only at hSw); go_simp; try with_reducible rfl)
        (try simp only [Act.put, List.setIfInBounds_toArray])
        refine wpAnyH_ready (rs := [14]) (by kernel_rfl) (by simp) ?_
        refine AllReadyH.cons rfl (fun K' hK => ?_) AllReadyH.nil
        go_simp
        obtain ⟨wN, hwN⟩ : ∃ W, W = wz.alloc (.cells #[.int .i64 0, .int .i64 0, .slice none 0 0, .slice none 0 0, .slice none 0 0] 26) := ⟨_, rfl⟩
        obtain ⟨g, hg⟩ : ∃ g, g = wz.heap.size := ⟨_, rfl⟩
        have hb : Below wz.heap.size wz wN := by rw [hwN]; exact (Below.refl _ _).alloc (Nat.le_refl _) _
        have NB : Box wN g 26 #[.int .i64 0, .int .i64 0, .slice none 0 0, .slice none 0 0, .slice none 0 0] := by rw [hwN, hg]; exact Box.new _ _ _
        have hg1 : wz.heap.size ≤ g := by omega
        rw [← hwN, ← hg]
        clear hwN hg
        have hg0 : W0.heap.size ≤ g := Nat.le_trans BD'.out.size hg1
        have hnb : w.heap.size ≠ g := by omega
        have NN := Lib.hid NB
        replace XZ := Lib.hid (XZ.out.below hb XZ.out.lt)
        replace OA := Lib.hid (own_below OA.out hb)
        replace BD' := Lib.hid (BD'.out.trans (hb.mono BD'.out.size))
        clear hg1 NB hb
        refine hK.out _ _ ?_ (fun hHeld => ?_)
        · (try dsimp only); (first | with_reducible exact box5 XZ | with_reducible exact box5 XB | with_reducible exact box5_far XZ hnb)
        clear hK K'
        (try simp only [Act.put, List.setIfInBounds_toArray, List.set_cons_zero, List.set_cons_succ])
        have eN0 := NN.out.cell 0
        have eN1 := NN.out.cell 1
        have eN2 := NN.out.cell 2
        have eN3 := NN.out.cell 3
        have eN4 := NN.out.cell 4
        simp at eN0 eN1 eN2 eN3 eN4
        have fN0 := NN.out.free 0
        have fN1 := NN.out.free 1
        have fN2 := NN.out.free 2
        have fN3 := NN.out.free 3
        have fN4 := NN.out.free 4
        refine wpAnyH_ready (rs := [15]) (by kernel_rfl) (by simp) ?_
        refine AllReadyH.cons rfl (fun KK hK => ?_) AllReadyH.nil
        go_simp
        refine hK.out _ _ ?_ (fun hHeld => ?_)
        · (try dsimp only); (first | with_reducible exact box5 XZ | with_reducible exact box5 XB | with_reducible exact box5_far XZ hnb)
        clear hK KK
        (try simp only [Act.put, List.setIfInBounds_toArray])
        refine wpAnyH_done (by kernel_rfl) ?_ _
        go_wp2_with fail
        go_meet
        exact ⟨g, B1, c2, rfl, hg0, pm_store5 (la := []) (lc := []) NN.out ⟨World.ownsRow_nil _ _ _ _, OA.out, World.ownsRow_nil _ _ _ _, (fun k hk hk' => by cases hk'), (fun k hk => by cases hk), (fun k hk => by cases hk)⟩ _ _, below_store5 BD'.out hg0 _ _ _ _ _⟩
  obtain ⟨g, B1, c2, rfl, hg0, hpm, hbw⟩ := hcut
  obtain ⟨wx, rfl⟩ : ∃ q, q = wc := ⟨_, rfl⟩
  have hw1 : w.heap.size + 1 < W0.heap.size := hpr_0.out.lt
  have hngp : w.heap.size ≠ g := by omega
  have hngr : w.heap.size + 1 ≠ g := by omega
  have P1 := Lib.hid hpm
  have B3 := Lib.hid hbw
  have q1 := (hp0_0.out.below hbw hp0_0.out.lt).cell 1
  simp at q1
  clear hpm hbw
  go_wp2_with fail
  clear q1
  go_loopw [25] (fun y wr => ∃ (j N : Nat) (A4 : Option Addr) (c5 : Nat), j ≤ K ∧ y = .int .i64 j ∧ N ≤ 544 ∧ Hid (PM W0.heap.size wr g K (2 * P + K) A4 N c5 (frows K la P j) B1 nx c2 xs none 0 0 []) ∧ Hid (Below W0.heap.size W0 wr)) (fun y _ => K - (intOf y).toNat)
  case atStart => exact ⟨0, 0, none, 0, Nat.zero_le _, rfl, by omega, P1, B3⟩
  case round =>
    clear P1 B3
    obtain ⟨j, N, A4, c5, hjK, rfl, hN, hpm, hb⟩ := hrel
    obtain ⟨wi, rfl⟩ : ∃ wi : World, wi = wr := ⟨_, rfl⟩
    have hsi : W0.heap.size ≤ wi.heap.size := hb.out.size
    by_cases hlt : j < K
    · have hj1 : (j : Int) < (K : Int) := by omega
      obtain ⟨i, hi2⟩ : ∃ i, i = 2 * P + j := ⟨_, rfl⟩
      have hwp3 : IntKind.i64.wrap (2 * (P : Int) + (j : Int)) = (i : Int) := by rw [IntKind.wrap_i64]; omega
      have hi0 : (0 : Int) ≤ (i : Int) := by omega
      have hi1 : (i : Int) < (P : Int) + (P : Int) + (K : Int) := by omega
      have HI2 := Lib.hid hi2
      clear hi2
      go_upto_region 5 with fail
      have PD := Lib.hid (hpm.out.below (Below.refl _ _).drew)
      have BD : Hid (Below W0.heap.size W0 wi.drew) := hb.out.drew
      have XB := Lib.hid (hp0_0.out.below BD.out hp0_0.out.lt)
      have XI := Lib.hid (HI.out.below BD.out)
      clear hpm hb
      refine wp_region_held_drew (S := (fun w' => w'.cell? ⟨w.heap.size, 0, none⟩ = some (.int .i64 P) ∧ w'.cell? ⟨w.heap.size, 1, none⟩ = some (.int .i64 K) ∧ w'.cell? ⟨w.heap.size, 2, none⟩ = some (.slice A n c) ∧ w'.cell? ⟨w.heap.size, 3, none⟩ = some (.slice B m d) ∧ w'.cell? ⟨w.heap.size, 4, none⟩ = some (.slice C l f))) (by kernel_rfl) ?_ (fun hHeld => ?_)
      · (try dsimp only); (first | with_reducible exact box5 XF | with_reducible exact box5 XL | with_reducible exact box5 XB)
      refine wpAnyH_go (i := 0) (d := some 28) (v := ?_) (by rfl) (by kernel_rfl) (by kernel_rfl) (by kernel_rfl) (fun _ _ _ h => h) (by assumption) ?_ ?_
      rotate_left 1
      · (intro oS hoS wS hSw; obtain rfl := Option.some.inj hoS; (try dsimp only at hSw); go_simp; try with_reducible rfl)
      (try simp only [Act.put, List.setIfInBounds_toArray])
      refine wpAnyH_go (i := 1) (d := some 29) (v := ?_) (by rfl) (by kernel_rfl) (by kernel_rfl) (by kernel_rfl) (fun _ _ _ h => h) (by assumption) ?_ ?_
      rotate_left 1
      · (intro oS hoS wS hSw; obtain rfl := Option.some.inj hoS; (try dsimp only at hSw); go_simp; try with_reducible rfl)
      (try simp only [Act.put, List.setIfInBounds_toArray])
      refine wpAnyH_go (i := 2) (d := some 30) (v := ?_) (by rfl) (by kernel_rfl) (by kernel_rfl) (by kernel_rfl) (fun _ _ _ h => h) (by assumption) ?_ ?_
      rotate_left 1
      · (intro oS hoS wS hSw; obtain rfl := Option.some.inj hoS; (try dsimp only at hSw); go_simp; try with_reducible rfl)
      (try simp only [Act.put, List.setIfInBounds_toArray])
      refine wpAnyH_go (i := 3) (d := some 31) (v := ?_) (by rfl) (by kernel_rfl) (by kernel_rfl) (by kernel_rfl) (fun _ _ _ h => h) (by assumption) ?_ ?_
      rotate_left 1
      · (intro oS hoS wS hSw; obtain rfl := Option.some.inj hoS; (try dsimp only at hSw); go_simp; try with_reducible rfl)
      (try simp only [Act.put, List.setIfInBounds_toArray])
      refine wpAnyH_ready (rs := [4]) (by kernel_rfl) (by simp) ?_
      refine AllReadyH.cons rfl (fun KK hK => ?_) AllReadyH.nil
      go_simp
      refine (impl_column P K j A n c la _ XI.out HL.out hlt (by omega) (by omega) hnc).mono ?_
      rintro e w2 ⟨v2, rfl, ⟨_, hv2⟩, hb2⟩
      rw [lcol_length] at hv2
      obtain ⟨A2, c2', rfl⟩ := own_slice hv2
      obtain ⟨zs, hzs⟩ : ∃ zs, zs = lcol K la P j := ⟨_, rfl⟩
      have HZ := Lib.hid hzs
      have HZL : Hid (zs.length = P) := by rw [hzs]; exact lcol_length _ _ _ _
      have HZE : Hid (Ent zs) := by rw [hzs]; exact ent_lcol HE.out
      rw [← hzs] at hv2
      have XL := Lib.hid (XB.out.below hb2 XB.out.lt)
      have P2 := Lib.hid (PD.out.below hb2)
      have B2 := Lib.hid (BD.out.trans (hb2.mono BD.out.size))
      have XV : Hid (InI w2 A2 P zs) := ⟨HZL.out, by omega, Reads.of_own hv2, HZE.out.i64⟩
      clear hv2 hb2 hzs PD BD
      (try go_wp2_with fail)
      refine hK.out _ _ ?_ (fun hHeld => ?_)
      · (try dsimp only); (first | with_reducible exact box5 XF | with_reducible exact box5 XL | with_reducible exact box5 XB)
      clear hK KK
      (try simp only [Act.put, List.setIfInBounds_toArray])
      refine wpAnyH_ready (rs := [5]) (by kernel_rfl) (by simp) ?_
      refine AllReadyH.cons rfl (fun KK hK => ?_) AllReadyH.nil
      go_simp
      refine (impl_weighted (P : Int) K A n c B m d C l f A2 P c2' zs _ XV.out (by omega) (by omega)).mono ?_
      rintro e w3 ⟨v3, rfl, ⟨_, hv3⟩, hb3⟩
      have hwl3 : (zs ++ wneg zs ++ List.replicate K (0 : Int)).length = P + P + K := by rw [List.length_append, List.length_append, wneg_length, List.length_replicate, HZL.out]
      rw [hwl3] at hv3
      clear hwl3
      obtain ⟨gr, cap, rfl, hgr⟩ : ∃ gr cap, v3 = .slice (some ⟨gr, 0, none⟩) (P + P + K) cap ∧ w2.heap.size ≤ gr := by
        rcases hv3.2 with ⟨_, h1⟩ | ⟨gr, cap, cur, h1, h2, _⟩
        · exact absurd h1 (by omega)
        · exact ⟨gr, cap, h1, h2⟩
      have XF := Lib.hid (XL.out.below hb3 XL.out.lt)
      have O3 := Lib.hid hv3
      have HB3 := Lib.hid hb3
      clear hv3 hb3
      (try go_wp2_with fail)
      refine hK.out _ _ ?_ (fun hHeld => ?_)
      · (try dsimp only); (first | with_reducible exact box5 XF | with_reducible exact box5 XL | with_reducible exact box5 XB)
      clear hK KK
      (try simp only [Act.put, List.setIfInBounds_toArray])
      refine wpAnyH_ready (rs := [6]) (by kernel_rfl) (by simp) ?_
      refine AllReadyH.cons rfl (fun KK hK => ?_) AllReadyH.nil
      go_simp
      refine hK.out _ _ ?_ (fun hHeld => ?_)
      · (try dsimp only); (first | with_reducible exact box5 XF | with_reducible exact box5 XL | with_reducible exact box5 XB)
      clear hK KK
      (try simp only [Act.put, List.setIfInBounds_toArray])
      refine wpAnyH_done (by kernel_rfl) ?_ _
      have hil : i < P + P + K := by have := HI2.out; omega
      have hfr := O3.out.frozenAt i
      have hcl := O3.out.cellAt i (by omega)
      obtain ⟨old, hold⟩ : ∃ old, w3.cell? ⟨gr, i, none⟩ = some old := by
        rw [List.getElem?_eq_getElem (by simp [wneg_length, HZL.out]; omega)] at hcl
        exact ⟨_, hcl⟩
      have hst := (O3.out.stored i (.int .i64 (-1))).1
      have hset : ((zs ++ wneg zs ++ List.replicate K (0 : Int)).map (Value.int .i64)).set i (.int .i64 (-1)) = (frow K la P j).map (.int .i64) := by
        rw [← frow_set HE.out, ← HZ.out, List.map_set, HI2.out]
      rw [hset] at hst
      have hlt4 : Below w2.heap.size w2 (w3.setCell ⟨gr, i, none⟩ (.int .i64 (-1))) := HB3.out.setCell hgr _
      have O4 := Lib.hid hst
      have P4 := Lib.hid (P2.out.below hlt4)
      have B4 := Lib.hid (B2.out.trans (hlt4.mono B2.out.size))
      have q0 := XF.out.cell 0
      simp at q0
      clear hst hset hlt4 hcl O3 HB3 P2 B2 XL XB XI XV
      go_upto_region 7 with fail
      clear hfr hold old q0
      obtain ⟨w4, hw4⟩ : ∃ W, W = w3.setCell ⟨gr, i, none⟩ (.int .i64 (-1)) := ⟨_, rfl⟩
      rw [← hw4] at P4 B4 O4 ⊢
      clear hw4
      have hs4 : W0.heap.size ≤ w4.heap.size := B4.out.size
      have q2 := P4.out.box.cell 2
      simp at q2
      go_wp2_with (at_builtin; refine wpList_append_reads_at rfl _ _ 22 rfl W0.heap.size 3 i0 (.int .i64 0) 8 Try.underlying22 hi hz0 hz1 hz2 rfl _ _ _ rfl P4.out.own.1 (some ⟨gr, 0, none⟩) (P + P + K) cap ((frow K la P j).map (.int .i64)) rfl (by rw [List.length_map]; exact frow_length _ _ _ _) (Reads.of_own O4.out) (by simp [Value.oneCell']) (by unfold maxLen; omega) (by omega) hs4 ?_)
      intro v5 w5 hown hg hat
      obtain ⟨A6, c6, rfl⟩ := own_slice hown
      have hb5 := P4.out.box.grown hg P4.out.ne.1
      have P5 : Hid (PM W0.heap.size (w5.setCell ⟨g, 2, none⟩ (.slice A6 (N + (P + P + K)) c6)) g K (2 * P + K) A6 (N + (P + P + K)) c6 (frows K la P (j + 1)) B1 nx c2 xs none 0 0 []) := P4.out.setA (by rw [frows, List.map_append]; exact hown) hg hat
      have B5 : Hid (Below W0.heap.size W0 (w5.setCell ⟨g, 2, none⟩ (.slice A6 (N + (P + P + K)) c6))) := ((B4.out.grown hg hs4 (fun k hk => (P4.out.own.1.lt k hk).1)).setCell hg0 _)
      have hN5 : N + (P + P + K) ≤ 544 := by have h1 := own_len' P5.out.own.1; have h2 := frows_le (K := K) (P := P) (j := j + 1) (la := la) (by omega) hP hK; omega
      have q2 := hb5.cell 2
      have q2f := hb5.free 2
      simp at q2
      clear hown hg hat hb5 P4 B4 O4
      go_wp2_with fail
      go_roundw
      case rel => exact ⟨j + 1, N + (P + P + K), A6, c6, by omega, by go_num, hN5, P5, B5⟩
      case measure => simp [intOf]; omega
    · obtain rfl : j = K := by omega
      have hjj : ¬ ((j : Int) < (j : Int)) := by omega
      have HNN : Hid (N = (frows j la P j).length) := (own_len' hpm.out.own.1).symm
      have q1 := hpm.out.box.cell 1
      simp at q1
      go_wp2_with (refine wpList_make_full _ rfl _ _ 22 rfl W0.heap.size 3 i0 (.int .i64 0) 1 Try.underlying22 hi hz0 hz1 _ _ _ _ (2 * P + j) rfl rfl rfl rfl ?c1 ?c2 ?c3 ?_)
      case c1 => omega
      case c2 => unfold maxLen; omega
      intro w5 ho hg
      rw [show (madeCells #[Value.int IntKind.i64 0] (2 * P + j)).toList = (List.replicate (2 * P + j) (0 : Int)).map (.int .i64) from by rw [← made_zeros' (2 * P + j), Nat.mul_one]; rfl] at ho
      have hb5 := hpm.out.box.grown hg hpm.out.ne.2.2
      have P8 : Hid (PM W0.heap.size (w5.setCell ⟨g, 4, none⟩ (.slice (some ⟨wi.heap.size, 0, none⟩) (2 * P + j) (2 * P + j))) g j (2 * P + j) A4 N c5 (frows j la P j) B1 nx c2 xs (some ⟨wi.heap.size, 0, none⟩) (2 * P + j) (2 * P + j) (List.replicate (2 * P + j) 0)) := hpm.out.setC ho hg (.inr rfl)
      have B8 : Hid (Below W0.heap.size W0 (w5.setCell ⟨g, 4, none⟩ (.slice (some ⟨wi.heap.size, 0, none⟩) (2 * P + j) (2 * P + j)))) := ((hb.out.grown hg hsi (fun k hk => by cases hk)).setCell hg0 _)
      have q4 := hb5.cell 4
      have q4f := hb5.free 4
      simp at q4
      obtain ⟨kC, hkC⟩ : ∃ k, k = wi.heap.size := ⟨_, rfl⟩
      rw [← hkC] at P8 B8 ⊢
      clear ho hg hb5 hpm hb q1 hkC
      go_upto_region 10 with fail
      clear q4 q4f
      obtain ⟨w8, hw8⟩ : ∃ W, W = w5.setCell ⟨g, 4, none⟩ (.slice (some ⟨kC, 0, none⟩) (2 * P + j) (2 * P + j)) := ⟨_, rfl⟩
      rw [← hw8] at P8 B8 ⊢
      clear hw8
      have hpr_2 := Lib.hid (hpr_0.out.below B8.out hpr_0.out.lt)
      have HZ : Hid (ToPEnd j (2 * P + j) (frows j la P j).length (frows j la P j) nx xs (2 * P + j) (List.replicate (2 * P + j) 0) w (((((w8.setCell ⟨w.heap.size + 1, 0, none⟩ (.int .i64 j)).setCell ⟨w.heap.size + 1, 1, none⟩ (.int .i64 (2 * P + j))).setCell ⟨w.heap.size + 1, 2, none⟩ (.slice A4 N c5)).setCell ⟨w.heap.size + 1, 3, none⟩ (.slice B1 nx c2)).setCell ⟨w.heap.size + 1, 4, none⟩ (.slice (some ⟨kC, 0, none⟩) (2 * P + j) (2 * P + j))) (.returned (.agg #[.int .i64 j, .int .i64 (2 * P + j), .slice A4 N c5, .slice B1 nx c2, .slice (some ⟨kC, 0, none⟩) (2 * P + j) (2 * P + j)]))) := by
        have o := PM.own (pm_store5 hpr_2.out P8.out.own j (2 * P + j))
        have hws : w.heap.size ≤ W0.heap.size := BW_0.out.size
        exact ⟨A4, c5, B1, c2, some ⟨kC, 0, none⟩, 2 * P + j, by rw [← HNN.out], by rw [← HNN.out]; exact ⟨own_base o.1 hws, own_base o.2.1 hws, own_base o.2.2.1 hws, o.2.2.2⟩, below_store5 (BW_0.out.trans (B8.out.mono hws)) (by omega) _ _ _ _ _⟩
      have q0 := P8.out.box.cell 0
      have q1 := P8.out.box.cell 1
      have q2 := P8.out.box.cell 2
      have q3 := P8.out.box.cell 3
      have q4 := P8.out.box.cell 4
      simp at q0 q1 q2 q3 q4
      have ehpr0 := hpr_2.out.cell 0
      have ehpr1 := hpr_2.out.cell 1
      have ehpr2 := hpr_2.out.cell 2
      have ehpr3 := hpr_2.out.cell 3
      have ehpr4 := hpr_2.out.cell 4
      have fhpr0 := hpr_2.out.free 0
      have fhpr1 := hpr_2.out.free 1
      have fhpr2 := hpr_2.out.free 2
      have fhpr3 := hpr_2.out.free 3
      have fhpr4 := hpr_2.out.free 4
      simp at ehpr0 ehpr1 ehpr2 ehpr3 ehpr4
      go_wp2_with fail
      refine bodyPost_ret (v := .agg #[.int .i64 j, .int .i64 (2 * P + j), .slice A4 N c5, .slice B1 nx c2, .slice (some ⟨kC, 0, none⟩) (2 * P + j) (2 * P + j)]) (by simp [results, Try.results113, ehpr0, ehpr1, ehpr2, ehpr3, ehpr4, go_sem]) rfl ?_
      exact HZ.out
end Go.Proofs.Ytcmbfgaojlnjcaa
