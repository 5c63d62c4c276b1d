/- The row of a program that searches for a certificate, by the program. -/
import Derived.Test.YtcmbfgaojlnjcaaFarI2
import Derived.Test.YtcmbfgaojlnjcaaFarS2
namespace Go.Proofs.Ytcmbfgaojlnjcaa
set_option maxRecDepth 100000
open Go.RowKit

theorem wneg_i64 (xs : List Int) : ∀ z ∈ wneg xs, -9223372036854775808 ≤ z ∧ z ≤ 9223372036854775807 := fun z hz => by
  obtain ⟨y, _, rfl⟩ := List.mem_map.1 hz
  rw [IntKind.wrap_i64]
  omega
set_option maxHeartbeats 3200000 in
theorem impl_weighted (p : Int) (K : Nat) (A : Option Addr) (n c : Nat) (B : Option Addr) (m d : Nat) (C : Option Addr) (l f : Nat) (X : Option Addr) (nx cx : Nat) (xs : List Int) (w : World) (h : InI w X nx xs) (hnx : nx ≤ 1024) (hK : K ≤ 1024) :
    Calls Try.prog 114 #[.agg #[.int .i64 p, .int .i64 K, .slice A n c, .slice B m d, .slice C l f], .slice X nx cx] w fun e w' => IntsEnd (xs ++ wneg xs ++ List.replicate K 0) w w' e := by
  obtain ⟨i0, hi, hz0, hz1, hz2⟩ := info_parts Try.infoI
  obtain ⟨W0, hW0⟩ : ∃ W, W = (w.alloc (.cells #[.int .i64 p, .int .i64 K, .slice A n c, .slice B m d, .slice C l f] 102)) := ⟨_, rfl⟩
  have hp0_0 : Hid (Box W0 (w.heap.size) 102 #[.int .i64 p, .int .i64 K, .slice A n c, .slice B m d, .slice C l f]) := by rw [hW0]; exact (Box.at' (by simp))
  have BW_0 : Hid (Below w.heap.size w W0) := by rw [hW0]; exact ((Below.refl w.heap.size w).alloc (by simp) _)
  have hsz0 : w.heap.size + 1 ≤ W0.heap.size := by rw [hW0]; simp
  have HI := Lib.hid (h.below BW_0.out)
  have hxl : xs.length = nx := h.1
  have HXL : Hid ((wneg xs).length = nx) := by rw [wneg_length]; exact hxl
  have hmK : K ≤ 1048576 := by omega
  have HCL : Hid ((cat [(X, nx, cx, xs), (X, nx, cx, wneg xs), (X, K, cx, List.replicate K 0)]).length ≤ 1048576) := by unfold Hid; simp [cat, wneg_length]; omega
  have HEND : Hid (∀ v wl wf, Below W0.heap.size W0 wl → ResI wl wf v (xs ++ wneg xs ++ List.replicate K 0) → Below wl.heap.size wl wf → IntsEnd (xs ++ wneg xs ++ List.replicate K 0) w wf (.returned v)) := fun v wl wf h1 h2 h3 => ⟨v, rfl, ⟨h2.1, own_base h2.2 (Nat.le_trans BW_0.out.size h1.size)⟩, BW_0.out.trans ((h1.trans (h3.mono h1.size)).mono BW_0.out.size)⟩
  clear h hxl
  go_enter Try.func114, Try.ntmps114
  go_upto_region 1 with fail
  rw [← hW0]
  clear hW0
  have BD : Hid (Below W0.heap.size W0 W0.drew) := (Below.refl _ _).drew
  have XB := Lib.hid hp0_0.out.drew
  have XI : Hid (InI W0.drew X nx xs) := HI.out.below (Below.refl _ _).drew
  clear hp0_0 HI BW_0
  refine wp_region_held_drew (S := (fun w' => w'.cell? ⟨w.heap.size, 0, none⟩ = some (.int .i64 p) ∧ w'.cell? ⟨w.heap.size, 1, none⟩ = some (.int .i64 K) ∧ w'.cell? ⟨w.heap.size, 2, none⟩ = some (.slice A n c) ∧ w'.cell? ⟨w.heap.size, 3, none⟩ = some (.slice B m d) ∧ w'.cell? ⟨w.heap.size, 4, none⟩ = some (.slice C l f))) (by kernel_rfl) ?_ (fun hHeld => ?_)
  · (try dsimp only); (first | with_reducible exact box5 XF | with_reducible exact box5 XL | with_reducible exact box5 XZ | with_reducible exact box5 XB)
  refine wpAnyH_go (i := 0) (d := some 5) (v := ?_) (by rfl) (by kernel_rfl) (by kernel_rfl) (by kernel_rfl) (fun _ _ _ h => h) (by assumption) ?_ ?_
  rotate_left 1
  · (intro oS hoS wS hSw; obtain rfl := Option.some.inj hoS; (try dsimp only at hSw); go_simp; try with_reducible rfl)
  (try simp only [Act.put, List.setIfInBounds_toArray, List.set_cons_zero, List.set_cons_succ])
  refine wpAnyH_go (i := 1) (d := some 6) (v := ?_) (by rfl) (by kernel_rfl) (by kernel_rfl) (by kernel_rfl) (fun _ _ _ h => h) (by assumption) ?_ ?_
  rotate_left 1
  · (intro oS hoS wS hSw; obtain rfl := Option.some.inj hoS; (try dsimp only at hSw); go_simp; try with_reducible rfl)
  (try simp only [Act.put, List.setIfInBounds_toArray, List.set_cons_zero, List.set_cons_succ])
  refine wpAnyH_go (i := 3) (d := some 8) (v := ?_) (by rfl) (by kernel_rfl) (by kernel_rfl) (by kernel_rfl) (fun _ _ _ h => h) (by assumption) ?_ ?_
  rotate_left 1
  · (intro oS hoS wS hSw; obtain rfl := Option.some.inj hoS; (try dsimp only at hSw); go_simp; try with_reducible rfl)
  (try simp only [Act.put, List.setIfInBounds_toArray, List.set_cons_zero, List.set_cons_succ])
  refine wpAnyH_go (i := 4) (d := some 9) (v := ?_) (by rfl) (by kernel_rfl) (by kernel_rfl) (by kernel_rfl) (fun _ _ _ h => h) (by assumption) ?_ ?_
  rotate_left 1
  · (intro oS hoS wS hSw; obtain rfl := Option.some.inj hoS; (try dsimp only at hSw); go_simp; try with_reducible rfl)
  (try simp only [Act.put, List.setIfInBounds_toArray, List.set_cons_zero, List.set_cons_succ])
  refine wpAnyH_go (i := 5) (d := some 10) (v := ?_) (by rfl) (by kernel_rfl) (by kernel_rfl) (by kernel_rfl) (fun _ _ _ h => h) (by assumption) ?_ ?_
  rotate_left 1
  · (intro oS hoS wS hSw; obtain rfl := Option.some.inj hoS; (try dsimp only at hSw); go_simp; try with_reducible rfl)
  (try simp only [Act.put, List.setIfInBounds_toArray, List.set_cons_zero, List.set_cons_succ])
  refine wpAnyH_makers (fuel := 3) 2 [2, 6] [7, 11] [0, 1] (fun j => match j with | 0 => RRow nx ((wneg xs).map (.int .i64)) | _ => RRow K ((List.replicate K 0).map (.int .i64))) (by kernel_rfl) (by kernel_rfl) (fun w1 hb1 => box5 (Lib.hid (XB.out.below hb1 XB.out.lt))) ?_ ?_ ?_
  · intro j hj lo hi v w1 w2 h1 h2 h3
    match j, hj with
    | 0, _ => exact RRow.keep h1 h3
    | 1, _ => exact RRow.keep h1 h3
  · intro j hj
    match j, hj with
    | 0, _ =>
      intro oS hoS Y wy hby K' hK
      simp only [List.getD_cons_zero, List.getElem?_toArray, List.getElem?_cons_zero, List.getElem?_cons_succ, Option.some.injEq] at hoS
      subst hoS
      refine step_call1_at rfl 118 Try.func118 (by kernel_rfl) (.tmp 6) _ rfl (.slice X nx cx) ((actB_off (by kernel_rfl)).trans rfl) ?_
      refine (impl_negated X nx cx xs _ (XI.out.below hby)).mono ?_
      rintro e wv ⟨v, rfl, ⟨_, ho⟩, hb⟩
      rw [HXL.out] at ho
      exact ⟨v, rfl, hK.out _ _ hb (RRow.of ho)⟩
    | 1, _ =>
      intro oS hoS Y wy hby K' hK
      simp only [List.getD_cons_zero, List.getD_cons_succ, List.getElem?_toArray, List.getElem?_cons_zero, List.getElem?_cons_succ, Option.some.injEq] at hoS
      subst hoS
      exact step_makeI rfl 22 (.tmp 10) rfl i0 Try.underlying22 hi hz0 hz1 hz2 K (K : Int) ((actB_off (by kernel_rfl)).trans rfl) rfl hmK fun v wv hbv hro => hK.out _ _ hbv hro
  · intro D Y LO HI wz hstop hbz hres hdis
    simp only [stopB, List.all_cons, List.all_nil, Bool.and_true, Bool.and_eq_true] at hstop
    obtain ⟨hdone0, hdone1⟩ := hstop
    have hr0 := hres 0 (by decide) hdone0
    have hr1 := hres 1 (by decide) hdone1
    have hd01 := hdis 0 1 (by decide) (by decide) (by decide) hdone0 hdone1
    simp only [leftB, lstB, hdone0, hdone1, if_true, List.getD_cons_zero, List.getD_cons_succ]
    simp only [actB, List.getD_cons_zero, List.getD_cons_succ, Act.put, List.setIfInBounds_toArray, List.set_cons_zero, List.set_cons_succ]
    generalize Y 0 = y0 at hr0 ⊢
    generalize Y 1 = y1 at hr1 ⊢
    clear hres hdis
    obtain ⟨hA, hA1, _, _⟩ := hr0
    obtain ⟨hZ, hZ1, _, _⟩ := hr1
    have hA0 := hA.1
    have hZ0 := hZ.1
    clear hA hZ hd01
    obtain ⟨A0, c0, rfl⟩ := own_slice hA0
    obtain ⟨A1, c1, rfl⟩ := own_slice hZ0
    have XZ := Lib.hid (XB.out.below hbz XB.out.lt)
    have hHeld := box5 XZ
    obtain ⟨wl, hwl⟩ : ∃ W, W = wz.alloc (.cells #[.slice X nx cx, .slice A0 nx c0, .slice A1 K c1] 22) := ⟨_, rfl⟩
    obtain ⟨kL, hkL⟩ : ∃ k, k = wz.heap.size := ⟨_, rfl⟩
    have hb : Below wz.heap.size wz wl := by rw [hwl]; exact (Below.refl _ _).alloc (Nat.le_refl _) _
    have XL := Lib.hid (XZ.out.below hb XZ.out.lt)
    have BX : Box wl kL 22 #[.slice X nx cx, .slice A0 nx c0, .slice A1 K c1] := by rw [hwl, hkL]; exact Box.new _ _ _
    have XX := Lib.hid (((XI.out.below hbz)).below hb)
    have X0 : Hid (InI wl A0 nx (wneg xs)) := ⟨HXL.out, XX.out.2.1, (Reads.of_own hA0).below hb, wneg_i64 xs⟩
    have X1 : Hid (InI wl A1 K (List.replicate K 0)) := ⟨by simp, hmK, (Reads.of_own hZ0).below hb, (ent_zeros K).i64⟩
    have HRL : Hid (Reads wl (some ⟨kL, 0, none⟩) ([(X, nx, cx, xs), (A0, nx, c0, wneg xs), (A1, K, c1, List.replicate K 0)].map catV)) := Lib.hid (.inr ⟨kL, 0, rfl, BX.lt, fun j hj => (by
      match j, hj with
      | 0, _ => exact BX.cell 0
      | 1, _ => exact BX.cell 1
      | 2, _ => exact BX.cell 2)⟩)
    have BD' := Lib.hid ((BD.out.trans (hbz.mono BD.out.size)).trans (hb.mono (Nat.le_trans BD.out.size hbz.size)))
    clear hA0 hZ0 hA1 hZ1 BX hb hbz
    refine wpAnyH_ready (rs := [7]) (by kernel_rfl) (by simp) ?_
    refine AllReadyH.cons rfl (fun KK hK => ?_) AllReadyH.nil
    go_simp
    rw [← hwl, ← hkL]
    clear hwl hkL
    refine hK.out _ _ ?_ (fun hHeld => ?_)
    · (try dsimp only); (first | with_reducible exact box5 XF | with_reducible exact box5 XL | with_reducible exact box5 XZ | with_reducible exact box5 XB)
    clear hK KK
    (try simp only [Act.put, List.setIfInBounds_toArray, List.set_cons_zero, List.set_cons_succ])
    refine wpAnyH_ready (rs := [8]) (by kernel_rfl) (by simp) ?_
    refine AllReadyH.cons rfl (fun KK hK => ?_) AllReadyH.nil
    go_simp
    refine (impl_concat (some ⟨kL, 0, none⟩) 3 3 [(X, nx, cx, xs), (A0, nx, c0, wneg xs), (A1, K, c1, List.replicate K 0)] _ rfl HRL.out (by intro e he; simp only [List.mem_cons, List.not_mem_nil, or_false] at he; rcases he with rfl | rfl | rfl <;> first | exact XX.out | exact X0.out | exact X1.out) HCL.out (by omega)).mono ?_
    rintro e wf ⟨v, rfl, hv, hb⟩
    have XF := Lib.hid (XL.out.below hb XL.out.lt)
    have HF : Hid (IntsEnd (xs ++ wneg xs ++ List.replicate K 0) w wf (.returned v)) := HEND.out v wl wf BD'.out (by simpa [cat] using hv) hb
    clear hv hb
    (try go_wp2_with fail)
    refine hK.out _ _ ?_ (fun hHeld => ?_)
    · (try dsimp only); (first | with_reducible exact box5 XF | with_reducible exact box5 XL | with_reducible exact box5 XZ | with_reducible exact box5 XB)
    clear hK KK
    (try simp only [Act.put, List.setIfInBounds_toArray, List.set_cons_zero, List.set_cons_succ])
    refine wpAnyH_ready (rs := [9]) (by kernel_rfl) (by simp) ?_
    refine AllReadyH.cons rfl (fun KK hK => ?_) AllReadyH.nil
    go_simp
    refine hK.out _ _ ?_ (fun hHeld => ?_)
    · (try dsimp only); (first | with_reducible exact box5 XF | with_reducible exact box5 XL | with_reducible exact box5 XZ | with_reducible exact box5 XB)
    clear hK KK
    (try simp only [Act.put, List.setIfInBounds_toArray, List.set_cons_zero, List.set_cons_succ])
    refine wpAnyH_done (by kernel_rfl) ?_ _
    go_wp2_with fail
    go_ret
    exact HF.out
end Go.Proofs.Ytcmbfgaojlnjcaa
