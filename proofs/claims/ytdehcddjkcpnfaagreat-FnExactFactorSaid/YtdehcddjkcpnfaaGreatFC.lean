/- The factoring, by the program: Factor, IsPositive. -/
import Derived.Test.YtdehcddjkcpnfaaGreatFP
import Derived.RangeFuncCalls
import Derived.RangeFuncLeaves
import Derived.Shelf.Abstract
namespace Go.Proofs.YtdehcddjkcpnfaaGreat
set_option maxRecDepth 100000
open Go.RowKit
attribute [local go_sem] Oper.semAt_some

section
variable {n N : Nat} {rs : List RD} {w W0 : World} {bc bd : Nat} {W W' : World} {x : FY}
theorem keepC_putObj {l : Nat} (o : Obj) (h : ∃ r, W.heap[l]? = some (.loop r)) : KeepC W (W.putObj l o) := fun k cur t f e => by
  by_cases hk : k = l
  · subst hk
    obtain ⟨r, hr⟩ := h
    rw [hr] at e; cases e
  · exact (World.putObj_heap_other hk).trans e
theorem keepC_putObj2 {l : Nat} {o' : Obj} (o : Obj) (h : W.heap[l]? = some o') (hc : o'.isCells = false) : KeepC W (W.putObj l o) := fun k cur t f e => by
  by_cases hk : k = l
  · subst hk
    rw [h] at e; cases e; cases hc
  · exact (World.putObj_heap_other hk).trans e
theorem putObj_size (l : Nat) (o : Obj) : (W.putObj l o).heap.size = W.heap.size := by simp [World.putObj]
theorem below_putObj {B l : Nat} (h : Below B w W) (hB : B ≤ l) (o : Obj) : Below B w (W.putObj l o) :=
  ⟨h.os, h.tape, h.output, by rw [putObj_size]; exact h.size, fun k hk => (World.putObj_heap_other (by omega)).trans (h.block k hk)⟩
theorem FJ.putObj {lb G cL Gd cD : Nat} {P : Nat → Nat → Bool} {i qc qd : Nat} {cv dv : Value} {L D : List El} {l : Nat} (h : FJ n N rs w W0 bc bd lb G cL Gd cD P i qc qd cv dv L D W) (hK : FK w W0 bc bd) (hl : W0.heap.size ≤ l) (hr : ∃ r, W.heap[l]? = some (.loop r)) (o : Obj) : FJ n N rs w W0 bc bd lb G cL Gd cD P i qc qd cv dv L D (W.putObj l o) :=
  h.keep (keepC_putObj o hr) (fun k hk => World.putObj_heap_other (by omega)) (below_putObj h.bel (by have := hK.w0; omega) o) (by rw [putObj_size]; exact Nat.le_refl _)
end

theorem new_cells {w : World} (e : El) (t : TypeId) : ∀ j u, (flat [e])[j]? = some u → (w.alloc (.cells #[.bool e.g, e.v, e.u] t)).cell? ((⟨w.heap.size, 0, none⟩ : Addr).add j) = some u := fun j u h => by
  match j, h with
  | 0, h =>
    simp [flat, El.cells] at h
    subst h
    simp [Addr.add]
  | 1, h =>
    simp [flat, El.cells] at h
    subst h
    simp [Addr.add]
  | 2, h =>
    simp [flat, El.cells] at h
    subst h
    simp [Addr.add]
  | j + 3, h => simp [flat, El.cells] at h
theorem keeps_grown {B : Nat} {W W' : World} {base n size : Nat} {E : TypeId} {v : Value} {xs : List Value} (hg : W.grownBy W' v.ownBlock) (hv : W.ownsRow base E size v n xs) : KeepsFrom B W W' :=
  ⟨hg.size, fun k o _ hk ho => by
    by_cases e : v.ownBlock = some k
    · obtain ⟨cur, t, f, hc⟩ := own_isCells hv e
      rw [hc] at hk; cases hk; cases ho
    · exact (hg.block k (Array.getElem?_eq_some_iff.1 hk).1 fun q => e q.symm).trans hk⟩
theorem keeps_below {B : Nat} {W W' : World} (hb : Below W.heap.size W W') : KeepsFrom B W W' := ⟨hb.size, fun k _ _ hk _ => (hb.block k (Array.getElem?_eq_some_iff.1 hk).1).trans hk⟩
theorem sign_pos {r : RD} {s : Int} (h : RatSignIs r.g r.xs r.ds s) : 0 < s ↔ r.pos := by
  rcases h with ⟨hk, rfl⟩ | ⟨hn, rfl⟩
  · unfold sg
    constructor
    · intro h
      refine ⟨hk, ?_, ?_⟩
      · cases hg : r.g
        · rfl
        · rw [hg] at h; simp at h
      · intro e
        cases hg : r.g <;> rw [hg] at h <;> simp [e] at h
    · rintro ⟨_, hg, hx⟩
      rw [hg, if_neg (by simp), if_neg fun e => hx (List.eq_nil_of_length_eq_zero e)]; omega
  · exact ⟨fun h => (by omega), fun h => absurd h.1 hn⟩
/-- A region that cannot but end as it should. -/
theorem wp_only {P : Program} {c : Code} {Q : Exit → Act → World → Prop} {a : Act} {w : World} (h : c.wp P (fun e a' w' => match e with | .normal => Q .normal a' w' | _ => False) a w) : c.wp P Q a w :=
  wp_mono h fun e a' w' q => by cases e <;> first | exact q | exact q.elim
set_option maxHeartbeats 1600000 in
theorem impl_factorRows (p k : Int) (A : Option Addr) (n c : Nat) (w : World) :
    Calls Tryz.prog 80 #[.agg #[.int .i64 p, .int .i64 k, .slice A n c]] w fun e w' => ∃ mb, e = .returned (.func (.func 149) #[] #[.pointer (some ⟨mb, 0, none⟩)]) ∧ w.heap.size ≤ mb ∧ Box w' mb 47 #[.int .i64 p, .int .i64 k, .slice A n c] ∧ Below w.heap.size w w' := by
  go_enter Tryz.func80, Tryz.ntmps80
  go_wp2_with fail
  go_ret
  exact ⟨w.heap.size, rfl, Nat.le_refl _, Box.new _ _ _, (Below.refl _ _).alloc (Nat.le_refl _) _⟩
set_option maxHeartbeats 3200000 in
theorem impl_factorIt0 (A : Option Addr) (c : Nat) (w W0 : World) (bc bd mb : Nat) (Rx : World → Prop) (hK : FK w W0 bc bd)
    (hm : Box W0 mb 47 #[.int .i64 0, .int .i64 0, .slice A 0 c]) (hm1 : mb ≠ bc) (hm2 : mb ≠ bd) :
    SeqJ Fence.wide 3 Tryz.prog 149 #[.pointer (some ⟨mb, 0, none⟩)] encY W0.heap.size (J0Y w W0 bc bd) (JyY 0 0 [] w W0 bc bd) (JnY 0 0 [] w W0 bc bd) (fun _ => Rx) (J0Y w W0 bc bd) Rx := by
  intro l W Bk Bx hBk hBx hY hJ0 hb0
  obtain ⟨i0, hi, hz0, hz1, hz2⟩ := info_parts Tryz.infoR
  have hmlt := hm.lt
  have HMB : Hid (∀ W', (∀ k, k < W0.heap.size → k ≠ bc → k ≠ bd → W'.heap[k]? = W0.heap[k]?) → Box W' mb 47 #[.int .i64 0, .int .i64 0, .slice A 0 c]) := fun W' hW => (hW mb hmlt hm1 hm2).trans hm
  have HBK := Lib.hid hBk
  have HKK := Lib.hid hK
  have PJ0 := Lib.hid hJ0
  have PB0 := Lib.hid hb0
  clear hBk hBx hY hJ0 hb0 hm hK
  refine callsIn_wide.2 ?_
  show Calls _ _ #[.func (.yield l) #[] #[], .pointer (some ⟨mb, 0, none⟩)] W _
  go_enter Tryz.func149, Tryz.ntmps149
  go_upto_region 0 with fail
  go_cut [3, 4] (fun _ _ wx => Hid (J0Y w W0 bc bd wx) ∧ Hid (Bk wx))
  case first =>
    obtain ⟨X0, hX0⟩ : ∃ X, X = W.drew := ⟨_, rfl⟩
    replace PJ0 : Hid (J0Y w W0 bc bd X0) := by rw [hX0]; exact PJ0.out.below (Below.refl _ _).drew
    replace PB0 : Hid (Bk X0) := by rw [hX0]; exact stays_below HBK.out PB0.out (Below.refl _ _).drew
    have hs0 : W0.heap.size ≤ X0.heap.size := PJ0.out.siz
    refine wp_region_last (S := (fun w' => w'.cell? ⟨mb, 0, none⟩ = some (.int .i64 0))) 8 (by kernel_rfl) ?_ (fun hHeld => ?_)
    · (rw [← hX0]); (exact (HMB.out _ PJ0.out.old).cell 0)
    rw [← hX0] at hHeld ⊢
    clear hX0
    refine wpAnyL_go (i := 0) (d := some 9) (v := ?_) (y := 7) [2, 1, 0] (by rfl) (by kernel_rfl) (fun _ _ _ h => h) (by assumption) ?_ ?_
    rotate_left 1
    · (intro oS hoS wS hSw; obtain rfl := Option.some.inj hoS; (try dsimp only at hSw); go_simp; try with_reducible rfl)
    (try simp only [Act.put, List.setIfInBounds_toArray])
    refine wpAnyL_go (i := 1) (d := some 10) (v := ?_) (y := 7) [2, 1] (by rfl) (by kernel_rfl) (fun _ _ _ h => h) (by assumption) ?_ ?_
    rotate_left 1
    · (intro oS hoS wS hSw; obtain rfl := Option.some.inj hoS; (try dsimp only at hSw); go_simp; try with_reducible rfl)
    (try simp only [Act.put, List.setIfInBounds_toArray])
    refine wpAnyL_go (i := 3) (d := some 12) (v := ?_) (y := 5) [4, 3] (by rfl) (by kernel_rfl) (fun _ _ _ h => h) (by assumption) ?_ ?_
    rotate_left 1
    · (intro oS hoS wS hSw; obtain rfl := Option.some.inj hoS; (try dsimp only at hSw); go_simp; try with_reducible rfl)
    (try simp only [Act.put, List.setIfInBounds_toArray])
    refine wpAnyL_go (i := 4) (d := some 13) (v := ?_) (y := 5) [4] (by rfl) (by kernel_rfl) (fun _ _ _ h => h) (by assumption) ?_ ?_
    rotate_left 1
    · (intro oS hoS wS hSw; obtain rfl := Option.some.inj hoS; (try dsimp only at hSw); go_simp; try with_reducible rfl)
    (try simp only [Act.put, List.setIfInBounds_toArray])
    refine wpAnyL_three 2 5 6 (by kernel_rfl) (by decide) (by decide) (by decide) rfl rfl rfl (fun KK hK => ?_) (fun KK hK => ?_) (fun KK hK => ?_)
    · go_simp
      go_at_call 53
      (with_reducible refine (impl_identityMatrix0 0 _ (by omega)).mono ?_)
      rintro e X1 ⟨p9, k9, r9, V9, rfl, hi9, hr9, hb9⟩
      obtain ⟨rfl, rfl, rfl⟩ := ident_at (n := 0) (by omega) hi9
      obtain ⟨_, _, L, ho9, hh9⟩ := hr9
      rw [show (ident 0).length = 0 from rfl] at ho9
      obtain ⟨AL, cL, rfl⟩ := ho9.slice
      have PJ1 := Lib.hid (PJ0.out.below hb9)
      have PB1 : Hid (Bk X1) := stays_below HBK.out PB0.out hb9
      have hs1 : X0.heap.size ≤ X1.heap.size := hb9.size
      clear hi9 ho9 hh9 hb9
      (try go_wp2_with fail)
      refine hK.out _ _ ?_ (fun hHeld => ?_)
      · (try dsimp only); (exact (HMB.out _ PJ1.out.old).cell 0)
      clear hK KK
      (try simp only [Act.put, List.setIfInBounds_toArray])
      refine wpAnyL_two 5 6 (by kernel_rfl) (by decide) (by decide) rfl rfl (fun KK hK => ?_) (fun KK hK => ?_)
      · refine step_make_full rfl (.tmp 13) (.tmp 13) 26 rfl X1.heap.size 30 i0 (.agg #[.bool false, .slice none 0 0, .slice none 0 0]) 3 Tryz.underlying26 hi hz0 hz1 _ _ _ _ 0 rfl rfl rfl rfl (by rw [hz2]; omega) (by unfold maxLen; omega) (Nat.le_refl _) ?_
        intro X2 ho9 hg9
        have hb9 : Below X1.heap.size X1 X2 := (Below.refl _ _).grown hg9 (Nat.le_refl _) (fun k hk => by cases hk)
        have PJ2 := Lib.hid (PJ1.out.below hb9)
        have PB2 : Hid (Bk X2) := stays_below HBK.out PB1.out hb9
        have hs2 : X1.heap.size ≤ X2.heap.size := hb9.size
        clear ho9 hg9 hb9
        refine hK.out _ _ ?_ (fun hHeld => ?_)
        · (try dsimp only); (exact (HMB.out _ PJ2.out.old).cell 0)
        clear hK KK
        (try simp only [Act.put, List.setIfInBounds_toArray])
        refine wpAnyL_one 6 (by kernel_rfl) (by decide) rfl (fun KK hK => ?_)
        obtain ⟨X3, hX3⟩ : ∃ X, X = X2.alloc (.cells #[.int .i64 0, .int .i64 0, .slice none 0 0] 47) := ⟨_, rfl⟩
        have hb9 : Below X2.heap.size X2 X3 := by rw [hX3]; exact (Below.refl _ _).alloc (Nat.le_refl _) _
        have HX3 : Hid (Box X3 X2.heap.size 47 #[.int .i64 0, .int .i64 0, .slice none 0 0]) := by rw [hX3]; exact Box.new _ _ _
        have hbX : W0.heap.size ≤ X2.heap.size := by omega
        have PJ3 := Lib.hid (PJ2.out.below hb9)
        have PB3 : Hid (Bk X3) := stays_below HBK.out PB2.out hb9
        have hs3 : X2.heap.size ≤ X3.heap.size := hb9.size
        clear hb9
        go_simp
        rw [← hX3]
        clear hX3
        refine hK.out _ _ ?_ (fun hHeld => ?_)
        · (try dsimp only); (exact (HMB.out _ PJ3.out.old).cell 0)
        clear hK KK
        (try simp only [Act.put, List.setIfInBounds_toArray])
        refine wpAnyL_one 7 (by kernel_rfl) (by decide) rfl (fun KK hK => ?_)
        have fc0 := HX3.out.cell 0
        have fc1 := HX3.out.cell 1
        have fc2 := HX3.out.cell 2
        have fs0 := HX3.out.free 0
        have fs1 := HX3.out.free 1
        have fs2 := HX3.out.free 2
        simp at fc0 fc1 fc2 fs0 fs1 fs2
        have hXl := HX3.out.lt
        obtain ⟨X4, hX4⟩ : ∃ X, X = ((X3.setCell ⟨X2.heap.size, 0, none⟩ (.int .i64 0)).setCell ⟨X2.heap.size, 1, none⟩ (.int .i64 0)).setCell ⟨X2.heap.size, 2, none⟩ (.slice AL 0 cL) := ⟨_, rfl⟩
        have hk4 : ∀ k, k ≠ X2.heap.size → X4.heap[k]? = X3.heap[k]? := fun k hk => by rw [hX4]; exact set3_other hk
        have hz4 : X4.heap.size = X3.heap.size := by rw [hX4]; simp
        have hs4 : X3.heap.size ≤ X4.heap.size := by omega
        have PJ4 : Hid (J0Y w W0 bc bd X4) := ⟨by rw [hX4]; exact ((PJ3.out.bel.setCell (by have := HKK.out.w0; dsimp only; omega) _).setCell (by have := HKK.out.w0; dsimp only; omega) _).setCell (by have := HKK.out.w0; dsimp only; omega) _, fun k hk e1 e2 => (hk4 k (by omega)).trans (PJ3.out.old k hk e1 e2), by rw [hz4]; exact PJ3.out.siz, (hk4 _ (by have := HKK.out.c1; omega)).trans PJ3.out.cbx, (hk4 _ (by have := HKK.out.d1; omega)).trans PJ3.out.dbx⟩
        have PB4 : Hid (Bk X4) := by rw [hX4]; exact HBK.out _ _ PB3.out ((((KeepsOthers.setCell _ _ _).trans (KeepsOthers.setCell _ _ _)).trans (KeepsOthers.setCell _ _ _)).from _)
        have HX4 : Hid (Box X4 X2.heap.size 47 #[.int .i64 0, .int .i64 0, .slice AL 0 cL]) := by rw [hX4]; refine Lib.hid ?_; have e := ((HX3.out.set_ 0 (.int .i64 0)).set_ 1 (.int .i64 0)).set_ 2 (.slice AL 0 cL); simpa using e
        go_simp
        rw [← hX4]
        clear hX4 fc0 fc1 fc2 fs0 fs1 fs2 hk4 hz4
        refine hK.out _ _ ?_ (fun hHeld => ?_)
        · (try dsimp only); (exact (HMB.out _ PJ4.out.old).cell 0)
        clear hK KK
        (try simp only [Act.put, List.setIfInBounds_toArray])
        refine wpAnyL_last (by kernel_rfl) rfl (fun KK hK => ?_)
        go_simp
        refine hK.out _ _ ?_
        clear hK KK
        (try simp only [Act.put, List.setIfInBounds_toArray])
        refine wpAnyL_done (by kernel_rfl) ?_ _
        (try go_wp2_with fail)
        go_meet
        exact ⟨PJ4, PB4⟩
      · obtain ⟨X2, hX2⟩ : ∃ X, X = X1.alloc (.cells #[.int .i64 0, .int .i64 0, .slice none 0 0] 47) := ⟨_, rfl⟩
        have hb9 : Below X1.heap.size X1 X2 := by rw [hX2]; exact (Below.refl _ _).alloc (Nat.le_refl _) _
        have HX2 : Hid (Box X2 X1.heap.size 47 #[.int .i64 0, .int .i64 0, .slice none 0 0]) := by rw [hX2]; exact Box.new _ _ _
        have hbX : W0.heap.size ≤ X1.heap.size := by omega
        have PJ2 := Lib.hid (PJ1.out.below hb9)
        have PB2 : Hid (Bk X2) := stays_below HBK.out PB1.out hb9
        have hs2 : X1.heap.size ≤ X2.heap.size := hb9.size
        clear hb9
        go_simp
        rw [← hX2]
        clear hX2
        refine hK.out _ _ ?_ (fun hHeld => ?_)
        · (try dsimp only); (exact (HMB.out _ PJ2.out.old).cell 0)
        clear hK KK
        (try simp only [Act.put, List.setIfInBounds_toArray])
        refine wpAnyL_two 5 7 (by kernel_rfl) (by decide) (by decide) rfl rfl (fun KK hK => ?_) (fun KK hK => ?_)
        · refine step_make_full rfl (.tmp 13) (.tmp 13) 26 rfl X2.heap.size 30 i0 (.agg #[.bool false, .slice none 0 0, .slice none 0 0]) 3 Tryz.underlying26 hi hz0 hz1 _ _ _ _ 0 rfl rfl rfl rfl (by rw [hz2]; omega) (by unfold maxLen; omega) (Nat.le_refl _) ?_
          intro X3 ho9 hg9
          have hb9 : Below X2.heap.size X2 X3 := (Below.refl _ _).grown hg9 (Nat.le_refl _) (fun k hk => by cases hk)
          have PJ3 := Lib.hid (PJ2.out.below hb9)
          have PB3 : Hid (Bk X3) := stays_below HBK.out PB2.out hb9
          have hs3 : X2.heap.size ≤ X3.heap.size := hb9.size
          have HX3 := Lib.hid (HX2.out.below hb9 HX2.out.lt)
          clear ho9 hg9 hb9
          refine hK.out _ _ ?_ (fun hHeld => ?_)
          · (try dsimp only); (exact (HMB.out _ PJ3.out.old).cell 0)
          clear hK KK
          (try simp only [Act.put, List.setIfInBounds_toArray])
          refine wpAnyL_one 7 (by kernel_rfl) (by decide) rfl (fun KK hK => ?_)
          have fc0 := HX3.out.cell 0
          have fc1 := HX3.out.cell 1
          have fc2 := HX3.out.cell 2
          have fs0 := HX3.out.free 0
          have fs1 := HX3.out.free 1
          have fs2 := HX3.out.free 2
          simp at fc0 fc1 fc2 fs0 fs1 fs2
          have hXl := HX3.out.lt
          obtain ⟨X4, hX4⟩ : ∃ X, X = ((X3.setCell ⟨X1.heap.size, 0, none⟩ (.int .i64 0)).setCell ⟨X1.heap.size, 1, none⟩ (.int .i64 0)).setCell ⟨X1.heap.size, 2, none⟩ (.slice AL 0 cL) := ⟨_, rfl⟩
          have hk4 : ∀ k, k ≠ X1.heap.size → X4.heap[k]? = X3.heap[k]? := fun k hk => by rw [hX4]; exact set3_other hk
          have hz4 : X4.heap.size = X3.heap.size := by rw [hX4]; simp
          have hs4 : X3.heap.size ≤ X4.heap.size := by omega
          have PJ4 : Hid (J0Y w W0 bc bd X4) := ⟨by rw [hX4]; exact ((PJ3.out.bel.setCell (by have := HKK.out.w0; dsimp only; omega) _).setCell (by have := HKK.out.w0; dsimp only; omega) _).setCell (by have := HKK.out.w0; dsimp only; omega) _, fun k hk e1 e2 => (hk4 k (by omega)).trans (PJ3.out.old k hk e1 e2), by rw [hz4]; exact PJ3.out.siz, (hk4 _ (by have := HKK.out.c1; omega)).trans PJ3.out.cbx, (hk4 _ (by have := HKK.out.d1; omega)).trans PJ3.out.dbx⟩
          have PB4 : Hid (Bk X4) := by rw [hX4]; exact HBK.out _ _ PB3.out ((((KeepsOthers.setCell _ _ _).trans (KeepsOthers.setCell _ _ _)).trans (KeepsOthers.setCell _ _ _)).from _)
          have HX4 : Hid (Box X4 X1.heap.size 47 #[.int .i64 0, .int .i64 0, .slice AL 0 cL]) := by rw [hX4]; refine Lib.hid ?_; have e := ((HX3.out.set_ 0 (.int .i64 0)).set_ 1 (.int .i64 0)).set_ 2 (.slice AL 0 cL); simpa using e
          go_simp
          rw [← hX4]
          clear hX4 fc0 fc1 fc2 fs0 fs1 fs2 hk4 hz4
          refine hK.out _ _ ?_ (fun hHeld => ?_)
          · (try dsimp only); (exact (HMB.out _ PJ4.out.old).cell 0)
          clear hK KK
          (try simp only [Act.put, List.setIfInBounds_toArray])
          refine wpAnyL_last (by kernel_rfl) rfl (fun KK hK => ?_)
          go_simp
          refine hK.out _ _ ?_
          clear hK KK
          (try simp only [Act.put, List.setIfInBounds_toArray])
          refine wpAnyL_done (by kernel_rfl) ?_ _
          (try go_wp2_with fail)
          go_meet
          exact ⟨PJ4, PB4⟩
        · have fc0 := HX2.out.cell 0
          have fc1 := HX2.out.cell 1
          have fc2 := HX2.out.cell 2
          have fs0 := HX2.out.free 0
          have fs1 := HX2.out.free 1
          have fs2 := HX2.out.free 2
          simp at fc0 fc1 fc2 fs0 fs1 fs2
          have hXl := HX2.out.lt
          obtain ⟨X3, hX3⟩ : ∃ X, X = ((X2.setCell ⟨X1.heap.size, 0, none⟩ (.int .i64 0)).setCell ⟨X1.heap.size, 1, none⟩ (.int .i64 0)).setCell ⟨X1.heap.size, 2, none⟩ (.slice AL 0 cL) := ⟨_, rfl⟩
          have hk4 : ∀ k, k ≠ X1.heap.size → X3.heap[k]? = X2.heap[k]? := fun k hk => by rw [hX3]; exact set3_other hk
          have hz4 : X3.heap.size = X2.heap.size := by rw [hX3]; simp
          have hs3 : X2.heap.size ≤ X3.heap.size := by omega
          have PJ3 : Hid (J0Y w W0 bc bd X3) := ⟨by rw [hX3]; exact ((PJ2.out.bel.setCell (by have := HKK.out.w0; dsimp only; omega) _).setCell (by have := HKK.out.w0; dsimp only; omega) _).setCell (by have := HKK.out.w0; dsimp only; omega) _, fun k hk e1 e2 => (hk4 k (by omega)).trans (PJ2.out.old k hk e1 e2), by rw [hz4]; exact PJ2.out.siz, (hk4 _ (by have := HKK.out.c1; omega)).trans PJ2.out.cbx, (hk4 _ (by have := HKK.out.d1; omega)).trans PJ2.out.dbx⟩
          have PB3 : Hid (Bk X3) := by rw [hX3]; exact HBK.out _ _ PB2.out ((((KeepsOthers.setCell _ _ _).trans (KeepsOthers.setCell _ _ _)).trans (KeepsOthers.setCell _ _ _)).from _)
          have HX3 : Hid (Box X3 X1.heap.size 47 #[.int .i64 0, .int .i64 0, .slice AL 0 cL]) := by rw [hX3]; refine Lib.hid ?_; have e := ((HX2.out.set_ 0 (.int .i64 0)).set_ 1 (.int .i64 0)).set_ 2 (.slice AL 0 cL); simpa using e
          go_simp
          rw [← hX3]
          clear hX3 fc0 fc1 fc2 fs0 fs1 fs2 hk4 hz4
          refine hK.out _ _ ?_ (fun hHeld => ?_)
          · (try dsimp only); (exact (HMB.out _ PJ3.out.old).cell 0)
          clear hK KK
          (try simp only [Act.put, List.setIfInBounds_toArray])
          refine wpAnyL_one 5 (by kernel_rfl) (by decide) rfl (fun KK hK => ?_)
          refine step_make_full rfl (.tmp 13) (.tmp 13) 26 rfl X3.heap.size 30 i0 (.agg #[.bool false, .slice none 0 0, .slice none 0 0]) 3 Tryz.underlying26 hi hz0 hz1 _ _ _ _ 0 rfl rfl rfl rfl (by rw [hz2]; omega) (by unfold maxLen; omega) (Nat.le_refl _) ?_
          intro X4 ho9 hg9
          have hb9 : Below X3.heap.size X3 X4 := (Below.refl _ _).grown hg9 (Nat.le_refl _) (fun k hk => by cases hk)
          have PJ4 := Lib.hid (PJ3.out.below hb9)
          have PB4 : Hid (Bk X4) := stays_below HBK.out PB3.out hb9
          have hs4 : X3.heap.size ≤ X4.heap.size := hb9.size
          have HX4 := Lib.hid (HX3.out.below hb9 HX3.out.lt)
          clear ho9 hg9 hb9
          refine hK.out _ _ ?_ (fun hHeld => ?_)
          · (try dsimp only); (exact (HMB.out _ PJ4.out.old).cell 0)
          clear hK KK
          (try simp only [Act.put, List.setIfInBounds_toArray])
          refine wpAnyL_last (by kernel_rfl) rfl (fun KK hK => ?_)
          go_simp
          refine hK.out _ _ ?_
          clear hK KK
          (try simp only [Act.put, List.setIfInBounds_toArray])
          refine wpAnyL_done (by kernel_rfl) ?_ _
          (try go_wp2_with fail)
          go_meet
          exact ⟨PJ4, PB4⟩
    · refine step_make_full rfl (.tmp 13) (.tmp 13) 26 rfl X0.heap.size 30 i0 (.agg #[.bool false, .slice none 0 0, .slice none 0 0]) 3 Tryz.underlying26 hi hz0 hz1 _ _ _ _ 0 rfl rfl rfl rfl (by rw [hz2]; omega) (by unfold maxLen; omega) (Nat.le_refl _) ?_
      intro X1 ho9 hg9
      have hb9 : Below X0.heap.size X0 X1 := (Below.refl _ _).grown hg9 (Nat.le_refl _) (fun k hk => by cases hk)
      have PJ1 := Lib.hid (PJ0.out.below hb9)
      have PB1 : Hid (Bk X1) := stays_below HBK.out PB0.out hb9
      have hs1 : X0.heap.size ≤ X1.heap.size := hb9.size
      clear ho9 hg9 hb9
      refine hK.out _ _ ?_ (fun hHeld => ?_)
      · (try dsimp only); (exact (HMB.out _ PJ1.out.old).cell 0)
      clear hK KK
      (try simp only [Act.put, List.setIfInBounds_toArray])
      refine wpAnyL_two 2 6 (by kernel_rfl) (by decide) (by decide) rfl rfl (fun KK hK => ?_) (fun KK hK => ?_)
      · go_simp
        go_at_call 53
        (with_reducible refine (impl_identityMatrix0 0 _ (by omega)).mono ?_)
        rintro e X2 ⟨p9, k9, r9, V9, rfl, hi9, hr9, hb9⟩
        obtain ⟨rfl, rfl, rfl⟩ := ident_at (n := 0) (by omega) hi9
        obtain ⟨_, _, L, ho9, hh9⟩ := hr9
        rw [show (ident 0).length = 0 from rfl] at ho9
        obtain ⟨AL, cL, rfl⟩ := ho9.slice
        have PJ2 := Lib.hid (PJ1.out.below hb9)
        have PB2 : Hid (Bk X2) := stays_below HBK.out PB1.out hb9
        have hs2 : X1.heap.size ≤ X2.heap.size := hb9.size
        clear hi9 ho9 hh9 hb9
        (try go_wp2_with fail)
        refine hK.out _ _ ?_ (fun hHeld => ?_)
        · (try dsimp only); (exact (HMB.out _ PJ2.out.old).cell 0)
        clear hK KK
        (try simp only [Act.put, List.setIfInBounds_toArray])
        refine wpAnyL_one 6 (by kernel_rfl) (by decide) rfl (fun KK hK => ?_)
        obtain ⟨X3, hX3⟩ : ∃ X, X = X2.alloc (.cells #[.int .i64 0, .int .i64 0, .slice none 0 0] 47) := ⟨_, rfl⟩
        have hb9 : Below X2.heap.size X2 X3 := by rw [hX3]; exact (Below.refl _ _).alloc (Nat.le_refl _) _
        have HX3 : Hid (Box X3 X2.heap.size 47 #[.int .i64 0, .int .i64 0, .slice none 0 0]) := by rw [hX3]; exact Box.new _ _ _
        have hbX : W0.heap.size ≤ X2.heap.size := by omega
        have PJ3 := Lib.hid (PJ2.out.below hb9)
        have PB3 : Hid (Bk X3) := stays_below HBK.out PB2.out hb9
        have hs3 : X2.heap.size ≤ X3.heap.size := hb9.size
        clear hb9
        go_simp
        rw [← hX3]
        clear hX3
        refine hK.out _ _ ?_ (fun hHeld => ?_)
        · (try dsimp only); (exact (HMB.out _ PJ3.out.old).cell 0)
        clear hK KK
        (try simp only [Act.put, List.setIfInBounds_toArray])
        refine wpAnyL_one 7 (by kernel_rfl) (by decide) rfl (fun KK hK => ?_)
        have fc0 := HX3.out.cell 0
        have fc1 := HX3.out.cell 1
        have fc2 := HX3.out.cell 2
        have fs0 := HX3.out.free 0
        have fs1 := HX3.out.free 1
        have fs2 := HX3.out.free 2
        simp at fc0 fc1 fc2 fs0 fs1 fs2
        have hXl := HX3.out.lt
        obtain ⟨X4, hX4⟩ : ∃ X, X = ((X3.setCell ⟨X2.heap.size, 0, none⟩ (.int .i64 0)).setCell ⟨X2.heap.size, 1, none⟩ (.int .i64 0)).setCell ⟨X2.heap.size, 2, none⟩ (.slice AL 0 cL) := ⟨_, rfl⟩
        have hk4 : ∀ k, k ≠ X2.heap.size → X4.heap[k]? = X3.heap[k]? := fun k hk => by rw [hX4]; exact set3_other hk
        have hz4 : X4.heap.size = X3.heap.size := by rw [hX4]; simp
        have hs4 : X3.heap.size ≤ X4.heap.size := by omega
        have PJ4 : Hid (J0Y w W0 bc bd X4) := ⟨by rw [hX4]; exact ((PJ3.out.bel.setCell (by have := HKK.out.w0; dsimp only; omega) _).setCell (by have := HKK.out.w0; dsimp only; omega) _).setCell (by have := HKK.out.w0; dsimp only; omega) _, fun k hk e1 e2 => (hk4 k (by omega)).trans (PJ3.out.old k hk e1 e2), by rw [hz4]; exact PJ3.out.siz, (hk4 _ (by have := HKK.out.c1; omega)).trans PJ3.out.cbx, (hk4 _ (by have := HKK.out.d1; omega)).trans PJ3.out.dbx⟩
        have PB4 : Hid (Bk X4) := by rw [hX4]; exact HBK.out _ _ PB3.out ((((KeepsOthers.setCell _ _ _).trans (KeepsOthers.setCell _ _ _)).trans (KeepsOthers.setCell _ _ _)).from _)
        have HX4 : Hid (Box X4 X2.heap.size 47 #[.int .i64 0, .int .i64 0, .slice AL 0 cL]) := by rw [hX4]; refine Lib.hid ?_; have e := ((HX3.out.set_ 0 (.int .i64 0)).set_ 1 (.int .i64 0)).set_ 2 (.slice AL 0 cL); simpa using e
        go_simp
        rw [← hX4]
        clear hX4 fc0 fc1 fc2 fs0 fs1 fs2 hk4 hz4
        refine hK.out _ _ ?_ (fun hHeld => ?_)
        · (try dsimp only); (exact (HMB.out _ PJ4.out.old).cell 0)
        clear hK KK
        (try simp only [Act.put, List.setIfInBounds_toArray])
        refine wpAnyL_last (by kernel_rfl) rfl (fun KK hK => ?_)
        go_simp
        refine hK.out _ _ ?_
        clear hK KK
        (try simp only [Act.put, List.setIfInBounds_toArray])
        refine wpAnyL_done (by kernel_rfl) ?_ _
        (try go_wp2_with fail)
        go_meet
        exact ⟨PJ4, PB4⟩
      · obtain ⟨X2, hX2⟩ : ∃ X, X = X1.alloc (.cells #[.int .i64 0, .int .i64 0, .slice none 0 0] 47) := ⟨_, rfl⟩
        have hb9 : Below X1.heap.size X1 X2 := by rw [hX2]; exact (Below.refl _ _).alloc (Nat.le_refl _) _
        have HX2 : Hid (Box X2 X1.heap.size 47 #[.int .i64 0, .int .i64 0, .slice none 0 0]) := by rw [hX2]; exact Box.new _ _ _
        have hbX : W0.heap.size ≤ X1.heap.size := by omega
        have PJ2 := Lib.hid (PJ1.out.below hb9)
        have PB2 : Hid (Bk X2) := stays_below HBK.out PB1.out hb9
        have hs2 : X1.heap.size ≤ X2.heap.size := hb9.size
        clear hb9
        go_simp
        rw [← hX2]
        clear hX2
        refine hK.out _ _ ?_ (fun hHeld => ?_)
        · (try dsimp only); (exact (HMB.out _ PJ2.out.old).cell 0)
        clear hK KK
        (try simp only [Act.put, List.setIfInBounds_toArray])
        refine wpAnyL_one 2 (by kernel_rfl) (by decide) rfl (fun KK hK => ?_)
        go_simp
        go_at_call 53
        (with_reducible refine (impl_identityMatrix0 0 _ (by omega)).mono ?_)
        rintro e X3 ⟨p9, k9, r9, V9, rfl, hi9, hr9, hb9⟩
        obtain ⟨rfl, rfl, rfl⟩ := ident_at (n := 0) (by omega) hi9
        obtain ⟨_, _, L, ho9, hh9⟩ := hr9
        rw [show (ident 0).length = 0 from rfl] at ho9
        obtain ⟨AL, cL, rfl⟩ := ho9.slice
        have PJ3 := Lib.hid (PJ2.out.below hb9)
        have PB3 : Hid (Bk X3) := stays_below HBK.out PB2.out hb9
        have hs3 : X2.heap.size ≤ X3.heap.size := hb9.size
        have HX3 := Lib.hid (HX2.out.below hb9 HX2.out.lt)
        clear hi9 ho9 hh9 hb9
        (try go_wp2_with fail)
        refine hK.out _ _ ?_ (fun hHeld => ?_)
        · (try dsimp only); (exact (HMB.out _ PJ3.out.old).cell 0)
        clear hK KK
        (try simp only [Act.put, List.setIfInBounds_toArray])
        refine wpAnyL_one 7 (by kernel_rfl) (by decide) rfl (fun KK hK => ?_)
        have fc0 := HX3.out.cell 0
        have fc1 := HX3.out.cell 1
        have fc2 := HX3.out.cell 2
        have fs0 := HX3.out.free 0
        have fs1 := HX3.out.free 1
        have fs2 := HX3.out.free 2
        simp at fc0 fc1 fc2 fs0 fs1 fs2
        have hXl := HX3.out.lt
        obtain ⟨X4, hX4⟩ : ∃ X, X = ((X3.setCell ⟨X1.heap.size, 0, none⟩ (.int .i64 0)).setCell ⟨X1.heap.size, 1, none⟩ (.int .i64 0)).setCell ⟨X1.heap.size, 2, none⟩ (.slice AL 0 cL) := ⟨_, rfl⟩
        have hk4 : ∀ k, k ≠ X1.heap.size → X4.heap[k]? = X3.heap[k]? := fun k hk => by rw [hX4]; exact set3_other hk
        have hz4 : X4.heap.size = X3.heap.size := by rw [hX4]; simp
        have hs4 : X3.heap.size ≤ X4.heap.size := by omega
        have PJ4 : Hid (J0Y w W0 bc bd X4) := ⟨by rw [hX4]; exact ((PJ3.out.bel.setCell (by have := HKK.out.w0; dsimp only; omega) _).setCell (by have := HKK.out.w0; dsimp only; omega) _).setCell (by have := HKK.out.w0; dsimp only; omega) _, fun k hk e1 e2 => (hk4 k (by omega)).trans (PJ3.out.old k hk e1 e2), by rw [hz4]; exact PJ3.out.siz, (hk4 _ (by have := HKK.out.c1; omega)).trans PJ3.out.cbx, (hk4 _ (by have := HKK.out.d1; omega)).trans PJ3.out.dbx⟩
        have PB4 : Hid (Bk X4) := by rw [hX4]; exact HBK.out _ _ PB3.out ((((KeepsOthers.setCell _ _ _).trans (KeepsOthers.setCell _ _ _)).trans (KeepsOthers.setCell _ _ _)).from _)
        have HX4 : Hid (Box X4 X1.heap.size 47 #[.int .i64 0, .int .i64 0, .slice AL 0 cL]) := by rw [hX4]; refine Lib.hid ?_; have e := ((HX3.out.set_ 0 (.int .i64 0)).set_ 1 (.int .i64 0)).set_ 2 (.slice AL 0 cL); simpa using e
        go_simp
        rw [← hX4]
        clear hX4 fc0 fc1 fc2 fs0 fs1 fs2 hk4 hz4
        refine hK.out _ _ ?_ (fun hHeld => ?_)
        · (try dsimp only); (exact (HMB.out _ PJ4.out.old).cell 0)
        clear hK KK
        (try simp only [Act.put, List.setIfInBounds_toArray])
        refine wpAnyL_last (by kernel_rfl) rfl (fun KK hK => ?_)
        go_simp
        refine hK.out _ _ ?_
        clear hK KK
        (try simp only [Act.put, List.setIfInBounds_toArray])
        refine wpAnyL_done (by kernel_rfl) ?_ _
        (try go_wp2_with fail)
        go_meet
        exact ⟨PJ4, PB4⟩
    · obtain ⟨X1, hX1⟩ : ∃ X, X = X0.alloc (.cells #[.int .i64 0, .int .i64 0, .slice none 0 0] 47) := ⟨_, rfl⟩
      have hb9 : Below X0.heap.size X0 X1 := by rw [hX1]; exact (Below.refl _ _).alloc (Nat.le_refl _) _
      have HX1 : Hid (Box X1 X0.heap.size 47 #[.int .i64 0, .int .i64 0, .slice none 0 0]) := by rw [hX1]; exact Box.new _ _ _
      have hbX : W0.heap.size ≤ X0.heap.size := by omega
      have PJ1 := Lib.hid (PJ0.out.below hb9)
      have PB1 : Hid (Bk X1) := stays_below HBK.out PB0.out hb9
      have hs1 : X0.heap.size ≤ X1.heap.size := hb9.size
      clear hb9
      go_simp
      rw [← hX1]
      clear hX1
      refine hK.out _ _ ?_ (fun hHeld => ?_)
      · (try dsimp only); (exact (HMB.out _ PJ1.out.old).cell 0)
      clear hK KK
      (try simp only [Act.put, List.setIfInBounds_toArray])
      refine wpAnyL_two 2 5 (by kernel_rfl) (by decide) (by decide) rfl rfl (fun KK hK => ?_) (fun KK hK => ?_)
      · go_simp
        go_at_call 53
        (with_reducible refine (impl_identityMatrix0 0 _ (by omega)).mono ?_)
        rintro e X2 ⟨p9, k9, r9, V9, rfl, hi9, hr9, hb9⟩
        obtain ⟨rfl, rfl, rfl⟩ := ident_at (n := 0) (by omega) hi9
        obtain ⟨_, _, L, ho9, hh9⟩ := hr9
        rw [show (ident 0).length = 0 from rfl] at ho9
        obtain ⟨AL, cL, rfl⟩ := ho9.slice
        have PJ2 := Lib.hid (PJ1.out.below hb9)
        have PB2 : Hid (Bk X2) := stays_below HBK.out PB1.out hb9
        have hs2 : X1.heap.size ≤ X2.heap.size := hb9.size
        have HX2 := Lib.hid (HX1.out.below hb9 HX1.out.lt)
        clear hi9 ho9 hh9 hb9
        (try go_wp2_with fail)
        refine hK.out _ _ ?_ (fun hHeld => ?_)
        · (try dsimp only); (exact (HMB.out _ PJ2.out.old).cell 0)
        clear hK KK
        (try simp only [Act.put, List.setIfInBounds_toArray])
        refine wpAnyL_two 5 7 (by kernel_rfl) (by decide) (by decide) rfl rfl (fun KK hK => ?_) (fun KK hK => ?_)
        · refine step_make_full rfl (.tmp 13) (.tmp 13) 26 rfl X2.heap.size 30 i0 (.agg #[.bool false, .slice none 0 0, .slice none 0 0]) 3 Tryz.underlying26 hi hz0 hz1 _ _ _ _ 0 rfl rfl rfl rfl (by rw [hz2]; omega) (by unfold maxLen; omega) (Nat.le_refl _) ?_
          intro X3 ho9 hg9
          have hb9 : Below X2.heap.size X2 X3 := (Below.refl _ _).grown hg9 (Nat.le_refl _) (fun k hk => by cases hk)
          have PJ3 := Lib.hid (PJ2.out.below hb9)
          have PB3 : Hid (Bk X3) := stays_below HBK.out PB2.out hb9
          have hs3 : X2.heap.size ≤ X3.heap.size := hb9.size
          have HX3 := Lib.hid (HX2.out.below hb9 HX2.out.lt)
          clear ho9 hg9 hb9
          refine hK.out _ _ ?_ (fun hHeld => ?_)
          · (try dsimp only); (exact (HMB.out _ PJ3.out.old).cell 0)
          clear hK KK
          (try simp only [Act.put, List.setIfInBounds_toArray])
          refine wpAnyL_one 7 (by kernel_rfl) (by decide) rfl (fun KK hK => ?_)
          have fc0 := HX3.out.cell 0
          have fc1 := HX3.out.cell 1
          have fc2 := HX3.out.cell 2
          have fs0 := HX3.out.free 0
          have fs1 := HX3.out.free 1
          have fs2 := HX3.out.free 2
          simp at fc0 fc1 fc2 fs0 fs1 fs2
          have hXl := HX3.out.lt
          obtain ⟨X4, hX4⟩ : ∃ X, X = ((X3.setCell ⟨X0.heap.size, 0, none⟩ (.int .i64 0)).setCell ⟨X0.heap.size, 1, none⟩ (.int .i64 0)).setCell ⟨X0.heap.size, 2, none⟩ (.slice AL 0 cL) := ⟨_, rfl⟩
          have hk4 : ∀ k, k ≠ X0.heap.size → X4.heap[k]? = X3.heap[k]? := fun k hk => by rw [hX4]; exact set3_other hk
          have hz4 : X4.heap.size = X3.heap.size := by rw [hX4]; simp
          have hs4 : X3.heap.size ≤ X4.heap.size := by omega
          have PJ4 : Hid (J0Y w W0 bc bd X4) := ⟨by rw [hX4]; exact ((PJ3.out.bel.setCell (by have := HKK.out.w0; dsimp only; omega) _).setCell (by have := HKK.out.w0; dsimp only; omega) _).setCell (by have := HKK.out.w0; dsimp only; omega) _, fun k hk e1 e2 => (hk4 k (by omega)).trans (PJ3.out.old k hk e1 e2), by rw [hz4]; exact PJ3.out.siz, (hk4 _ (by have := HKK.out.c1; omega)).trans PJ3.out.cbx, (hk4 _ (by have := HKK.out.d1; omega)).trans PJ3.out.dbx⟩
          have PB4 : Hid (Bk X4) := by rw [hX4]; exact HBK.out _ _ PB3.out ((((KeepsOthers.setCell _ _ _).trans (KeepsOthers.setCell _ _ _)).trans (KeepsOthers.setCell _ _ _)).from _)
          have HX4 : Hid (Box X4 X0.heap.size 47 #[.int .i64 0, .int .i64 0, .slice AL 0 cL]) := by rw [hX4]; refine Lib.hid ?_; have e := ((HX3.out.set_ 0 (.int .i64 0)).set_ 1 (.int .i64 0)).set_ 2 (.slice AL 0 cL); simpa using e
          go_simp
          rw [← hX4]
          clear hX4 fc0 fc1 fc2 fs0 fs1 fs2 hk4 hz4
          refine hK.out _ _ ?_ (fun hHeld => ?_)
          · (try dsimp only); (exact (HMB.out _ PJ4.out.old).cell 0)
          clear hK KK
          (try simp only [Act.put, List.setIfInBounds_toArray])
          refine wpAnyL_last (by kernel_rfl) rfl (fun KK hK => ?_)
          go_simp
          refine hK.out _ _ ?_
          clear hK KK
          (try simp only [Act.put, List.setIfInBounds_toArray])
          refine wpAnyL_done (by kernel_rfl) ?_ _
          (try go_wp2_with fail)
          go_meet
          exact ⟨PJ4, PB4⟩
        · have fc0 := HX2.out.cell 0
          have fc1 := HX2.out.cell 1
          have fc2 := HX2.out.cell 2
          have fs0 := HX2.out.free 0
          have fs1 := HX2.out.free 1
          have fs2 := HX2.out.free 2
          simp at fc0 fc1 fc2 fs0 fs1 fs2
          have hXl := HX2.out.lt
          obtain ⟨X3, hX3⟩ : ∃ X, X = ((X2.setCell ⟨X0.heap.size, 0, none⟩ (.int .i64 0)).setCell ⟨X0.heap.size, 1, none⟩ (.int .i64 0)).setCell ⟨X0.heap.size, 2, none⟩ (.slice AL 0 cL) := ⟨_, rfl⟩
          have hk4 : ∀ k, k ≠ X0.heap.size → X3.heap[k]? = X2.heap[k]? := fun k hk => by rw [hX3]; exact set3_other hk
          have hz4 : X3.heap.size = X2.heap.size := by rw [hX3]; simp
          have hs3 : X2.heap.size ≤ X3.heap.size := by omega
          have PJ3 : Hid (J0Y w W0 bc bd X3) := ⟨by rw [hX3]; exact ((PJ2.out.bel.setCell (by have := HKK.out.w0; dsimp only; omega) _).setCell (by have := HKK.out.w0; dsimp only; omega) _).setCell (by have := HKK.out.w0; dsimp only; omega) _, fun k hk e1 e2 => (hk4 k (by omega)).trans (PJ2.out.old k hk e1 e2), by rw [hz4]; exact PJ2.out.siz, (hk4 _ (by have := HKK.out.c1; omega)).trans PJ2.out.cbx, (hk4 _ (by have := HKK.out.d1; omega)).trans PJ2.out.dbx⟩
          have PB3 : Hid (Bk X3) := by rw [hX3]; exact HBK.out _ _ PB2.out ((((KeepsOthers.setCell _ _ _).trans (KeepsOthers.setCell _ _ _)).trans (KeepsOthers.setCell _ _ _)).from _)
          have HX3 : Hid (Box X3 X0.heap.size 47 #[.int .i64 0, .int .i64 0, .slice AL 0 cL]) := by rw [hX3]; refine Lib.hid ?_; have e := ((HX2.out.set_ 0 (.int .i64 0)).set_ 1 (.int .i64 0)).set_ 2 (.slice AL 0 cL); simpa using e
          go_simp
          rw [← hX3]
          clear hX3 fc0 fc1 fc2 fs0 fs1 fs2 hk4 hz4
          refine hK.out _ _ ?_ (fun hHeld => ?_)
          · (try dsimp only); (exact (HMB.out _ PJ3.out.old).cell 0)
          clear hK KK
          (try simp only [Act.put, List.setIfInBounds_toArray])
          refine wpAnyL_one 5 (by kernel_rfl) (by decide) rfl (fun KK hK => ?_)
          refine step_make_full rfl (.tmp 13) (.tmp 13) 26 rfl X3.heap.size 30 i0 (.agg #[.bool false, .slice none 0 0, .slice none 0 0]) 3 Tryz.underlying26 hi hz0 hz1 _ _ _ _ 0 rfl rfl rfl rfl (by rw [hz2]; omega) (by unfold maxLen; omega) (Nat.le_refl _) ?_
          intro X4 ho9 hg9
          have hb9 : Below X3.heap.size X3 X4 := (Below.refl _ _).grown hg9 (Nat.le_refl _) (fun k hk => by cases hk)
          have PJ4 := Lib.hid (PJ3.out.below hb9)
          have PB4 : Hid (Bk X4) := stays_below HBK.out PB3.out hb9
          have hs4 : X3.heap.size ≤ X4.heap.size := hb9.size
          have HX4 := Lib.hid (HX3.out.below hb9 HX3.out.lt)
          clear ho9 hg9 hb9
          refine hK.out _ _ ?_ (fun hHeld => ?_)
          · (try dsimp only); (exact (HMB.out _ PJ4.out.old).cell 0)
          clear hK KK
          (try simp only [Act.put, List.setIfInBounds_toArray])
          refine wpAnyL_last (by kernel_rfl) rfl (fun KK hK => ?_)
          go_simp
          refine hK.out _ _ ?_
          clear hK KK
          (try simp only [Act.put, List.setIfInBounds_toArray])
          refine wpAnyL_done (by kernel_rfl) ?_ _
          (try go_wp2_with fail)
          go_meet
          exact ⟨PJ4, PB4⟩
      · refine step_make_full rfl (.tmp 13) (.tmp 13) 26 rfl X1.heap.size 30 i0 (.agg #[.bool false, .slice none 0 0, .slice none 0 0]) 3 Tryz.underlying26 hi hz0 hz1 _ _ _ _ 0 rfl rfl rfl rfl (by rw [hz2]; omega) (by unfold maxLen; omega) (Nat.le_refl _) ?_
        intro X2 ho9 hg9
        have hb9 : Below X1.heap.size X1 X2 := (Below.refl _ _).grown hg9 (Nat.le_refl _) (fun k hk => by cases hk)
        have PJ2 := Lib.hid (PJ1.out.below hb9)
        have PB2 : Hid (Bk X2) := stays_below HBK.out PB1.out hb9
        have hs2 : X1.heap.size ≤ X2.heap.size := hb9.size
        have HX2 := Lib.hid (HX1.out.below hb9 HX1.out.lt)
        clear ho9 hg9 hb9
        refine hK.out _ _ ?_ (fun hHeld => ?_)
        · (try dsimp only); (exact (HMB.out _ PJ2.out.old).cell 0)
        clear hK KK
        (try simp only [Act.put, List.setIfInBounds_toArray])
        refine wpAnyL_one 2 (by kernel_rfl) (by decide) rfl (fun KK hK => ?_)
        go_simp
        go_at_call 53
        (with_reducible refine (impl_identityMatrix0 0 _ (by omega)).mono ?_)
        rintro e X3 ⟨p9, k9, r9, V9, rfl, hi9, hr9, hb9⟩
        obtain ⟨rfl, rfl, rfl⟩ := ident_at (n := 0) (by omega) hi9
        obtain ⟨_, _, L, ho9, hh9⟩ := hr9
        rw [show (ident 0).length = 0 from rfl] at ho9
        obtain ⟨AL, cL, rfl⟩ := ho9.slice
        have PJ3 := Lib.hid (PJ2.out.below hb9)
        have PB3 : Hid (Bk X3) := stays_below HBK.out PB2.out hb9
        have hs3 : X2.heap.size ≤ X3.heap.size := hb9.size
        have HX3 := Lib.hid (HX2.out.below hb9 HX2.out.lt)
        clear hi9 ho9 hh9 hb9
        (try go_wp2_with fail)
        refine hK.out _ _ ?_ (fun hHeld => ?_)
        · (try dsimp only); (exact (HMB.out _ PJ3.out.old).cell 0)
        clear hK KK
        (try simp only [Act.put, List.setIfInBounds_toArray])
        refine wpAnyL_one 7 (by kernel_rfl) (by decide) rfl (fun KK hK => ?_)
        have fc0 := HX3.out.cell 0
        have fc1 := HX3.out.cell 1
        have fc2 := HX3.out.cell 2
        have fs0 := HX3.out.free 0
        have fs1 := HX3.out.free 1
        have fs2 := HX3.out.free 2
        simp at fc0 fc1 fc2 fs0 fs1 fs2
        have hXl := HX3.out.lt
        obtain ⟨X4, hX4⟩ : ∃ X, X = ((X3.setCell ⟨X0.heap.size, 0, none⟩ (.int .i64 0)).setCell ⟨X0.heap.size, 1, none⟩ (.int .i64 0)).setCell ⟨X0.heap.size, 2, none⟩ (.slice AL 0 cL) := ⟨_, rfl⟩
        have hk4 : ∀ k, k ≠ X0.heap.size → X4.heap[k]? = X3.heap[k]? := fun k hk => by rw [hX4]; exact set3_other hk
        have hz4 : X4.heap.size = X3.heap.size := by rw [hX4]; simp
        have hs4 : X3.heap.size ≤ X4.heap.size := by omega
        have PJ4 : Hid (J0Y w W0 bc bd X4) := ⟨by rw [hX4]; exact ((PJ3.out.bel.setCell (by have := HKK.out.w0; dsimp only; omega) _).setCell (by have := HKK.out.w0; dsimp only; omega) _).setCell (by have := HKK.out.w0; dsimp only; omega) _, fun k hk e1 e2 => (hk4 k (by omega)).trans (PJ3.out.old k hk e1 e2), by rw [hz4]; exact PJ3.out.siz, (hk4 _ (by have := HKK.out.c1; omega)).trans PJ3.out.cbx, (hk4 _ (by have := HKK.out.d1; omega)).trans PJ3.out.dbx⟩
        have PB4 : Hid (Bk X4) := by rw [hX4]; exact HBK.out _ _ PB3.out ((((KeepsOthers.setCell _ _ _).trans (KeepsOthers.setCell _ _ _)).trans (KeepsOthers.setCell _ _ _)).from _)
        have HX4 : Hid (Box X4 X0.heap.size 47 #[.int .i64 0, .int .i64 0, .slice AL 0 cL]) := by rw [hX4]; refine Lib.hid ?_; have e := ((HX3.out.set_ 0 (.int .i64 0)).set_ 1 (.int .i64 0)).set_ 2 (.slice AL 0 cL); simpa using e
        go_simp
        rw [← hX4]
        clear hX4 fc0 fc1 fc2 fs0 fs1 fs2 hk4 hz4
        refine hK.out _ _ ?_ (fun hHeld => ?_)
        · (try dsimp only); (exact (HMB.out _ PJ4.out.old).cell 0)
        clear hK KK
        (try simp only [Act.put, List.setIfInBounds_toArray])
        refine wpAnyL_last (by kernel_rfl) rfl (fun KK hK => ?_)
        go_simp
        refine hK.out _ _ ?_
        clear hK KK
        (try simp only [Act.put, List.setIfInBounds_toArray])
        refine wpAnyL_done (by kernel_rfl) ?_ _
        (try go_wp2_with fail)
        go_meet
        exact ⟨PJ4, PB4⟩
  obtain ⟨PJ1, PB1⟩ := hcut
  obtain ⟨w1, rfl⟩ : ∃ q, q = wc := ⟨_, rfl⟩
  have HMB1 := Lib.hid (HMB.out _ PJ1.out.old)
  have em0 := HMB1.out.cell 0
  simp at em0
  go_wp2_with fail
  clear em0
  go_loopw [17] (fun z wq => z = .int .i64 0 ∧ Hid (J0Y w W0 bc bd wq) ∧ Hid (Bk wq)) (fun _ _ => 0)
  case atStart => exact ⟨rfl, PJ1, PB1⟩
  case round =>
    obtain ⟨rfl, HJ, HB⟩ := hrel
    go_wp2_with fail
    go_end0
    exact ⟨⟨_, rfl⟩, .inl ⟨HJ.out, HB.out⟩⟩
set_option maxHeartbeats 6400000 in
theorem impl_factor0 (p k : Int) (A : Option Addr) (n c : Nat) (rs : List RD) (w : World) (h : InV w A n rs) (hp : -9223372036854775808 ≤ p ∧ p ≤ 9223372036854775807) (hk : -9223372036854775808 ≤ k ∧ k ≤ 9223372036854775807) (hc : n ≤ c) :
    Calls Tryz.prog 27 #[.agg #[.int .i64 p, .int .i64 k, .slice A n c]] w fun e w' => FactorEnd p k rs w w' e := by
  obtain ⟨i0, hi, hz0, hz1, hz2⟩ := info_parts Tryz.infoR
  obtain ⟨W1, hW1⟩ : ∃ W, W = (((w.alloc (.cells #[.int .i64 p, .int .i64 k, .slice A n c] 47)).alloc (.cells #[.int .i64 0, .int .i64 0, .slice none 0 0] 47)).alloc (.cells #[.slice none 0 0] 26)).alloc (.cells #[.bool false] 4) := ⟨_, rfl⟩
  have b0_1 : Hid (Box W1 w.heap.size 47 #[.int .i64 p, .int .i64 k, .slice A n c]) := by rw [hW1]; exact (((Box.new _ _ _).alloc _).alloc _).alloc _
  have b2_1 : Hid (Box W1 (w.heap.size + 1) 47 #[.int .i64 0, .int .i64 0, .slice none 0 0]) := by rw [hW1]; exact ((Box.at' (by simp)).alloc _).alloc _
  have b3_1 : Hid (Box W1 (w.heap.size + 1 + 1) 26 #[.slice none 0 0]) := by rw [hW1]; exact (Box.at' (by simp)).alloc _
  have b4_1 : Hid (Box W1 (w.heap.size + 1 + 1 + 1) 4 #[.bool false]) := by rw [hW1]; exact Box.at' (by simp)
  have BW1 : Hid (Below w.heap.size w W1) := by rw [hW1]; exact ((((Below.refl _ _).alloc (Nat.le_refl _) _).alloc (by simp) _).alloc (by simp; omega) _).alloc (by simp; omega) _
  have hz1' : W1.heap.size = w.heap.size + 1 + 1 + 1 + 1 := by rw [hW1]; simp
  have HV := Lib.hid h
  have HP := Lib.hid hp
  have HK := Lib.hid hk
  have hlen := Lib.hid h.1
  clear h hp hk
  refine callsIn_wide.1 (callsIn_of_wp_marks (n := 4) Tryz.func27 rfl trivial ?_)
  simp only [Tryz.ntmps27, List.size_toArray, List.length_cons, List.length_nil, Nat.reduceAdd, Nat.reduceSub, Array.replicate_succ, Array.replicate_zero, List.push_toArray, List.append_toArray, List.nil_append, List.cons_append]
  refine wpIn_wide.2 ?_
  go_wp2_with fail
  rw [← hW1]
  clear hW1
  refine (impl_isSymmetric0 p k A n c rs _ (HV.out.below BW1.out) HP.out HK.out hc).mono ?_
  rintro e w2 ⟨b, rfl, hq, hb⟩
  have HQ := Lib.hid hq
  have b0_2 := Lib.hid (b0_1.out.below hb b0_1.out.lt)
  have b2_2 := Lib.hid (b2_1.out.below hb b2_1.out.lt)
  have b3_2 := Lib.hid (b3_1.out.below hb b3_1.out.lt)
  have b4_2 := Lib.hid (b4_1.out.below hb b4_1.out.lt)
  have BW2 := Lib.hid (BW1.out.trans (hb.mono BW1.out.size))
  have hz2' : W1.heap.size ≤ w2.heap.size := hb.size
  clear hq hb
  cases b
  case false =>
    have HN : Hid (¬ FactorOk p k rs) := fun q => by have := HQ.out.2 q.1; cases this
    have e0 := b2_2.out.cell 0
    have e1 := b2_2.out.cell 1
    have e2 := b2_2.out.cell 2
    have f0 := b2_2.out.free 0
    have f1 := b2_2.out.free 1
    have f2 := b2_2.out.free 2
    have e3 := b3_2.out.cell 0
    have f3 := b3_2.out.free 0
    have e4 := b4_2.out.cell 0
    have f4 := b4_2.out.free 0
    simp at e0 e1 e2 e3 e4
    go_wp2_with fail
    refine ⟨.tuple #[.agg #[.int .i64 0, .int .i64 0, .slice none 0 0], .slice none 0 0, .bool false], (by simp [results, Tryz.results27, e0, e1, e2, e3, e4, go_sem]), ?_⟩
    exact factorEnd_no HN.out ((((((BW2.out.setCell (by dsimp only; omega) _).setCell (by dsimp only; omega) _).setCell (by dsimp only; omega) _).setCell (by dsimp only; omega) _).setCell (by dsimp only; omega) _))
  have HS := Lib.hid (HQ.out.1 rfl)
  obtain ⟨N, rfl⟩ : ∃ N : Nat, p = N := ⟨p.toNat, by have := HS.out.1.1; omega⟩
  obtain rfl : k = (N : Int) := HS.out.2.1.symm
  have hN24 : N ≤ 24 := by have := HS.out.1.1; omega
  have HNN : Hid (n = N * N) := by have := mok_plen HS.out.1; rw [hlen.out] at this; exact this
  obtain ⟨W3, hW3⟩ : ∃ W, W = (w2.alloc (.cells #[.slice none 0 0] 26)).alloc (.cells #[.slice none 0 0] 26) := ⟨_, rfl⟩
  have hb3 : Below w2.heap.size w2 W3 := by rw [hW3]; exact ((Below.refl _ _).alloc (Nat.le_refl _) _).alloc (by simp) _
  have c5_3 : Hid (Box W3 w2.heap.size 26 #[.slice none 0 0]) := by rw [hW3]; exact (Box.new _ _ _).alloc _
  have c6_3 : Hid (Box W3 (w2.heap.size + 1) 26 #[.slice none 0 0]) := by rw [hW3]; exact Box.at' (by simp)
  have hz3 : W3.heap.size = w2.heap.size + 1 + 1 := by rw [hW3]; simp
  have HB3 := Lib.hid hb3
  have b0_3 := Lib.hid (b0_2.out.below hb3 b0_2.out.lt)
  have e0 := b0_3.out.cell 0
  have e1 := b0_3.out.cell 1
  have e2 := b0_3.out.cell 2
  simp at e0 e1 e2
  rw [hW3] at e0 e1 e2
  clear hb3
  go_wp2_with fail
  rw [← hW3]
  clear hW3 e0 e1 e2
  refine (impl_factorRows N N A n c _).mono ?_
  rintro e w4 ⟨mb, rfl, hmb, hbm, hb4⟩
  have hz4 : W3.heap.size ≤ w4.heap.size := hb4.size
  have HB4 := Lib.hid (HB3.out.trans (hb4.mono HB3.out.size))
  have HMB := Lib.hid hbm
  have c5_4 := Lib.hid (c5_3.out.below hb4 c5_3.out.lt)
  have c6_4 := Lib.hid (c6_3.out.below hb4 c6_3.out.lt)
  clear hbm hb4
  go_wp2_with fail
  have HB0 : Hid (Below w.heap.size w w4) := BW2.out.trans (HB4.out.mono BW2.out.size)
  have b2_4 := Lib.hid (b2_2.out.below HB4.out b2_2.out.lt)
  have b0_4 := Lib.hid (b0_2.out.below HB4.out b0_2.out.lt)
  have b3_4 := Lib.hid (b3_2.out.below HB4.out b3_2.out.lt)
  have b4_4 := Lib.hid (b4_2.out.below HB4.out b4_2.out.lt)
  have HFK : Hid (FK w w4 w2.heap.size (w2.heap.size + 1)) := ⟨by omega, by omega, by omega, by omega, by omega, by omega⟩
  have hmb0 : mb ≠ w2.heap.size := by omega
  have hmb1 : mb ≠ w2.heap.size + 1 := by omega
  have hn20 : N * N ≤ 576 := mul_le_576 hN24 hN24
  by_cases h0 : N = 0
  case pos =>
    subst h0
    obtain rfl : n = 0 := HNN.out
    have hr0 : rs = [] := List.eq_nil_of_length_eq_zero hlen.out
    subst hr0
    refine (wpIn_wide (n := 4)).1 ?_
    refine wpIn_rangeFunc_joint (F := Fence.wide) (n := 4) rfl (by omega) (gf := 149) (lb := #[.pointer (some ⟨mb, 0, none⟩)]) rfl trivial (enters_of Tryz.func149 (by kernel_rfl) rfl)
      (impl_factorIt0 A c w w4 w2.heap.size (w2.heap.size + 1) mb (fun _ => False) HFK.out HMB.out hmb0 hmb1) (fun _ => rfl) (fun o o' => J0Y.below ⟨HB0.out, fun _ _ _ _ => rfl, Nat.le_refl _, c5_4.out, c6_4.out⟩ (((Below.refl w4.heap.size w4).alloc (Nat.le_refl _) o).alloc (by simp) o'))
      (fun _ _ _ => False) ?assign0 ?body0 ?done0 ?stop0
    case assign0 =>
      intro l x W K hl hr hJ hKK
      exact absurd hJ.1 (Nat.not_lt_zero _)
    case body0 =>
      intro l x a' W hl hr hJ
      exact hJ.elim
    case stop0 =>
      intro W o hS hr hK
      exact hS.elim
    case done0 =>
      intro W o hJ0 hr hK
      obtain ⟨X, hX⟩ : ∃ X, X = W.putObj (w4.heap.size + 1) o := ⟨_, rfl⟩
      have hot : ∀ k, k ≠ w4.heap.size + 1 → X.heap[k]? = W.heap[k]? := fun k hk => by rw [hX]; exact World.putObj_heap_other hk
      have HKX : Hid (X.heap[w4.heap.size]? = some (.deferred (some []))) := (hot _ (by omega)).trans hK
      have r1 : Hid (Box X w.heap.size 47 #[.int .i64 0, .int .i64 0, .slice A 0 c]) := (hot _ (by omega)).trans ((hJ0.old _ (by omega) (by omega) (by omega)).trans b0_4.out)
      have r2 : Hid (Box X (w.heap.size + 1) 47 #[.int .i64 0, .int .i64 0, .slice none 0 0]) := (hot _ (by omega)).trans ((hJ0.old _ b2_4.out.lt (by omega) (by omega)).trans b2_4.out)
      have r3 : Hid (Box X (w.heap.size + 1 + 1) 26 #[.slice none 0 0]) := (hot _ (by omega)).trans ((hJ0.old _ b3_4.out.lt (by omega) (by omega)).trans b3_4.out)
      have r4 : Hid (Box X (w.heap.size + 1 + 1 + 1) 4 #[.bool false]) := (hot _ (by omega)).trans ((hJ0.old _ b4_4.out.lt (by omega) (by omega)).trans b4_4.out)
      have c5 : Hid (Box X w2.heap.size 26 #[.slice none 0 0]) := (hot _ (by omega)).trans hJ0.cbx
      have c6 : Hid (Box X (w2.heap.size + 1) 26 #[.slice none 0 0]) := (hot _ (by omega)).trans hJ0.dbx
      have BX : Hid (Below w.heap.size w X) := by rw [hX]; exact below_putObj hJ0.bel (by omega) o
      dsimp only
      rw [← hX]
      clear hX hJ0 hr hK hot
      have hSy : FactorOk 0 0 ([] : List RD) := ⟨⟨HS.out.1, rfl, HS.out.2.2⟩, fun k hk => absurd hk (Nat.not_lt_zero k)⟩
      have HSY := Lib.hid hSy
      clear hSy
      have HCO : Hid (OwnV X w4.heap.size (.slice none 0 0) 0 []) := OwnV.none_ _ _
      have HDO : Hid (OwnV X w4.heap.size (.slice none 0 0) 0 []) := OwnV.none_ _ _
      have HLH : Hid (Has [] (lowF 0 [])) := by have e := lowF_length 0 []; rw [List.eq_nil_of_length_eq_zero e]; exact trivial
      have HDH : Hid (Has [] (numF 0 [])) := by have e := numF_length 0 []; rw [List.eq_nil_of_length_eq_zero e]; exact trivial
      have HCD : Hid (∀ k, (Value.slice none 0 0).ownBlock = some k → (Value.slice none 0 0).ownBlock ≠ some k) := fun k hk => by simp [Value.ownBlock] at hk
      have HFR : Hid (∀ x ∈ ([] : List El), ∀ y ∈ ([] : List El), Far x y) := fun x hx => absurd hx (by simp)
      go_upto_region 11 with fail
      obtain ⟨Xd, hXd⟩ : ∃ Y, Y = X.drew := ⟨_, rfl⟩
      have r1_0 : Hid (Box Xd w.heap.size 47 #[.int .i64 0, .int .i64 0, .slice A 0 c]) := by rw [hXd]; exact r1.out
      have r2_0 : Hid (Box Xd (w.heap.size + 1) 47 #[.int .i64 0, .int .i64 0, .slice none 0 0]) := by rw [hXd]; exact r2.out
      have r3_0 : Hid (Box Xd (w.heap.size + 1 + 1) 26 #[.slice none 0 0]) := by rw [hXd]; exact r3.out
      have r4_0 : Hid (Box Xd (w.heap.size + 1 + 1 + 1) 4 #[.bool false]) := by rw [hXd]; exact r4.out
      have c5_0 : Hid (Box Xd w2.heap.size 26 #[.slice none 0 0]) := by rw [hXd]; exact c5.out
      have c6_0 : Hid (Box Xd (w2.heap.size + 1) 26 #[.slice none 0 0]) := by rw [hXd]; exact c6.out
      have BX_0 : Hid (Below w.heap.size w Xd) := by rw [hXd]; exact BX.out.drew
      have HK_0 : Hid (Xd.heap[w4.heap.size]? = some (.deferred (some []))) := by rw [hXd]; exact HKX.out
      have HC_0 : Hid (OwnV Xd w4.heap.size (.slice none 0 0) 0 []) := by rw [hXd]; exact HCO.out
      have HD_0 : Hid (OwnV Xd w4.heap.size (.slice none 0 0) 0 []) := by rw [hXd]; exact HDO.out
      obtain ⟨Y1, hY1⟩ : ∃ Y, Y = ((Xd.setCell ⟨w.heap.size + 1, 0, none⟩ (.int .i64 0)).setCell ⟨w.heap.size + 1, 1, none⟩ (.int .i64 0)).setCell ⟨w.heap.size + 1, 2, none⟩ (.slice none 0 0) := ⟨_, rfl⟩
      obtain ⟨Y2, hY2⟩ : ∃ Y, Y = Y1.setCell ⟨w.heap.size + 1 + 1, 0, none⟩ (.slice none 0 0) := ⟨_, rfl⟩
      obtain ⟨Y3, hY3⟩ : ∃ Y, Y = Y2.setCell ⟨w.heap.size + 1 + 1 + 1, 0, none⟩ (.bool true) := ⟨_, rfl⟩
      have s1 : ∀ k, k ≠ w.heap.size + 1 → Y1.heap[k]? = Xd.heap[k]? := fun k hk => by rw [hY1]; exact set3_other hk
      have s2 : ∀ k, k ≠ w.heap.size + 1 + 1 → Y2.heap[k]? = Y1.heap[k]? := fun k hk => by rw [hY2]; exact Below.heap_setCell _ _ _ k hk
      have s3 : ∀ k, k ≠ w.heap.size + 1 + 1 + 1 → Y3.heap[k]? = Y2.heap[k]? := fun k hk => by rw [hY3]; exact Below.heap_setCell _ _ _ k hk
      have r1_1 : Hid (Box Y1 _ _ _) := (s1 _ (by omega)).trans r1_0.out
      have c5_1 : Hid (Box Y1 _ _ _) := (s1 _ (by omega)).trans c5_0.out
      have c6_1 : Hid (Box Y1 _ _ _) := (s1 _ (by omega)).trans c6_0.out
      have r3_1 : Hid (Box Y1 _ _ _) := (s1 _ (by omega)).trans r3_0.out
      have r4_1 : Hid (Box Y1 _ _ _) := (s1 _ (by omega)).trans r4_0.out
      have r2_1 : Hid (Box Y1 (w.heap.size + 1) 47 #[.int .i64 0, .int .i64 0, .slice none 0 0]) := by
        rw [hY1]; refine Lib.hid ?_
        have q := ((r2_0.out.set_ 0 (.int .i64 0)).set_ 1 (.int .i64 0)).set_ 2 (.slice none 0 0)
        simpa using q
      have r1_2 : Hid (Box Y2 _ _ _) := (s2 _ (by omega)).trans r1_1.out
      have c5_2 : Hid (Box Y2 _ _ _) := (s2 _ (by omega)).trans c5_1.out
      have c6_2 : Hid (Box Y2 _ _ _) := (s2 _ (by omega)).trans c6_1.out
      have r2_2 : Hid (Box Y2 _ _ _) := (s2 _ (by omega)).trans r2_1.out
      have r4_2 : Hid (Box Y2 _ _ _) := (s2 _ (by omega)).trans r4_1.out
      have r3_2 : Hid (Box Y2 (w.heap.size + 1 + 1) 26 #[.slice none 0 0]) := by
        rw [hY2]; refine Lib.hid ?_
        have q := r3_1.out.set_ 0 (.slice none 0 0)
        simpa using q
      have r2_3 : Hid (Box Y3 _ _ _) := (s3 _ (by omega)).trans r2_2.out
      have r3_3 : Hid (Box Y3 _ _ _) := (s3 _ (by omega)).trans r3_2.out
      have r4_3 : Hid (Box Y3 (w.heap.size + 1 + 1 + 1) 4 #[.bool true]) := by
        rw [hY3]; refine Lib.hid ?_
        have q := r4_2.out.set_ 0 (.bool true)
        simpa using q
      have s4 : ∀ k, w4.heap.size ≤ k → Y3.heap[k]? = Xd.heap[k]? := fun k hk => (s3 k (by omega)).trans ((s2 k (by omega)).trans (s1 k (by omega)))
      have HK_3 : Hid (Y3.heap[w4.heap.size]? = some (.deferred (some []))) := (s4 _ (Nat.le_refl _)).trans HK_0.out
      have HC_3 : Hid (OwnV Y3 w4.heap.size (.slice none 0 0) 0 []) := HC_0.out.dep fun k hk => s4 k (HC_0.out.lt k hk).1
      have HD_3 : Hid (OwnV Y3 w4.heap.size (.slice none 0 0) 0 []) := HD_0.out.dep fun k hk => s4 k (HD_0.out.lt k hk).1
      have BX_3 : Hid (Below w.heap.size w Y3) := by
        rw [hY3, hY2, hY1]
        exact ((((BX_0.out.setCell (by dsimp only; omega) _).setCell (by dsimp only; omega) _).setCell (by dsimp only; omega) _).setCell (by dsimp only; omega) _).setCell (by dsimp only; omega) _
      clear s1 s2 s3 s4 r1 r2 r3 r4 c5 c6 BX HKX HCO HDO
      refine wp_only ?_
      refine wp_region_last (S := (fun w' => w'.cell? ⟨w.heap.size, 0, none⟩ = some (.int .i64 0) ∧ w'.cell? ⟨w.heap.size, 1, none⟩ = some (.int .i64 0) ∧ w'.cell? ⟨w2.heap.size, 0, none⟩ = some (.slice none 0 0) ∧ w'.cell? ⟨w2.heap.size + 1, 0, none⟩ = some (.slice none 0 0))) 9 (by kernel_rfl) ?_ (fun hHeld => ?_)
      · (rw [← hXd]); (exact ⟨r1_0.out.cell 0, r1_0.out.cell 1, c5_0.out.cell 0, c6_0.out.cell 0⟩)
      rw [← hXd] at hHeld ⊢
      clear hXd
      refine wpAnyL_go (i := 0) (d := some 28) (v := ?_) (y := 8) [7, 5, 1, 0] (by rfl) (by kernel_rfl) (fun _ _ _ h => h) (by assumption) ?_ ?_
      rotate_left 1
      · (intro oS hoS wS hSw; obtain rfl := Option.some.inj hoS; (try dsimp only at hSw); go_simp; try with_reducible rfl)
      (try simp only [Act.put, List.setIfInBounds_toArray])
      refine wpAnyL_go (i := 1) (d := some 29) (v := ?_) (y := 8) [7, 5, 1] (by rfl) (by kernel_rfl) (fun _ _ _ h => h) (by assumption) ?_ ?_
      rotate_left 1
      · (intro oS hoS wS hSw; obtain rfl := Option.some.inj hoS; (try dsimp only at hSw); go_simp; try with_reducible rfl)
      (try simp only [Act.put, List.setIfInBounds_toArray])
      refine wpAnyL_go (i := 2) (d := some 30) (v := ?_) (y := 8) [7, 5, 3, 2] (by rfl) (by kernel_rfl) (fun _ _ _ h => h) (by assumption) ?_ ?_
      rotate_left 1
      · (intro oS hoS wS hSw; obtain rfl := Option.some.inj hoS; (try dsimp only at hSw); go_simp; try with_reducible rfl)
      (try simp only [Act.put, List.setIfInBounds_toArray])
      refine wpAnyL_go (i := 3) (d := some 31) (v := ?_) (y := 8) [7, 5, 3] (by rfl) (by kernel_rfl) (fun _ _ _ h => h) (by assumption) ?_ ?_
      rotate_left 1
      · (intro oS hoS wS hSw; obtain rfl := Option.some.inj hoS; (try dsimp only at hSw); go_simp; try with_reducible rfl)
      (try simp only [Act.put, List.setIfInBounds_toArray])
      refine wpAnyL_go (i := 4) (d := some 32) (v := ?_) (y := 8) [7, 5, 4] (by rfl) (by kernel_rfl) (fun _ _ _ h => h) (by assumption) ?_ ?_
      rotate_left 1
      · (intro oS hoS wS hSw; obtain rfl := Option.some.inj hoS; (try dsimp only at hSw); go_simp; try with_reducible rfl)
      (try simp only [Act.put, List.setIfInBounds_toArray])
      refine wpAnyL_go (i := 5) (d := some 33) (v := ?_) (y := 8) [7, 5] (by rfl) (by kernel_rfl) (fun _ _ _ h => h) (by assumption) ?_ ?_
      rotate_left 1
      · (intro oS hoS wS hSw; obtain rfl := Option.some.inj hoS; (try dsimp only at hSw); go_simp; try with_reducible rfl)
      (try simp only [Act.put, List.setIfInBounds_toArray])
      refine wpAnyL_go (i := 6) (d := some 34) (v := ?_) (y := 8) [6] (by rfl) (by kernel_rfl) (fun _ _ _ h => h) (by assumption) ?_ ?_
      rotate_left 1
      · (intro oS hoS wS hSw; obtain rfl := Option.some.inj hoS; (try dsimp only at hSw); go_simp; try with_reducible rfl)
      (try simp only [Act.put, List.setIfInBounds_toArray])
      have fc0 := r2_0.out.cell 0
      have fc1 := r2_0.out.cell 1
      have fc2 := r2_0.out.cell 2
      have fs0 := r2_0.out.free 0
      have fs1 := r2_0.out.free 1
      have fs2 := r2_0.out.free 2
      simp at fc0 fs0 fc1 fs1 fc2 fs2
      refine wpAnyL_one 7 (by kernel_rfl) (by decide) rfl (fun KK hK => ?_)
      go_simp
      rw [← hY1]
      clear hY1
      clear fc0 fs0 fc1 fs1 fc2 fs2
      refine hK.out _ _ ?_ (fun hHeld => ?_)
      · (try dsimp only); (exact ⟨r1_1.out.cell 0, r1_1.out.cell 1, c5_1.out.cell 0, c6_1.out.cell 0⟩)
      clear hK KK
      (try simp only [Act.put, List.setIfInBounds_toArray])
      have fc0 := r3_1.out.cell 0
      have fs0 := r3_1.out.free 0
      simp at fc0 fs0
      refine wpAnyL_one 8 (by kernel_rfl) (by decide) rfl (fun KK hK => ?_)
      go_simp
      rw [← hY2]
      clear hY2
      clear fc0 fs0
      refine hK.out _ _ ?_ (fun hHeld => ?_)
      · (try dsimp only); (exact ⟨r1_2.out.cell 0, r1_2.out.cell 1, c5_2.out.cell 0, c6_2.out.cell 0⟩)
      clear hK KK
      (try simp only [Act.put, List.setIfInBounds_toArray])
      have fc0 := r4_2.out.cell 0
      have fs0 := r4_2.out.free 0
      simp at fc0 fs0
      refine wpAnyL_last (by kernel_rfl) rfl (fun KK hK => ?_)
      go_simp
      rw [← hY3]
      clear hY3
      clear fc0 fs0
      refine hK.out _ _ ?_
      clear hK KK
      (try simp only [Act.put, List.setIfInBounds_toArray])
      refine wpAnyL_done (by kernel_rfl) ?_ _
      dsimp only
      go_wp2_with fail
      refine ⟨by simp, .inl ⟨_, _, rfl, run_takeDeferred HK_3.out, ?_⟩⟩
      have q2 := (show (Y3.putObj w4.heap.size (.deferred none)).heap[_]? = Y3.heap[_]? from World.putObj_heap_other (show w.heap.size + 1 ≠ w4.heap.size by omega)).trans r2_3.out
      have q3 := (show (Y3.putObj w4.heap.size (.deferred none)).heap[_]? = Y3.heap[_]? from World.putObj_heap_other (show w.heap.size + 1 + 1 ≠ w4.heap.size by omega)).trans r3_3.out
      have q4 := (show (Y3.putObj w4.heap.size (.deferred none)).heap[_]? = Y3.heap[_]? from World.putObj_heap_other (show w.heap.size + 1 + 1 + 1 ≠ w4.heap.size by omega)).trans r4_3.out
      obtain ⟨Y4, hY4⟩ : ∃ Y, Y = Y3.putObj w4.heap.size (.deferred none) := ⟨_, rfl⟩
      have HKC : KeepC Y3 Y4 := by rw [hY4]; exact keepC_putObj2 _ HK_3.out rfl
      have B4 : Below w.heap.size w Y4 := by rw [hY4]; exact below_putObj BX_3.out (by omega) _
      rw [← hY4] at q2 q3 q4 ⊢
      clear hY4
      have k2 : Box Y4 (w.heap.size + 1) 47 #[.int .i64 0, .int .i64 0, .slice none 0 0] := q2
      have k3 : Box Y4 (w.heap.size + 1 + 1) 26 #[.slice none 0 0] := q3
      have k4 : Box Y4 (w.heap.size + 1 + 1 + 1) 4 #[.bool true] := q4
      have e0 := k2.cell 0
      have e1 := k2.cell 1
      have e2 := k2.cell 2
      have e3 := k3.cell 0
      have e4 := k4.cell 0
      simp at e0 e1 e2 e3 e4
      have HFO : FactorOk ((0 : Nat) : Int) ((0 : Nat) : Int) ([] : List RD) := HSY.out
      refine ⟨.tuple #[.agg #[.int .i64 0, .int .i64 0, .slice none 0 0], .slice none 0 0, .bool true], (by simp [results, Tryz.results27, e0, e1, e2, e3, e4, go_sem]), ?_⟩
      have hCy := HC_3.out.keepC HKC
      have hDy := HD_3.out.keepC HKC
      refine factorEnd_yes (n := 0) HFO (hCy.lower (by omega)) HLH.out (hDy.lower (by omega)) HDH.out (fun j hj hd => ?_) B4
      rcases hj with hj | ⟨y, hy, hj⟩
      · rcases hd with hd | ⟨z, hz, hd⟩
        · exact HCD.out j hj hd
        · exact el_other (hDy.2.2.1 z hz) hCy.2.1 (by decide) j hd hj
      · rcases hd with hd | ⟨z, hz, hd⟩
        · exact el_other (hCy.2.2.1 y hy) hDy.2.1 (by decide) j hj hd
        · exact HFR.out y hy z hz j hj hd
  have hN0 : 0 < N := by omega
  obtain ⟨Rx, hRx⟩ : ∃ R : World → Prop, R = fun W => ¬ FacOk N rs ∧ Below w.heap.size w W ∧ Box W (w.heap.size + 1) 47 #[.int .i64 0, .int .i64 0, .slice none 0 0] ∧ Box W (w.heap.size + 1 + 1) 26 #[.slice none 0 0] ∧ Box W (w.heap.size + 1 + 1 + 1) 4 #[.bool false] := ⟨_, rfl⟩
  have HRX := Lib.hid hRx
  clear hRx
  refine (wpIn_wide (n := 4)).1 ?_
  refine wpIn_rangeFunc_joint (F := Fence.wide) (n := 4) rfl (by omega) (gf := 149) (lb := #[.pointer (some ⟨mb, 0, none⟩)]) rfl trivial (enters_of Tryz.func149 (by kernel_rfl) rfl)
    (impl_factorIt N n A c rs w w4 w2.heap.size (w2.heap.size + 1) mb Rx HV.out HNN.out hN24 hN0 HS.out.1.all hc HFK.out HMB.out hmb0 hmb1) (fun _ => rfl) (fun o o' => J0Y.below ⟨HB0.out, fun _ _ _ _ => rfl, Nat.le_refl _, c5_4.out, c6_4.out⟩ (((Below.refl w4.heap.size w4).alloc (Nat.le_refl _) o).alloc (by simp) o'))
    (fun x a' W => ∃ nb cv dv, w4.heap.size ≤ nb ∧ a' = { tmps := #[.agg #[.int .i64 N, .int .i64 N, .slice A n c], .pointer (some ⟨w.heap.size, 0, none⟩), .pointer (some ⟨w.heap.size + 1, 0, none⟩), .pointer (some ⟨w.heap.size + 1 + 1, 0, none⟩), .pointer (some ⟨w.heap.size + 1 + 1 + 1, 0, none⟩), .pointer (some ⟨w2.heap.size, 0, none⟩), .pointer (some ⟨w2.heap.size + 1, 0, none⟩), x.row, .pointer (some ⟨nb, 0, none⟩), .agg #[.int .i64 N, .int .i64 N, .slice A n c], .bool true, .bool false, undef, .agg #[.int .i64 N, .int .i64 N, .slice A n c], .func (.func 149) #[] #[.pointer (some ⟨mb, 0, none⟩)], x.row, .agg #[.bool x.e.g, x.e.v, x.e.u], undef, undef, undef, undef, undef, undef, undef, undef, undef, undef, undef, undef, undef, undef, undef, undef, undef, undef], defers := [] } ∧ Box W nb 30 #[.bool x.e.g, x.e.v, x.e.u] ∧ (x.i < N ∧ FJ N n rs w w4 w2.heap.size (w2.heap.size + 1) x.lb x.G x.cL x.Gd x.cD (rowsP (x.i + 1) 0) (x.i + 1) x.i x.i cv dv x.L x.D W ∧ (∃ c', x.row = .slice (some ⟨x.G, x.i * N * 3, none⟩) N c') ∧ x.D[x.i]? = some x.e ∧ ∀ t, t < x.i → (fD N rs t).pos) ∧ (∀ k, cv.ownBlock = some k → k < nb) ∧ ∀ k, dv.ownBlock = some k → k < nb)
    ?assign ?body ?done ?stop
  case assign =>
    intro l x W K hl hr hJ hKK
    obtain ⟨G, cL, Gd, cD, lb, i, row, E, L, D⟩ := x
    obtain ⟨hiN, ⟨cv, dv, hF⟩, ⟨cr, hrow⟩, hE, hpos⟩ := hJ
    dsimp only at hiN hF hrow hE hpos
    subst hrow
    obtain ⟨fd, hfd⟩ : ∃ f, f = fD N rs i := ⟨_, rfl⟩
    obtain ⟨A4, c4, B4, d4, hDE, ho4, _⟩ := hF.dow.elr hF.dha (show (numP N rs (i + 1))[i]? = some fd by rw [numP_at hiN, if_pos (by omega), hfd])
    rw [hE] at hDE
    obtain rfl := Option.some.inj hDE
    have HF := Lib.hid hF
    have HE := Lib.hid hE
    have HPOS := Lib.hid hpos
    have HKQ := Lib.hid hKK
    have HR := Lib.hid hr
    clear hF hE hpos hKK hr ho4 hDE hfd
    dsimp only [encY, qEl]
    gi_wp2
    have hlW : l < W.heap.size := by obtain ⟨r, hr⟩ := HR.out; exact (Array.getElem?_eq_some_iff.1 hr).1
    have hbx := Box.new W 30 #[.bool fd.g, .slice A4 fd.xs.length c4, .slice B4 fd.ds.length d4]
    have hr1 : ∃ r, (W.alloc (.cells #[.bool fd.g, .slice A4 fd.xs.length c4, .slice B4 fd.ds.length d4] 30)).heap[l]? = some (.loop r) := by
      obtain ⟨r, hr⟩ := HR.out
      exact ⟨r, (Below.heap_alloc W _ l hlW).trans hr⟩
    refine HKQ.out _ _ ((KeepsOthers.alloc _ _).from _) fun o => ⟨W.heap.size, cv, dv, HF.out.siz, rfl, ?_, ⟨hiN, ?_, ⟨cr, rfl⟩, HE.out, HPOS.out⟩, fun k hk => (HF.out.cow.lt k (.inl hk)).2, fun k hk => (HF.out.eow.lt k (.inl hk)).2⟩
    · exact (World.putObj_heap_other (by omega)).trans hbx
    · exact (HF.out.below ((Below.refl _ _).alloc (Nat.le_refl _) _)).putObj HFK.out hl hr1 o
  case body =>
    rintro l x a' W hl hr ⟨nb, cv, dv, hnb, rfl, hbx, hJ, hcb, hdb⟩
    obtain ⟨G, cL, Gd, cD, lb, i, row, E, L, D⟩ := x
    obtain ⟨hiN, hF, ⟨cr, hrow⟩, hE, hpos⟩ := hJ
    dsimp only at hiN hF hrow hE hpos
    subst hrow
    obtain ⟨fd, hfd⟩ : ∃ f, f = fD N rs i := ⟨_, rfl⟩
    obtain ⟨A4, c4, B4, d4, hDE, ho4, _⟩ := hF.dow.elr hF.dha (show (numP N rs (i + 1))[i]? = some fd by rw [numP_at hiN, if_pos (by omega), hfd])
    rw [hE] at hDE
    obtain rfl := Option.some.inj hDE
    have hrl : rs.length = N * N := by rw [hlen.out, HNN.out]
    have HGD : Hid (fd.ok ∨ fd = RD.zero) := by rw [hfd]; exact fD_good N rs i HS.out.1.all hrl hiN
    have gr := RD.gr HGD.out
    have I4 : Hid (InI W A4 fd.xs.length fd.xs) := in_gr gr.short.1 gr.nr ho4.1
    have J4 : Hid (InI W B4 fd.ds.length fd.ds) := in_gr gr.short.2 gr.dr ho4.2.1
    have R4 : Hid (Room A4 fd.xs.length c4) := room_own ho4.1
    have S4 : Hid (Room B4 fd.ds.length d4) := room_own ho4.2.1
    have h4n := I4.out.2.1
    have h4m := J4.out.2.1
    have HF := Lib.hid hF
    have HE := Lib.hid hE
    have HPOS := Lib.hid hpos
    have HFD := Lib.hid hfd
    have HR := Lib.hid hr
    have HBX : Hid (Box W nb 30 #[.bool fd.g, .slice A4 fd.xs.length c4, .slice B4 fd.ds.length d4]) := hbx
    clear hF hE hpos hr hDE gr hbx ho4 hfd
    have e0 := HBX.out.cell 0
    have e1 := HBX.out.cell 1
    have e2 := HBX.out.cell 2
    simp at e0 e1 e2
    have h12 : (1 : Nat) ≤ 4 - 1 - 1 := by omega
    dsimp only [qEl]
    gi_wp2_with fail
    clear e0 e1 e2
    refine ⟨trivial, CallsIn.inRound l (callsIn_wide.2 ((impl_ratSign fd.g A4 fd.xs.length c4 fd.xs B4 fd.ds.length d4 fd.ds W I4.out R4.out J4.out S4.out).mono ?_))⟩
    rintro e w5 ⟨s, rfl, hs, hb⟩
    have HSG := Lib.hid (sign_pos (r := fd) hs)
    have HF5 := Lib.hid (HF.out.below hb)
    have HBX5 := Lib.hid (HBX.out.below hb HBX.out.lt)
    have HKP5 : Hid (KeepsFrom w4.heap.size W w5) := keeps_below hb
    have hlW : l < W.heap.size := by obtain ⟨r, hr⟩ := HR.out; exact (Array.getElem?_eq_some_iff.1 hr).1
    have HR5 : Hid (∃ r, w5.heap[l]? = some (.loop r)) := by
      obtain ⟨r, hr⟩ := HR.out
      exact ⟨r, (hb.block l hlW).trans hr⟩
    have r2 : Hid (Box w5 (w.heap.size + 1) 47 #[.int .i64 0, .int .i64 0, .slice none 0 0]) := (HF5.out.old _ b2_4.out.lt (by omega) (by omega)).trans b2_4.out
    have r3 : Hid (Box w5 (w.heap.size + 1 + 1) 26 #[.slice none 0 0]) := (HF5.out.old _ b3_4.out.lt (by omega) (by omega)).trans b3_4.out
    have r4 : Hid (Box w5 (w.heap.size + 1 + 1 + 1) 4 #[.bool false]) := (HF5.out.old _ b4_4.out.lt (by omega) (by omega)).trans b4_4.out
    clear hs hb
    by_cases hs0 : s ≤ 0
    · have HNO : Hid (¬ FacOk N rs) := fun q => by
        have e := q i hiN
        rw [← HFD.out] at e
        have := HSG.out.2 e
        omega
      have e0 := r2.out.cell 0
      have e1 := r2.out.cell 1
      have e2 := r2.out.cell 2
      have f0 := r2.out.free 0
      have f1 := r2.out.free 1
      have f2 := r2.out.free 2
      have e3 := r3.out.cell 0
      have f3 := r3.out.free 0
      have e4 := r4.out.cell 0
      have f4 := r4.out.free 0
      simp at e0 e1 e2 e3 e4
      gi_wp2_with fail
      clear e0 e1 e2 e3 e4 f0 f1 f2 f3 f4
      refine (show KeepsFrom w4.heap.size W _ ∧ ∀ o, Rx (World.putObj _ l o) from ⟨?_, fun o => ?_⟩)
      · exact HKP5.out.trans (((((KeepsOthers.setCell _ _ _).trans (KeepsOthers.setCell _ _ _)).trans (KeepsOthers.setCell _ _ _)).trans (KeepsOthers.setCell _ _ _)).trans (KeepsOthers.setCell _ _ _) |>.from _)
      · rw [HRX.out]
        have bb := ((((HF5.out.bel.setCell (p := ⟨w.heap.size + 1, 0, none⟩) (by dsimp only; omega) (.int .i64 0)).setCell (p := ⟨w.heap.size + 1, 1, none⟩) (by dsimp only; omega) (.int .i64 0)).setCell (p := ⟨w.heap.size + 1, 2, none⟩) (by dsimp only; omega) (.slice none 0 0)).setCell (p := ⟨w.heap.size + 1 + 1, 0, none⟩) (by dsimp only; omega) (.slice none 0 0)).setCell (p := ⟨w.heap.size + 1 + 1 + 1, 0, none⟩) (by dsimp only; omega) (.bool false)
        have q2 := ((((r2.out.set_ 0 (.int .i64 0)).set_ 1 (.int .i64 0)).set_ 2 (.slice none 0 0)).far (p := ⟨w.heap.size + 1 + 1, 0, none⟩) (by dsimp only; omega) (.slice none 0 0)).far (p := ⟨w.heap.size + 1 + 1 + 1, 0, none⟩) (by dsimp only; omega) (.bool false)
        have q3 := ((((r3.out.far (p := ⟨w.heap.size + 1, 0, none⟩) (by dsimp only; omega) (.int .i64 0)).far (p := ⟨w.heap.size + 1, 1, none⟩) (by dsimp only; omega) (.int .i64 0)).far (p := ⟨w.heap.size + 1, 2, none⟩) (by dsimp only; omega) (.slice none 0 0)).set_ 0 (.slice none 0 0)).far (p := ⟨w.heap.size + 1 + 1 + 1, 0, none⟩) (by dsimp only; omega) (.bool false)
        have q4 := ((((r4.out.far (p := ⟨w.heap.size + 1, 0, none⟩) (by dsimp only; omega) (.int .i64 0)).far (p := ⟨w.heap.size + 1, 1, none⟩) (by dsimp only; omega) (.int .i64 0)).far (p := ⟨w.heap.size + 1, 2, none⟩) (by dsimp only; omega) (.slice none 0 0)).far (p := ⟨w.heap.size + 1 + 1, 0, none⟩) (by dsimp only; omega) (.slice none 0 0)).set_ 0 (.bool false)
        simp at q2 q3 q4
        exact ⟨HNO.out, below_putObj bb (by omega) o, (World.putObj_heap_other (by omega)).trans q2, (World.putObj_heap_other (by omega)).trans q3, (World.putObj_heap_other (by omega)).trans q4⟩
    · have HYES : Hid (fd.pos) := HSG.out.1 (by omega)
      have hiN2 : i * N + N ≤ n := by
        rw [HNN.out]
        have e := Nat.mul_le_mul_right N (show i + 1 ≤ N by omega)
        rw [Nat.add_mul] at e
        omega
      have hnn : n ≤ 576 := by rw [HNN.out]; exact hn20
      obtain ⟨M, hM⟩ : ∃ M, M = (L.drop (i * N)).take N := ⟨_, rfl⟩
      have hLn : L.length = n := HF5.out.own.1
      have HM1 : Hid (M.length = N) := by rw [hM]; unfold Hid; rw [List.length_take, List.length_drop]; omega
      have HM2 := Lib.hid (HF5.out.own.source (j := i * N) (M := M) (fun t ht => by
        have htN : t < N := by have := HM1.out; omega
        rw [hM, List.getElem?_take, if_pos htN, List.getElem?_drop]))
      have HMem : Hid (∀ y ∈ M, y ∈ L) := fun y hy => by rw [hM] at hy; exact List.mem_of_mem_drop (List.mem_of_mem_take hy)
      have HM3 : Hid (∀ y ∈ M, y.own w5 w4.heap.size) := fun y hy => HF5.out.own.2.2.1 y (HMem.out y hy)
      have hpw := HF5.out.own.2.2.2
      have HM4 : Hid (M.Pairwise Far) := by rw [hM]; exact hpw.sublist ((List.take_sublist _ _).trans (List.drop_sublist _ _))
      have HM5 : Hid (∀ x ∈ L.take (i * N), ∀ y ∈ M, Far x y) := fun x hx y hy => by
        rw [← List.take_append_drop (i * N) L] at hpw
        exact (List.pairwise_append.1 hpw).2.2 x hx y (by rw [hM] at hy; exact List.mem_of_mem_take hy)
      have HMT : Hid (L.take (i * N) ++ M = L.take ((i + 1) * N)) := by rw [hM, ← List.take_add, Nat.add_mul, Nat.one_mul]; rfl
      have hMQ : i * N + N = (i + 1) * N := by rw [Nat.add_mul, Nat.one_mul]
      have HMQ := Lib.hid hMQ
      clear hM hpw hMQ
      have e5 := HF5.out.cbx.cell 0
      simp at e5
      have HE2 : Hid (∀ x ∈ D.take i, ∀ y ∈ [(⟨fd.g, .slice A4 fd.xs.length c4, fd.xs.length, fd.xs.map (.int .i64), .slice B4 fd.ds.length d4, fd.ds.length, fd.ds.map (.int .i64)⟩ : El)], Far x y) := fun x hx y hy => by
        obtain rfl := List.mem_singleton.1 hy
        have hpw := HF5.out.dow.2.2.2
        rw [← List.take_append_drop i D] at hpw
        refine (List.pairwise_append.1 hpw).2.2 x hx _ (List.mem_of_getElem? (i := 0) ?_)
        rw [List.getElem?_drop, Nat.add_zero]; exact HE.out
      have HDT : Hid (D.take i ++ [(⟨fd.g, .slice A4 fd.xs.length c4, fd.xs.length, fd.xs.map (.int .i64), .slice B4 fd.ds.length d4, fd.ds.length, fd.ds.map (.int .i64)⟩ : El)] = D.take (i + 1)) := by
        have q := List.take_add_one (l := D) (i := i)
        rw [show D[i]? = some (⟨fd.g, .slice A4 fd.xs.length c4, fd.xs.length, fd.xs.map (.int .i64), .slice B4 fd.ds.length d4, fd.ds.length, fd.ds.map (.int .i64)⟩ : El) from HE.out] at q; exact q.symm
      gi_wp2_with (first | (gi_at_builtin; refine wpListIn_append_els rfl _ _ 26 rfl w4.heap.size i0 (.agg #[.bool false, .slice none 0 0, .slice none 0 0]) 56 Tryz.underlying26 hi hz0 hz1 hz2 rfl cv (i * N) (L.take (i * N)) rfl HF5.out.cow ⟨G, i * N * 3, none⟩ N cr M rfl HM1.out HM2.out HM3.out HM4.out HM5.out (by unfold maxLen; omega) (by omega) HF5.out.siz ?_; intro V6 w6 ho6 hg6 hv6; rw [HMT.out, HMQ.out] at ho6; obtain ⟨A6, c6, rfl⟩ := ho6.slice; have HF6 := Lib.hid (HF5.out.appC HFK.out ho6 hg6 hv6); have HKP6 : Hid (KeepsFrom w4.heap.size W (w6.setCell ⟨w2.heap.size, 0, none⟩ (.slice A6 ((i + 1) * N) c6))) := HKP5.out.trans ((keeps_grown hg6 HF5.out.cow.2.1).trans ((KeepsOthers.setCell _ _ _).from _)); have bx6 : Box w6 w2.heap.size 26 #[cv] := (hg6.block _ HF5.out.cbx.lt (fun e => by have := (HF5.out.cow.lt _ (.inl e.symm)).1; omega)).trans HF5.out.cbx; have bd6 : Box w6 (w2.heap.size + 1) 26 #[dv] := (hg6.block _ HF5.out.dbx.lt (fun e => by have := (HF5.out.cow.lt _ (.inl e.symm)).1; omega)).trans HF5.out.dbx; have nb6 : Box w6 nb 30 #[.bool fd.g, .slice A4 fd.xs.length c4, .slice B4 fd.ds.length d4] := (hg6.block _ HBX5.out.lt (fun e => by have := hcb nb e.symm; omega)).trans HBX5.out; have g5 := bx6.cell 0; have h5 := bx6.free 0; have g6 := bd6.cell 0; have n0 := nb6.cell 0; have n1 := nb6.cell 1; have n2 := nb6.cell 2; simp at g5 g6 n0 n1 n2; have hnb2 : nb ≠ w2.heap.size := (by omega); have HF7 : Hid (FJ N n rs w w4 w2.heap.size (w2.heap.size + 1) lb G cL Gd cD (rowsP (i + 1) 0) (i + 1) (i + 1) i _ dv L D ((w6.setCell ⟨w2.heap.size, 0, none⟩ (.slice A6 ((i + 1) * N) c6)).alloc (.cells #[.bool fd.g, .slice A4 fd.xs.length c4, .slice B4 fd.ds.length d4] 30))) := HF6.out.below ((Below.refl _ _).alloc (Nat.le_refl _) _); have HNC : Hid (∀ j u, (flat [(⟨fd.g, .slice A4 fd.xs.length c4, fd.xs.length, fd.xs.map (.int .i64), .slice B4 fd.ds.length d4, fd.ds.length, fd.ds.map (.int .i64)⟩ : El)])[j]? = some u → ((w6.setCell ⟨w2.heap.size, 0, none⟩ (.slice A6 ((i + 1) * N) c6)).alloc (.cells #[.bool fd.g, .slice A4 fd.xs.length c4, .slice B4 fd.ds.length d4] 30)).cell? ((⟨w6.heap.size, 0, none⟩ : Addr).add j) = some u) := (by have q := new_cells (w := (w6.setCell ⟨w2.heap.size, 0, none⟩ (.slice A6 ((i + 1) * N) c6))) (⟨fd.g, .slice A4 fd.xs.length c4, fd.xs.length, fd.xs.map (.int .i64), .slice B4 fd.ds.length d4, fd.ds.length, fd.ds.map (.int .i64)⟩ : El) 30; rw [show (w6.setCell ⟨w2.heap.size, 0, none⟩ (.slice A6 ((i + 1) * N) c6)).heap.size = w6.heap.size from (by simp)] at q; exact q); have HE1 : Hid (∀ y ∈ [(⟨fd.g, .slice A4 fd.xs.length c4, fd.xs.length, fd.xs.map (.int .i64), .slice B4 fd.ds.length d4, fd.ds.length, fd.ds.map (.int .i64)⟩ : El)], y.own ((w6.setCell ⟨w2.heap.size, 0, none⟩ (.slice A6 ((i + 1) * N) c6)).alloc (.cells #[.bool fd.g, .slice A4 fd.xs.length c4, .slice B4 fd.ds.length d4] 30)) w4.heap.size) := (fun y hy => by obtain rfl := List.mem_singleton.1 hy; exact HF7.out.dow.2.2.1 _ (List.mem_of_getElem? HE.out)); have HKP7 : Hid (KeepsFrom w4.heap.size W ((w6.setCell ⟨w2.heap.size, 0, none⟩ (.slice A6 ((i + 1) * N) c6)).alloc (.cells #[.bool fd.g, .slice A4 fd.xs.length c4, .slice B4 fd.ds.length d4] 30))) := HKP6.out.trans ((KeepsOthers.alloc _ _).from _); clear ho6 hg6 hv6 bx6 bd6 nb6) | (gi_at_builtin; refine wpListIn_append_els rfl _ _ 26 rfl w4.heap.size i0 (.agg #[.bool false, .slice none 0 0, .slice none 0 0]) 56 Tryz.underlying26 hi hz0 hz1 hz2 rfl dv i (D.take i) rfl HF7.out.eow ⟨w6.heap.size, 0, none⟩ 1 1 [(⟨fd.g, .slice A4 fd.xs.length c4, fd.xs.length, fd.xs.map (.int .i64), .slice B4 fd.ds.length d4, fd.ds.length, fd.ds.map (.int .i64)⟩ : El)] rfl rfl HNC.out HE1.out (List.pairwise_singleton _ _) HE2.out (by unfold maxLen; omega) (by omega) HF7.out.siz ?_; intro V8 w8 ho8 hg8 hv8; rw [HDT.out] at ho8; obtain ⟨A8, c8, rfl⟩ := ho8.slice; have HF8 := Lib.hid (HF7.out.appD HFK.out ho8 hg8 hv8); have HKP8 : Hid (KeepsFrom w4.heap.size W (w8.setCell ⟨w2.heap.size + 1, 0, none⟩ (.slice A8 (i + 1) c8))) := HKP7.out.trans ((keeps_grown hg8 HF7.out.eow.2.1).trans ((KeepsOthers.setCell _ _ _).from _)); have bd8 : Box w8 (w2.heap.size + 1) 26 #[dv] := (hg8.block _ HF7.out.dbx.lt (fun e => by have := (HF7.out.eow.lt _ (.inl e.symm)).1; omega)).trans HF7.out.dbx; have g8 := bd8.cell 0; have h8 := bd8.free 0; simp at g8; clear ho8 hg8 hv8 bd8))
      refine (show KeepsFrom w4.heap.size W _ ∧ ∀ o, JnY N n rs w w4 w2.heap.size (w2.heap.size + 1) _ (World.putObj _ l o) from ⟨HKP8.out, fun o => ⟨hiN, ⟨_, _, HF8.out.putObj HFK.out hl ?_ o⟩, fun t ht => ?_⟩⟩)
      · obtain ⟨r, hr⟩ := HR.out
        exact ⟨r, HKP8.out.same l _ hl hr rfl⟩
      · by_cases e : t = i
        · subst e; rw [← HFD.out]; exact HYES.out
        · exact HPOS.out t (by dsimp only at ht; omega)
  case done =>
    intro W o hD hr hK
    obtain ⟨⟨lb, G, cL, Gd, cD, cv, dv, L, D, hF⟩, hpos⟩ := hD
    obtain ⟨X, hX⟩ : ∃ X, X = W.putObj (w4.heap.size + 1) o := ⟨_, rfl⟩
    have HFX : Hid (FJ N n rs w w4 w2.heap.size (w2.heap.size + 1) lb G cL Gd cD (rowsP N 0) N N N cv dv L D X) := by rw [hX]; exact hF.putObj HFK.out (by omega) hr o
    have HKX : Hid (X.heap[w4.heap.size]? = some (.deferred (some []))) := by rw [hX]; exact (World.putObj_heap_other (by omega)).trans hK
    have HPOS := Lib.hid hpos
    have r1 : Hid (Box X w.heap.size 47 #[.int .i64 N, .int .i64 N, .slice A n c]) := (HFX.out.old _ (by omega) (by omega) (by omega)).trans b0_4.out
    have r2 : Hid (Box X (w.heap.size + 1) 47 #[.int .i64 0, .int .i64 0, .slice none 0 0]) := (HFX.out.old _ b2_4.out.lt (by omega) (by omega)).trans b2_4.out
    have r3 : Hid (Box X (w.heap.size + 1 + 1) 26 #[.slice none 0 0]) := (HFX.out.old _ b3_4.out.lt (by omega) (by omega)).trans b3_4.out
    have r4 : Hid (Box X (w.heap.size + 1 + 1 + 1) 4 #[.bool false]) := (HFX.out.old _ b4_4.out.lt (by omega) (by omega)).trans b4_4.out
    have hLn : L.length = n := HFX.out.own.1
    have hDn : D.length = N := HFX.out.dow.1
    have HCO : Hid (OwnV X w4.heap.size cv (N * N) L) := by
      have q := HFX.out.cow
      rwa [List.take_of_length_le (by rw [hLn, HNN.out]; exact Nat.le_refl _)] at q
    have HDO : Hid (OwnV X w4.heap.size dv N D) := by
      have q := HFX.out.eow
      rwa [List.take_of_length_le (by rw [hDn]; exact Nat.le_refl _)] at q
    have HLH : Hid (Has L (lowF N rs)) := by have q := HFX.out.has; rwa [rowsP_full] at q
    have HDH : Hid (Has D (numF N rs)) := by have q := HFX.out.dha; rwa [numP_full] at q
    have HCD := Lib.hid HFX.out.cd
    have HFR := Lib.hid HFX.out.far
    have c5 := Lib.hid HFX.out.cbx
    have c6 := Lib.hid HFX.out.dbx
    have BX := Lib.hid HFX.out.bel
    obtain ⟨A5, q5, rfl⟩ := HCO.out.slice
    obtain ⟨A6, q6, rfl⟩ := HDO.out.slice
    dsimp only
    rw [← hX]
    clear hX hF hpos hr hK HFX
    go_upto_region 11 with fail
    obtain ⟨Xd, hXd⟩ : ∃ Y, Y = X.drew := ⟨_, rfl⟩
    have r1_0 : Hid (Box Xd w.heap.size 47 #[.int .i64 N, .int .i64 N, .slice A n c]) := by rw [hXd]; exact r1.out
    have r2_0 : Hid (Box Xd (w.heap.size + 1) 47 #[.int .i64 0, .int .i64 0, .slice none 0 0]) := by rw [hXd]; exact r2.out
    have r3_0 : Hid (Box Xd (w.heap.size + 1 + 1) 26 #[.slice none 0 0]) := by rw [hXd]; exact r3.out
    have r4_0 : Hid (Box Xd (w.heap.size + 1 + 1 + 1) 4 #[.bool false]) := by rw [hXd]; exact r4.out
    have c5_0 : Hid (Box Xd w2.heap.size 26 #[.slice A5 (N * N) q5]) := by rw [hXd]; exact c5.out
    have c6_0 : Hid (Box Xd (w2.heap.size + 1) 26 #[.slice A6 N q6]) := by rw [hXd]; exact c6.out
    have BX_0 : Hid (Below w.heap.size w Xd) := by rw [hXd]; exact BX.out.drew
    have HK_0 : Hid (Xd.heap[w4.heap.size]? = some (.deferred (some []))) := by rw [hXd]; exact HKX.out
    have HC_0 : Hid (OwnV Xd w4.heap.size (.slice A5 (N * N) q5) (N * N) L) := by rw [hXd]; exact HCO.out
    have HD_0 : Hid (OwnV Xd w4.heap.size (.slice A6 N q6) N D) := by rw [hXd]; exact HDO.out
    obtain ⟨Y1, hY1⟩ : ∃ Y, Y = ((Xd.setCell ⟨w.heap.size + 1, 0, none⟩ (.int .i64 N)).setCell ⟨w.heap.size + 1, 1, none⟩ (.int .i64 N)).setCell ⟨w.heap.size + 1, 2, none⟩ (.slice A5 (N * N) q5) := ⟨_, rfl⟩
    obtain ⟨Y2, hY2⟩ : ∃ Y, Y = Y1.setCell ⟨w.heap.size + 1 + 1, 0, none⟩ (.slice A6 N q6) := ⟨_, rfl⟩
    obtain ⟨Y3, hY3⟩ : ∃ Y, Y = Y2.setCell ⟨w.heap.size + 1 + 1 + 1, 0, none⟩ (.bool true) := ⟨_, rfl⟩
    have s1 : ∀ k, k ≠ w.heap.size + 1 → Y1.heap[k]? = Xd.heap[k]? := fun k hk => by rw [hY1]; exact set3_other hk
    have s2 : ∀ k, k ≠ w.heap.size + 1 + 1 → Y2.heap[k]? = Y1.heap[k]? := fun k hk => by rw [hY2]; exact Below.heap_setCell _ _ _ k hk
    have s3 : ∀ k, k ≠ w.heap.size + 1 + 1 + 1 → Y3.heap[k]? = Y2.heap[k]? := fun k hk => by rw [hY3]; exact Below.heap_setCell _ _ _ k hk
    have r1_1 : Hid (Box Y1 _ _ _) := (s1 _ (by omega)).trans r1_0.out
    have c5_1 : Hid (Box Y1 _ _ _) := (s1 _ (by omega)).trans c5_0.out
    have c6_1 : Hid (Box Y1 _ _ _) := (s1 _ (by omega)).trans c6_0.out
    have r3_1 : Hid (Box Y1 _ _ _) := (s1 _ (by omega)).trans r3_0.out
    have r4_1 : Hid (Box Y1 _ _ _) := (s1 _ (by omega)).trans r4_0.out
    have r2_1 : Hid (Box Y1 (w.heap.size + 1) 47 #[.int .i64 N, .int .i64 N, .slice A5 (N * N) q5]) := by
      rw [hY1]; refine Lib.hid ?_
      have q := ((r2_0.out.set_ 0 (.int .i64 N)).set_ 1 (.int .i64 N)).set_ 2 (.slice A5 (N * N) q5)
      simpa using q
    have r1_2 : Hid (Box Y2 _ _ _) := (s2 _ (by omega)).trans r1_1.out
    have c5_2 : Hid (Box Y2 _ _ _) := (s2 _ (by omega)).trans c5_1.out
    have c6_2 : Hid (Box Y2 _ _ _) := (s2 _ (by omega)).trans c6_1.out
    have r2_2 : Hid (Box Y2 _ _ _) := (s2 _ (by omega)).trans r2_1.out
    have r4_2 : Hid (Box Y2 _ _ _) := (s2 _ (by omega)).trans r4_1.out
    have r3_2 : Hid (Box Y2 (w.heap.size + 1 + 1) 26 #[.slice A6 N q6]) := by
      rw [hY2]; refine Lib.hid ?_
      have q := r3_1.out.set_ 0 (.slice A6 N q6)
      simpa using q
    have r2_3 : Hid (Box Y3 _ _ _) := (s3 _ (by omega)).trans r2_2.out
    have r3_3 : Hid (Box Y3 _ _ _) := (s3 _ (by omega)).trans r3_2.out
    have r4_3 : Hid (Box Y3 (w.heap.size + 1 + 1 + 1) 4 #[.bool true]) := by
      rw [hY3]; refine Lib.hid ?_
      have q := r4_2.out.set_ 0 (.bool true)
      simpa using q
    have s4 : ∀ k, w4.heap.size ≤ k → Y3.heap[k]? = Xd.heap[k]? := fun k hk => (s3 k (by omega)).trans ((s2 k (by omega)).trans (s1 k (by omega)))
    have HK_3 : Hid (Y3.heap[w4.heap.size]? = some (.deferred (some []))) := (s4 _ (Nat.le_refl _)).trans HK_0.out
    have HC_3 : Hid (OwnV Y3 w4.heap.size (.slice A5 (N * N) q5) (N * N) L) := HC_0.out.dep fun k hk => s4 k (HC_0.out.lt k hk).1
    have HD_3 : Hid (OwnV Y3 w4.heap.size (.slice A6 N q6) N D) := HD_0.out.dep fun k hk => s4 k (HD_0.out.lt k hk).1
    have BX_3 : Hid (Below w.heap.size w Y3) := by
      rw [hY3, hY2, hY1]
      exact ((((BX_0.out.setCell (by dsimp only; omega) _).setCell (by dsimp only; omega) _).setCell (by dsimp only; omega) _).setCell (by dsimp only; omega) _).setCell (by dsimp only; omega) _
    clear s1 s2 s3 s4 r1 r2 r3 r4 c5 c6 BX HKX HCO HDO
    refine wp_only ?_
    refine wp_region_last (S := (fun w' => w'.cell? ⟨w.heap.size, 0, none⟩ = some (.int .i64 N) ∧ w'.cell? ⟨w.heap.size, 1, none⟩ = some (.int .i64 N) ∧ w'.cell? ⟨w2.heap.size, 0, none⟩ = some (.slice A5 (N * N) q5) ∧ w'.cell? ⟨w2.heap.size + 1, 0, none⟩ = some (.slice A6 N q6))) 9 (by kernel_rfl) ?_ (fun hHeld => ?_)
    · (rw [← hXd]); (exact ⟨r1_0.out.cell 0, r1_0.out.cell 1, c5_0.out.cell 0, c6_0.out.cell 0⟩)
    rw [← hXd] at hHeld ⊢
    clear hXd
    refine wpAnyL_go (i := 0) (d := some 28) (v := ?_) (y := 8) [7, 5, 1, 0] (by rfl) (by kernel_rfl) (fun _ _ _ h => h) (by assumption) ?_ ?_
    rotate_left 1
    · (intro oS hoS wS hSw; obtain rfl := Option.some.inj hoS; (try dsimp only at hSw); go_simp; try with_reducible rfl)
    (try simp only [Act.put, List.setIfInBounds_toArray])
    refine wpAnyL_go (i := 1) (d := some 29) (v := ?_) (y := 8) [7, 5, 1] (by rfl) (by kernel_rfl) (fun _ _ _ h => h) (by assumption) ?_ ?_
    rotate_left 1
    · (intro oS hoS wS hSw; obtain rfl := Option.some.inj hoS; (try dsimp only at hSw); go_simp; try with_reducible rfl)
    (try simp only [Act.put, List.setIfInBounds_toArray])
    refine wpAnyL_go (i := 2) (d := some 30) (v := ?_) (y := 8) [7, 5, 3, 2] (by rfl) (by kernel_rfl) (fun _ _ _ h => h) (by assumption) ?_ ?_
    rotate_left 1
    · (intro oS hoS wS hSw; obtain rfl := Option.some.inj hoS; (try dsimp only at hSw); go_simp; try with_reducible rfl)
    (try simp only [Act.put, List.setIfInBounds_toArray])
    refine wpAnyL_go (i := 3) (d := some 31) (v := ?_) (y := 8) [7, 5, 3] (by rfl) (by kernel_rfl) (fun _ _ _ h => h) (by assumption) ?_ ?_
    rotate_left 1
    · (intro oS hoS wS hSw; obtain rfl := Option.some.inj hoS; (try dsimp only at hSw); go_simp; try with_reducible rfl)
    (try simp only [Act.put, List.setIfInBounds_toArray])
    refine wpAnyL_go (i := 4) (d := some 32) (v := ?_) (y := 8) [7, 5, 4] (by rfl) (by kernel_rfl) (fun _ _ _ h => h) (by assumption) ?_ ?_
    rotate_left 1
    · (intro oS hoS wS hSw; obtain rfl := Option.some.inj hoS; (try dsimp only at hSw); go_simp; try with_reducible rfl)
    (try simp only [Act.put, List.setIfInBounds_toArray])
    refine wpAnyL_go (i := 5) (d := some 33) (v := ?_) (y := 8) [7, 5] (by rfl) (by kernel_rfl) (fun _ _ _ h => h) (by assumption) ?_ ?_
    rotate_left 1
    · (intro oS hoS wS hSw; obtain rfl := Option.some.inj hoS; (try dsimp only at hSw); go_simp; try with_reducible rfl)
    (try simp only [Act.put, List.setIfInBounds_toArray])
    refine wpAnyL_go (i := 6) (d := some 34) (v := ?_) (y := 8) [6] (by rfl) (by kernel_rfl) (fun _ _ _ h => h) (by assumption) ?_ ?_
    rotate_left 1
    · (intro oS hoS wS hSw; obtain rfl := Option.some.inj hoS; (try dsimp only at hSw); go_simp; try with_reducible rfl)
    (try simp only [Act.put, List.setIfInBounds_toArray])
    have fc0 := r2_0.out.cell 0
    have fc1 := r2_0.out.cell 1
    have fc2 := r2_0.out.cell 2
    have fs0 := r2_0.out.free 0
    have fs1 := r2_0.out.free 1
    have fs2 := r2_0.out.free 2
    simp at fc0 fs0 fc1 fs1 fc2 fs2
    refine wpAnyL_one 7 (by kernel_rfl) (by decide) rfl (fun KK hK => ?_)
    go_simp
    rw [← hY1]
    clear hY1
    clear fc0 fs0 fc1 fs1 fc2 fs2
    refine hK.out _ _ ?_ (fun hHeld => ?_)
    · (try dsimp only); (exact ⟨r1_1.out.cell 0, r1_1.out.cell 1, c5_1.out.cell 0, c6_1.out.cell 0⟩)
    clear hK KK
    (try simp only [Act.put, List.setIfInBounds_toArray])
    have fc0 := r3_1.out.cell 0
    have fs0 := r3_1.out.free 0
    simp at fc0 fs0
    refine wpAnyL_one 8 (by kernel_rfl) (by decide) rfl (fun KK hK => ?_)
    go_simp
    rw [← hY2]
    clear hY2
    clear fc0 fs0
    refine hK.out _ _ ?_ (fun hHeld => ?_)
    · (try dsimp only); (exact ⟨r1_2.out.cell 0, r1_2.out.cell 1, c5_2.out.cell 0, c6_2.out.cell 0⟩)
    clear hK KK
    (try simp only [Act.put, List.setIfInBounds_toArray])
    have fc0 := r4_2.out.cell 0
    have fs0 := r4_2.out.free 0
    simp at fc0 fs0
    refine wpAnyL_last (by kernel_rfl) rfl (fun KK hK => ?_)
    go_simp
    rw [← hY3]
    clear hY3
    clear fc0 fs0
    refine hK.out _ _ ?_
    clear hK KK
    (try simp only [Act.put, List.setIfInBounds_toArray])
    refine wpAnyL_done (by kernel_rfl) ?_ _
    dsimp only
    go_wp2_with fail
    refine ⟨by simp, .inl ⟨_, _, rfl, run_takeDeferred HK_3.out, ?_⟩⟩
    have q2 := (show (Y3.putObj w4.heap.size (.deferred none)).heap[_]? = Y3.heap[_]? from World.putObj_heap_other (show w.heap.size + 1 ≠ w4.heap.size by omega)).trans r2_3.out
    have q3 := (show (Y3.putObj w4.heap.size (.deferred none)).heap[_]? = Y3.heap[_]? from World.putObj_heap_other (show w.heap.size + 1 + 1 ≠ w4.heap.size by omega)).trans r3_3.out
    have q4 := (show (Y3.putObj w4.heap.size (.deferred none)).heap[_]? = Y3.heap[_]? from World.putObj_heap_other (show w.heap.size + 1 + 1 + 1 ≠ w4.heap.size by omega)).trans r4_3.out
    obtain ⟨Y4, hY4⟩ : ∃ Y, Y = Y3.putObj w4.heap.size (.deferred none) := ⟨_, rfl⟩
    have HKC : KeepC Y3 Y4 := by rw [hY4]; exact keepC_putObj2 _ HK_3.out rfl
    have B4 : Below w.heap.size w Y4 := by rw [hY4]; exact below_putObj BX_3.out (by omega) _
    rw [← hY4] at q2 q3 q4 ⊢
    clear hY4
    have k2 : Box Y4 (w.heap.size + 1) 47 #[.int .i64 N, .int .i64 N, .slice A5 (N * N) q5] := q2
    have k3 : Box Y4 (w.heap.size + 1 + 1) 26 #[.slice A6 N q6] := q3
    have k4 : Box Y4 (w.heap.size + 1 + 1 + 1) 4 #[.bool true] := q4
    have e0 := k2.cell 0
    have e1 := k2.cell 1
    have e2 := k2.cell 2
    have e3 := k3.cell 0
    have e4 := k4.cell 0
    simp at e0 e1 e2 e3 e4
    have HFO : FactorOk N N rs := ⟨⟨HS.out.1, rfl, HS.out.2.2⟩, by rw [Int.toNat_natCast]; exact HPOS.out⟩
    refine ⟨.tuple #[.agg #[.int .i64 N, .int .i64 N, .slice A5 (N * N) q5], .slice A6 N q6, .bool true], (by simp [results, Tryz.results27, e0, e1, e2, e3, e4, go_sem]), ?_⟩
    have hCy := HC_3.out.keepC HKC
    have hDy := HD_3.out.keepC HKC
    refine factorEnd_yes HFO (hCy.lower (by omega)) HLH.out (hDy.lower (by omega)) HDH.out (fun j hj hd => ?_) B4
    rcases hj with hj | ⟨y, hy, hj⟩
    · rcases hd with hd | ⟨z, hz, hd⟩
      · exact HCD.out j hj hd
      · exact el_other (hDy.2.2.1 z hz) hCy.2.1 (by decide) j hd hj
    · rcases hd with hd | ⟨z, hz, hd⟩
      · exact el_other (hCy.2.2.1 y hy) hDy.2.1 (by decide) j hj hd
      · exact HFR.out y hy z hz j hj hd
  case stop =>
    intro W o hS hr hK
    rw [HRX.out] at hS
    obtain ⟨hno, hbl, k2, k3, k4⟩ := hS
    have HK0 : W.heap[w4.heap.size]? = some (.deferred (some [])) := hK
    have HKX : (W.putObj (w4.heap.size + 1) o).heap[w4.heap.size]? = some (.deferred (some [])) := (World.putObj_heap_other (by omega)).trans HK0
    obtain ⟨Y4, hY4⟩ : ∃ Y, Y = (W.putObj (w4.heap.size + 1) o).putObj w4.heap.size (.deferred none) := ⟨_, rfl⟩
    have B4 : Below w.heap.size w Y4 := by rw [hY4]; exact below_putObj (below_putObj hbl (by omega) _) (by omega) _
    have q2 : Box Y4 (w.heap.size + 1) 47 #[.int .i64 0, .int .i64 0, .slice none 0 0] := by rw [hY4]; exact (World.putObj_heap_other (by omega)).trans ((World.putObj_heap_other (by omega)).trans k2)
    have q3 : Box Y4 (w.heap.size + 1 + 1) 26 #[.slice none 0 0] := by rw [hY4]; exact (World.putObj_heap_other (by omega)).trans ((World.putObj_heap_other (by omega)).trans k3)
    have q4 : Box Y4 (w.heap.size + 1 + 1 + 1) 4 #[.bool false] := by rw [hY4]; exact (World.putObj_heap_other (by omega)).trans ((World.putObj_heap_other (by omega)).trans k4)
    have e0 := q2.cell 0
    have e1 := q2.cell 1
    have e2 := q2.cell 2
    have e3 := q3.cell 0
    have e4 := q4.cell 0
    simp at e0 e1 e2 e3 e4
    clear hr hK k2 k3 k4 HK0 q2 q3 q4
    refine (wpIn_wide (n := 4)).2 ?_
    dsimp only
    go_wp2_with fail
    refine ⟨by simp, .inl ⟨_, _, rfl, run_takeDeferred HKX, ?_⟩⟩
    rw [← hY4]
    clear hY4
    refine ⟨.tuple #[.agg #[.int .i64 0, .int .i64 0, .slice none 0 0], .slice none 0 0, .bool false], (by simp [results, Tryz.results27, e0, e1, e2, e3, e4, go_sem]), ?_⟩
    exact factorEnd_no (fun q => hno (by simpa using q.2)) B4
end Go.Proofs.YtdehcddjkcpnfaaGreat
namespace Go.Proofs.YtdehcddjkcpnfaaGreat
set_option maxRecDepth 100000
open Go.RowKit

theorem impl_factor (p k : Int) (A : Option Addr) (n c : Nat) (rs : List RD) (w : World) (h : InV w A n rs) (hp : -9223372036854775808 ≤ p ∧ p ≤ 9223372036854775807) (hk : -9223372036854775808 ≤ k ∧ k ≤ 9223372036854775807) (hc : n ≤ c) :
    Calls Tryz.prog 27 #[.agg #[.int .i64 p, .int .i64 k, .slice A n c]] w fun e w' => ∃ q j r V l U b, e = .returned (.tuple #[.agg #[.int .i64 q, .int .i64 j, V], U, .bool b]) ∧ FactorIs p k rs q j r l b ∧ ResMV w w' V r U l ∧ Below w.heap.size w w' := (impl_factor0 p k A n c rs w h hp hk hc).mono fun _ _ h => h
set_option maxHeartbeats 1600000 in
theorem impl_isPositive (p k : Int) (A : Option Addr) (n c : Nat) (rs : List RD) (w : World) (h : InV w A n rs) (hp : -9223372036854775808 ≤ p ∧ p ≤ 9223372036854775807) (hk : -9223372036854775808 ≤ k ∧ k ≤ 9223372036854775807) (hc : n ≤ c) :
    Calls Tryz.prog 35 #[.agg #[.int .i64 p, .int .i64 k, .slice A n c]] w fun e w' => ∃ b, e = .returned (.bool b) ∧ IsPositiveIs p k rs b ∧ Below w.heap.size w w' := by
  obtain ⟨W0, hW0⟩ : ∃ W, W = (w.alloc (.cells #[.int .i64 p, .int .i64 k, .slice A n c] 47)) := ⟨_, rfl⟩
  have hm0_0 : Hid (Box W0 (w.heap.size) 47 #[.int .i64 p, .int .i64 k, .slice A n c]) := by rw [hW0]; exact (Box.at' (by simp))
  have BW_0 : Hid (Below w.heap.size w W0) := by rw [hW0]; exact ((Below.refl w.heap.size w).alloc (by simp) _)
  have hsz0 : w.heap.size + 1 ≤ W0.heap.size := by rw [hW0]; simp
  have HV := Lib.hid (h.below BW_0.out)
  have HP := Lib.hid hp
  have HK := Lib.hid hk
  clear h hp hk
  go_enter Tryz.func35, Tryz.ntmps35
  go_wp2_with fail
  rw [← hW0]
  clear hW0
  refine (impl_factor0 p k A n c rs _ HV.out HP.out HK.out hc).mono ?_
  rintro e w1 ⟨q, j, r, V, l, U, b, rfl, hq, hr, hb⟩
  have HF : Hid (IsPositiveIs p k rs b) := isPositive_of hq
  obtain ⟨_, L, K, ho, _, hu, _⟩ := hr
  obtain ⟨A1, c1, rfl⟩ := ho.slice
  have BW_1 := Lib.hid (BW_0.out.trans (hb.mono BW_0.out.size))
  have BW_2 := Lib.hid (BW_1.out.alloc BW_1.out.size (.cells #[.int .i64 q, .int .i64 j, .slice A1 r.length c1] 47))
  clear hq ho hu hb
  go_wp2_with fail
  go_ret
  exact ⟨b, rfl, HF.out, BW_2.out⟩
end Go.Proofs.YtdehcddjkcpnfaaGreat
