/- Contracts of the program's natural numbers: sums, differences, products. -/
import Derived.Test.YtjggdbakbhacjaaIm2
namespace Go.Proofs.Ytjggdbakbhacjaa
set_option maxRecDepth 100000
open Go.RowKit

/-- A sum after k places: the limbs, the carry. -/
def SumAt (xs ys : List Int) (L k : Nat) (cy : Int) (os : List Int) : Prop := os.length = L + 1 ∧ InR os ∧ val os + pw k * cy = val (xs.take k) + val (ys.take k) ∧ ZeroFrom os k ∧ 0 ≤ cy ∧ cy ≤ 1
theorem SumAt.start (xs ys : List Int) (L : Nat) : SumAt xs ys L 0 0 (List.replicate (L + 1) 0) :=
  ⟨by simp, zeros_inR _, by rw [zeros_val]; simp [val], zeros_from _ _, by omega, by omega⟩
theorem SumAt.step {xs ys os : List Int} {L k : Nat} {cy x y : Int} (h : SumAt xs ys L k cy os) (hx : lim xs k = x) (hy : lim ys k = y) (x0 : 0 ≤ x) (x1 : x ≤ 999999999) (y0 : 0 ≤ y) (y1 : y ≤ 999999999) (hk : k < L) :
    SumAt xs ys L (k + 1) ((cy + (x + y)) / 1000000000) (os.set k ((cy + (x + y)) % 1000000000)) := by
  obtain ⟨h1, h2, h3, h4, h5, h6⟩ := h
  have hio : k < os.length := by omega
  refine ⟨by simpa using h1, h2.set _ (by omega) (by omega), ?_, h4.set_last _, by omega, by omega⟩
  rw [val_set _ _ _ hio, h4 _ hio (Nat.le_refl _), val_take_succ, val_take_succ, hx, hy, pw]
  have e := Int.mul_ediv_add_emod (cy + (x + y)) 1000000000
  grind
theorem SumAt.last {xs ys os : List Int} {L : Nat} {cy : Int} (h : SumAt xs ys L L cy os) (hx : xs.length ≤ L) (hy : ys.length ≤ L) : InR (os.set L cy) ∧ val (os.set L cy) = val xs + val ys ∧ (os.set L cy).length = L + 1 := by
  obtain ⟨h1, h2, h3, h4, h5, h6⟩ := h
  rw [List.take_of_length_le hx, List.take_of_length_le hy] at h3
  refine ⟨h2.set _ h5 (by omega), ?_, by simpa using h1⟩
  rw [val_set _ _ _ (by omega), h4 _ (by omega) (Nat.le_refl _), Int.sub_zero]; exact h3
/-- A difference after k places: the limbs, what is still to be taken off. -/
def DiffAt (xs ys : List Int) (L k : Nat) (bo : Int) (os : List Int) : Prop := os.length = L ∧ InR os ∧ val os = val (xs.take k) - val (ys.take k) + pw k * bo ∧ ZeroFrom os k ∧ 0 ≤ bo ∧ bo ≤ 1
theorem DiffAt.start (xs ys : List Int) (L : Nat) : DiffAt xs ys L 0 0 (List.replicate L 0) :=
  ⟨by simp, zeros_inR _, by rw [zeros_val]; simp [val], zeros_from _ _, by omega, by omega⟩
theorem DiffAt.step0 {xs ys os : List Int} {L k : Nat} {bo x y d : Int} (h : DiffAt xs ys L k bo os) (hx : lim xs k = x) (hy : lim ys k = y) (x1 : x ≤ 999999999) (y0 : 0 ≤ y) (hk : k < L) (hd : d = x - y - bo) (d0 : 0 ≤ d) :
    DiffAt xs ys L (k + 1) 0 (os.set k d) := by
  obtain ⟨h1, h2, h3, h4, h5, h6⟩ := h
  have hio : k < os.length := by omega
  refine ⟨by simpa using h1, h2.set _ (by omega) (by omega), ?_, h4.set_last _, by omega, by omega⟩
  rw [val_set _ _ _ hio, h4 _ hio (Nat.le_refl _), val_take_succ, val_take_succ, hx, hy, hd]
  grind
theorem DiffAt.step1 {xs ys os : List Int} {L k : Nat} {bo x y d : Int} (h : DiffAt xs ys L k bo os) (hx : lim xs k = x) (hy : lim ys k = y) (x0 : 0 ≤ x) (y1 : y ≤ 999999999) (hk : k < L) (hd : d = x - y - bo) (d0 : d < 0) :
    DiffAt xs ys L (k + 1) 1 (os.set k (d + 1000000000)) := by
  obtain ⟨h1, h2, h3, h4, h5, h6⟩ := h
  have hio : k < os.length := by omega
  refine ⟨by simpa using h1, h2.set _ (by omega) (by omega), ?_, h4.set_last _, by omega, by omega⟩
  rw [val_set _ _ _ hio, h4 _ hio (Nat.le_refl _), val_take_succ, val_take_succ, hx, hy, hd, pw]
  grind
theorem DiffAt.done {xs ys os : List Int} {k : Nat} {bo : Int} (h : DiffAt xs ys k k bo os) (hx : xs.length ≤ k) (hy : ys.length ≤ k) (hle : val ys ≤ val xs) : InR os ∧ val os = val xs - val ys ∧ os.length = k := by
  obtain ⟨h1, h2, h3, h4, h5, h6⟩ := h
  rw [List.take_of_length_le hx, List.take_of_length_le hy] at h3
  have h7 := val_lt h2
  rw [h1] at h7
  have hb0 : bo = 0 := by
    by_cases e : bo = 0
    · exact e
    · have e1 : bo = 1 := by omega
      rw [e1, Int.mul_one] at h3; omega
  subst hb0
  exact ⟨h2, by rw [h3]; simp, h1⟩
/-- Trimmed and limited: what the cut list gives. -/
theorem capEnd_of {xs : List Int} {A : Option Addr} {c m : Nat} {e : Ending} (ht : Trimmed xs m) (h : (60 < m ∧ e = .returned (.slice none 0 0)) ∨ (m ≤ 60 ∧ e = .returned (.slice A m c))) : CapEnd xs A c e := ⟨m, ht, h⟩
/-- An ending with a list of its own: what it is, where it lies. -/
def BinEnd (Q : List Int → Prop) (w w' : World) (e : Ending) : Prop := ∃ rs v, e = .returned v ∧ Q rs ∧ ResI w w' v rs ∧ Below w.heap.size w w'

set_option maxHeartbeats 1600000 in
theorem impl_natAdd (A1 : Option Addr) (n1 c1 : Nat) (xs : List Int) (A2 : Option Addr) (n2 c2 : Nat) (ys : List Int) (w : World) (h1 : InI w A1 n1 xs) (h2 : InI w A2 n2 ys) :
    Calls Try.prog 95 #[.slice A1 n1 c1, .slice A2 n2 c2] w fun e w' => ∃ rs v, e = .returned v ∧ NatAddIs xs ys rs ∧ ResI w w' v rs ∧ Below w.heap.size w w' := by
  obtain ⟨i0, hi, hz0, hz1, hz2⟩ := info_parts Try.infoI
  have H1 := Lib.hid h1
  have H2 := Lib.hid h2
  clear h1 h2
  go_enter Try.func95, Try.ntmps95
  go_wp2_with fail
  refine (impl_natOk' A1 n1 c1 xs _ H1.out).mono ?_
  rintro e w' ⟨⟨b1, rfl, ho1⟩, rfl⟩
  cases b1
  · have hfin : Hid (NatAddIs xs ys []) := .inr ⟨(fun h => by have := ho1.2 h.1; cases this), rfl⟩
    clear ho1
    go_wp2_with fail
    go_ret
    exact ⟨[], _, rfl, hfin.out, ⟨by simp, World.ownsRow_nil _ _ _ _⟩, Below.refl _ _⟩
  have k1 := Lib.hid (ho1.1 rfl)
  clear ho1
  go_wp2_with fail
  refine (impl_natOk' A2 n2 c2 ys _ H2.out).mono ?_
  rintro e w' ⟨⟨b2, rfl, ho2⟩, rfl⟩
  cases b2
  · have hfin : Hid (NatAddIs xs ys []) := .inr ⟨(fun h => by have := ho2.2 h.2; cases this), rfl⟩
    clear ho2
    go_wp2_with fail
    go_ret
    exact ⟨[], _, rfl, hfin.out, ⟨by simp, World.ownsRow_nil _ _ _ _⟩, Below.refl _ _⟩
  have k2 := Lib.hid (ho2.1 rfl)
  clear ho2
  have hn1 : n1 ≤ 60 := by have := k1.out.2; rwa [H1.out.1] at this
  have hn2 : n2 ≤ 60 := by have := k2.out.2; rwa [H2.out.1] at this
  by_cases hm : (n1 : Int) < (n2 : Int)
  · obtain ⟨N, rfl⟩ : ∃ N, N = n2 := ⟨_, rfl⟩
    have hN1 : n1 ≤ N := by omega
    have hN2 : N ≤ N := by omega
    go_wp2_with (refine wpList_make_full _ rfl _ _ 22 rfl w.heap.size 3 i0 (.int .i64 0) 1 Try.underlying22 hi hz0 hz1 _ _ _ _ (N + 1) rfl rfl (by omega) (by omega) (by rw [hz2]; omega) (by unfold maxLen; omega) (Nat.le_refl _) ?_)
    have hrep : (madeCells #[Value.int .i64 0] (N + 1)).toList = (List.replicate (N + 1) (0 : Int)).map (.int .i64) := by simp [toList_madeCells_one]
    intro w1 ho hg
    have O1 : Hid (w1.ownsRow w.heap.size 3 1 (.slice (some ⟨w.heap.size, 0, none⟩) (N + 1) (N + 1)) (N + 1) ((List.replicate (N + 1) (0 : Int)).map (.int .i64))) := by
      unfold Hid; rw [← hrep]; exact ho
    have B1 := Lib.hid ((Below.refl w.heap.size w).grown hg (Nat.le_refl _) (fun k hk => by cases hk))
    have M1 := Lib.hid (SumAt.start xs ys N)
    clear ho hg hrep
    go_wp2_with fail
    go_loopw [7, 8, 26] (fun x _ y wr => ∃ (k : Nat) (cy : Int) (os : List Int), k ≤ N ∧ y = .int .i64 (k : Int) ∧ x = .int .i64 cy ∧ 0 ≤ cy ∧ cy ≤ 1 ∧ Hid (SumAt xs ys N k cy os) ∧ Hid (wr.ownsRow w.heap.size 3 1 (.slice (some ⟨w.heap.size, 0, none⟩) (N + 1) (N + 1)) (N + 1) (os.map (.int .i64))) ∧ Hid (Below w.heap.size w wr)) (fun _ _ y _ => N - (intOf y).toNat)
    case atStart => exact ⟨0, 0, _, Nat.zero_le _, rfl, rfl, by omega, by omega, M1, O1, B1⟩
    case round =>
      obtain ⟨k, cy, os, hk, rfl, rfl, c0, c9, hs, ho, hb⟩ := hrel
      obtain ⟨wo, rfl⟩ : ∃ wo : World, wo = wr := ⟨_, rfl⟩
      by_cases hlt : k < N
      · obtain ⟨x, hx⟩ : ∃ x, lim xs k = x := ⟨_, rfl⟩
        obtain ⟨y, hy⟩ : ∃ y, lim ys k = y := ⟨_, rfl⟩
        have bx := lim_bd k1.out.1.1 k
        have bY := lim_bd k2.out.1.1 k
        rw [hx] at bx
        rw [hy] at bY
        obtain ⟨x0, x1⟩ := bx
        obtain ⟨y0, y1⟩ := bY
        have hnx := Lib.hid (hs.out.step hx hy x0 x1 y0 y1 hlt)
        have hS : 0 ≤ (cy + (x + y)) / 1000000000 ∧ (cy + (x + y)) / 1000000000 ≤ 1 := by omega
        have HS := Lib.hid hS
        have hio : k < os.length := by rw [hs.out.1]; omega
        obtain ⟨o, hoo⟩ : ∃ o, o = os[k] := ⟨_, rfl⟩
        have g3 : wo.cell? ⟨w.heap.size, k, none⟩ = some (.int .i64 o) := by
          rw [ho.out.cellAt k (by omega)]; simp [hio, hoo]
        have hfr := ho.out.frozenAt k
        have hst := ho.out.stored k (.int .i64 ((cy + (x + y)) % 1000000000))
        rw [map_set_int] at hst
        have ho2 := Lib.hid hst.1
        have hb2 := Lib.hid (below_marked hb.out ho.out hst.2 (Nat.le_refl _) hb.out.size)
        have HX := Lib.hid hx
        have HY := Lib.hid hy
        have hk0 : (0 : Int) ≤ (k : Int) := by omega
        have hkn : (k : Int) < (N : Int) := by omega
        clear hx hy hoo hst hS
        go_wp2_with fail
        refine (impl_limbAt _ _ _ xs k _ H1.out.1 H1.out.2.1 (H1.out.2.2.1.below hb.out)).mono ?_
        rintro e w' ⟨rfl, rfl⟩
        rw [HX.out]
        go_wp2_with fail
        refine (impl_limbAt _ _ _ ys k _ H2.out.1 H2.out.2.1 (H2.out.2.2.1.below hb.out)).mono ?_
        rintro e w' ⟨rfl, rfl⟩
        rw [HY.out]
        go_wp2_with fail
        go_roundw
        case rel => exact ⟨k + 1, _, _, by omega, by go_num, rfl, HS.out.1, HS.out.2, hnx, ho2, hb2⟩
        case measure => simp [intOf]; omega
      · obtain rfl : k = N := by omega
        have hv := Lib.hid (hs.out.last (by rw [H1.out.1]; omega) (by rw [H2.out.1]; omega))
        have hio : k < os.length := by rw [hs.out.1]; omega
        obtain ⟨o, hoo⟩ : ∃ o, o = os[k] := ⟨_, rfl⟩
        have g3 : wo.cell? ⟨w.heap.size, k, none⟩ = some (.int .i64 o) := by
          rw [ho.out.cellAt k (by omega)]; simp [hio, hoo]
        have hfr := ho.out.frozenAt k
        have hst := ho.out.stored k (.int .i64 cy)
        rw [map_set_int] at hst
        have ho2 := Lib.hid hst.1
        have hb2 := Lib.hid (below_marked hb.out ho.out hst.2 (Nat.le_refl _) hb.out.size)
        have hk0 : (0 : Int) ≤ (k : Int) := by omega
        clear hoo hst
        go_wp2_with fail
        refine (impl_trim w.heap.size _ _ _ (os.set k cy) _ hv.out.2.2 (by omega) ho2.out).mono ?_
        rintro e w' ⟨⟨m, rfl, ht⟩, rfl⟩
        have Ht := Lib.hid ht
        have hm9 : m ≤ k + 1 := by have := ht.1; rwa [hv.out.2.2] at this
        clear ht
        go_wp2_with fail
        refine (impl_limited _ m _ _ (by omega)).mono ?_
        rintro e w' ⟨he, rfl⟩
        obtain ⟨rs, v, rfl, hown, h60, l, hcl, hvl, hrs⟩ := (capEnd_of Ht.out he).gives hv.out.1 ho2.out hv.out.2.2
        have hfin : Hid (∃ v', v = v' ∧ NatAddIs xs ys rs ∧ ResI w _ v' rs ∧ Below w.heap.size w _) :=
          ⟨v, rfl, .inl ⟨⟨k1.out, k2.out⟩, l, hcl, hvl.trans hv.out.2.1, hrs⟩, ⟨by omega, hown⟩, hb2.out⟩
        clear he hown hcl hvl hrs
        go_wp2_with fail
        go_ret
        obtain ⟨v', rfl, h⟩ := hfin.out
        exact ⟨rs, _, rfl, h⟩
  · obtain ⟨N, rfl⟩ : ∃ N, N = n1 := ⟨_, rfl⟩
    have hN1 : N ≤ N := by omega
    have hN2 : n2 ≤ N := by omega
    go_wp2_with (refine wpList_make_full _ rfl _ _ 22 rfl w.heap.size 3 i0 (.int .i64 0) 1 Try.underlying22 hi hz0 hz1 _ _ _ _ (N + 1) rfl rfl (by omega) (by omega) (by rw [hz2]; omega) (by unfold maxLen; omega) (Nat.le_refl _) ?_)
    have hrep : (madeCells #[Value.int .i64 0] (N + 1)).toList = (List.replicate (N + 1) (0 : Int)).map (.int .i64) := by simp [toList_madeCells_one]
    intro w1 ho hg
    have O1 : Hid (w1.ownsRow w.heap.size 3 1 (.slice (some ⟨w.heap.size, 0, none⟩) (N + 1) (N + 1)) (N + 1) ((List.replicate (N + 1) (0 : Int)).map (.int .i64))) := by
      unfold Hid; rw [← hrep]; exact ho
    have B1 := Lib.hid ((Below.refl w.heap.size w).grown hg (Nat.le_refl _) (fun k hk => by cases hk))
    have M1 := Lib.hid (SumAt.start xs ys N)
    clear ho hg hrep
    go_wp2_with fail
    go_loopw [7, 8, 26] (fun x _ y wr => ∃ (k : Nat) (cy : Int) (os : List Int), k ≤ N ∧ y = .int .i64 (k : Int) ∧ x = .int .i64 cy ∧ 0 ≤ cy ∧ cy ≤ 1 ∧ Hid (SumAt xs ys N k cy os) ∧ Hid (wr.ownsRow w.heap.size 3 1 (.slice (some ⟨w.heap.size, 0, none⟩) (N + 1) (N + 1)) (N + 1) (os.map (.int .i64))) ∧ Hid (Below w.heap.size w wr)) (fun _ _ y _ => N - (intOf y).toNat)
    case atStart => exact ⟨0, 0, _, Nat.zero_le _, rfl, rfl, by omega, by omega, M1, O1, B1⟩
    case round =>
      obtain ⟨k, cy, os, hk, rfl, rfl, c0, c9, hs, ho, hb⟩ := hrel
      obtain ⟨wo, rfl⟩ : ∃ wo : World, wo = wr := ⟨_, rfl⟩
      by_cases hlt : k < N
      · obtain ⟨x, hx⟩ : ∃ x, lim xs k = x := ⟨_, rfl⟩
        obtain ⟨y, hy⟩ : ∃ y, lim ys k = y := ⟨_, rfl⟩
        have bx := lim_bd k1.out.1.1 k
        have bY := lim_bd k2.out.1.1 k
        rw [hx] at bx
        rw [hy] at bY
        obtain ⟨x0, x1⟩ := bx
        obtain ⟨y0, y1⟩ := bY
        have hnx := Lib.hid (hs.out.step hx hy x0 x1 y0 y1 hlt)
        have hS : 0 ≤ (cy + (x + y)) / 1000000000 ∧ (cy + (x + y)) / 1000000000 ≤ 1 := by omega
        have HS := Lib.hid hS
        have hio : k < os.length := by rw [hs.out.1]; omega
        obtain ⟨o, hoo⟩ : ∃ o, o = os[k] := ⟨_, rfl⟩
        have g3 : wo.cell? ⟨w.heap.size, k, none⟩ = some (.int .i64 o) := by
          rw [ho.out.cellAt k (by omega)]; simp [hio, hoo]
        have hfr := ho.out.frozenAt k
        have hst := ho.out.stored k (.int .i64 ((cy + (x + y)) % 1000000000))
        rw [map_set_int] at hst
        have ho2 := Lib.hid hst.1
        have hb2 := Lib.hid (below_marked hb.out ho.out hst.2 (Nat.le_refl _) hb.out.size)
        have HX := Lib.hid hx
        have HY := Lib.hid hy
        have hk0 : (0 : Int) ≤ (k : Int) := by omega
        have hkn : (k : Int) < (N : Int) := by omega
        clear hx hy hoo hst hS
        go_wp2_with fail
        refine (impl_limbAt _ _ _ xs k _ H1.out.1 H1.out.2.1 (H1.out.2.2.1.below hb.out)).mono ?_
        rintro e w' ⟨rfl, rfl⟩
        rw [HX.out]
        go_wp2_with fail
        refine (impl_limbAt _ _ _ ys k _ H2.out.1 H2.out.2.1 (H2.out.2.2.1.below hb.out)).mono ?_
        rintro e w' ⟨rfl, rfl⟩
        rw [HY.out]
        go_wp2_with fail
        go_roundw
        case rel => exact ⟨k + 1, _, _, by omega, by go_num, rfl, HS.out.1, HS.out.2, hnx, ho2, hb2⟩
        case measure => simp [intOf]; omega
      · obtain rfl : k = N := by omega
        have hv := Lib.hid (hs.out.last (by rw [H1.out.1]; omega) (by rw [H2.out.1]; omega))
        have hio : k < os.length := by rw [hs.out.1]; omega
        obtain ⟨o, hoo⟩ : ∃ o, o = os[k] := ⟨_, rfl⟩
        have g3 : wo.cell? ⟨w.heap.size, k, none⟩ = some (.int .i64 o) := by
          rw [ho.out.cellAt k (by omega)]; simp [hio, hoo]
        have hfr := ho.out.frozenAt k
        have hst := ho.out.stored k (.int .i64 cy)
        rw [map_set_int] at hst
        have ho2 := Lib.hid hst.1
        have hb2 := Lib.hid (below_marked hb.out ho.out hst.2 (Nat.le_refl _) hb.out.size)
        have hk0 : (0 : Int) ≤ (k : Int) := by omega
        clear hoo hst
        go_wp2_with fail
        refine (impl_trim w.heap.size _ _ _ (os.set k cy) _ hv.out.2.2 (by omega) ho2.out).mono ?_
        rintro e w' ⟨⟨m, rfl, ht⟩, rfl⟩
        have Ht := Lib.hid ht
        have hm9 : m ≤ k + 1 := by have := ht.1; rwa [hv.out.2.2] at this
        clear ht
        go_wp2_with fail
        refine (impl_limited _ m _ _ (by omega)).mono ?_
        rintro e w' ⟨he, rfl⟩
        obtain ⟨rs, v, rfl, hown, h60, l, hcl, hvl, hrs⟩ := (capEnd_of Ht.out he).gives hv.out.1 ho2.out hv.out.2.2
        have hfin : Hid (∃ v', v = v' ∧ NatAddIs xs ys rs ∧ ResI w _ v' rs ∧ Below w.heap.size w _) :=
          ⟨v, rfl, .inl ⟨⟨k1.out, k2.out⟩, l, hcl, hvl.trans hv.out.2.1, hrs⟩, ⟨by omega, hown⟩, hb2.out⟩
        clear he hown hcl hvl hrs
        go_wp2_with fail
        go_ret
        obtain ⟨v', rfl, h⟩ := hfin.out
        exact ⟨rs, _, rfl, h⟩
end Go.Proofs.Ytjggdbakbhacjaa
