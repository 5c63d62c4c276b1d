/- Contracts of the program's natural numbers: differences, products. -/
import Derived.Test.YtjggdbakbhacjaaIm3
import Derived.IntWalk
namespace Go.Proofs.Ytjggdbakbhacjaa
set_option maxRecDepth 100000
open Go.RowKit

theorem Reads.drewN {w : World} {A : Option Addr} {xs : List Value} (h : Reads w A xs) (n : Nat) : Reads (w.drewN n) A xs := h
theorem own_drewN {w : World} {base : Nat} {E : TypeId} {size n : Nat} {v : Value} {xs : List Value} (h : w.ownsRow base E size v n xs) (m : Nat) : (w.drewN m).ownsRow base E size v n xs := h
theorem impl_limbAt_v (A : Option Addr) (n c : Nat) (xs : List Int) (k : Nat) (y : Int) (w : World) (hy : lim xs k = y) (hn : xs.length = n) (hb : n ≤ 1048576) (hr : Reads w A (xs.map (.int .i64))) :
    Calls Try.prog 131 #[.slice A n c, .int .i64 k] w fun e w' => e = .returned (.int .i64 y) ∧ w = w' := by
  subst hy; exact impl_limbAt A n c xs k w hn hb hr

set_option maxHeartbeats 1600000 in
theorem impl_natSub (A1 : Option Addr) (n1 c1 : Nat) (xs : List Int) (A2 : Option Addr) (n2 c2 : Nat) (ys : List Int) (w : World) (h1 : InI w A1 n1 xs) (h2 : InI w A2 n2 ys) :
    Calls Try.prog 160 #[.slice A1 n1 c1, .slice A2 n2 c2] w fun e w' => ∃ rs v, e = .returned v ∧ NatSubIs xs ys rs ∧ ResI w w' v rs ∧ Below w.heap.size w w' := by
  obtain ⟨i0, hi, hz0, hz1, hz2⟩ := info_parts Try.infoI
  have H1 := Lib.hid h1
  have H2 := Lib.hid h2
  clear h1 h2
  go_enter Try.func160, Try.ntmps160
  go_wp2_with fail
  refine (impl_natOk' A1 n1 c1 xs _ H1.out).mono ?_
  rintro e w' ⟨⟨b1, rfl, ho1⟩, rfl⟩
  cases b1
  · have hfin : Hid (NatSubIs xs ys []) := .inr ⟨(fun h => by have := ho1.2 h.1; cases this), rfl⟩
    clear ho1
    go_wp2_with fail
    go_ret
    exact ⟨[], _, rfl, hfin.out, ⟨by simp, World.ownsRow_nil _ _ _ _⟩, Below.refl _ _⟩
  have k1 := Lib.hid (ho1.1 rfl)
  clear ho1
  go_wp2_with fail
  refine (impl_natOk' A2 n2 c2 ys _ H2.out).mono ?_
  rintro e w' ⟨⟨b2, rfl, ho2⟩, rfl⟩
  cases b2
  · have hfin : Hid (NatSubIs xs ys []) := .inr ⟨(fun h => by have := ho2.2 h.2.1; cases this), rfl⟩
    clear ho2
    go_wp2_with fail
    go_ret
    exact ⟨[], _, rfl, hfin.out, ⟨by simp, World.ownsRow_nil _ _ _ _⟩, Below.refl _ _⟩
  have k2 := Lib.hid (ho2.1 rfl)
  clear ho2
  go_wp2_with fail
  refine (impl_cmp A1 n1 c1 xs A2 n2 c2 ys _ H1.out.canon H2.out.canon k1.out.1 k2.out.1).mono ?_
  rintro e wc ⟨rfl, hb⟩
  have HB := Lib.hid hb
  by_cases hlt : val xs < val ys
  · have hfin : Hid (NatSubIs xs ys []) := .inr ⟨(fun h => by have := h.2.2; omega), rfl⟩
    rw [cmpV_lt hlt]
    clear hb hlt
    go_wp2_with fail
    go_ret
    exact ⟨[], _, rfl, hfin.out, ⟨by simp, World.ownsRow_nil _ _ _ _⟩, HB.out⟩
  have hge : Hid (val ys ≤ val xs) := Lib.hid (by omega)
  have hcm : 0 ≤ cmpV (val xs) (val ys) := by
    by_cases e : val xs = val ys
    · rw [cmpV_eq e]; omega
    · rw [cmpV_gt (by omega)]; omega
  obtain ⟨cm, hcm2⟩ : ∃ cm, cm = cmpV (val xs) (val ys) := ⟨_, rfl⟩
  rw [← hcm2] at hcm ⊢
  clear hb hlt hcm2
  have hn1 : n1 ≤ 60 := by have := k1.out.2; rwa [H1.out.1] at this
  have hn2 : n2 ≤ n1 := by have := longer_ge k2.out.1 k1.out.1.1 hge.out; rwa [H1.out.1, H2.out.1] at this
  have sz := HB.out.size
  go_wp2_with (refine wpList_make_full _ rfl _ _ 22 rfl w.heap.size 3 i0 (.int .i64 0) 1 Try.underlying22 hi hz0 hz1 _ _ _ _ n1 rfl rfl rfl rfl (by rw [hz2]; omega) (by unfold maxLen; omega) sz ?_)
  have hrep : (madeCells #[Value.int .i64 0] n1).toList = (List.replicate n1 (0 : Int)).map (.int .i64) := by simp [toList_madeCells_one]
  intro w1 ho hg
  obtain ⟨g, hgE⟩ : ∃ g, g = wc.heap.size := ⟨_, rfl⟩
  rw [← hgE] at ho ⊢
  have O1 : Hid (w1.ownsRow w.heap.size 3 1 (.slice (some ⟨g, 0, none⟩) n1 n1) n1 ((List.replicate n1 (0 : Int)).map (.int .i64))) := by
    unfold Hid; rw [← hrep]; simpa using ho
  have B1 := Lib.hid (HB.out.grown hg sz (fun k hk => by cases hk))
  have M1 := Lib.hid (DiffAt.start xs ys n1)
  clear ho hg hrep hgE
  go_wp2_with fail
  go_loopw [6, 7, 8, 28] (fun x _ _ y wr => ∃ (k : Nat) (bo : Int) (os : List Int), k ≤ n1 ∧ y = .int .i64 (k : Int) ∧ x = .int .i64 bo ∧ 0 ≤ bo ∧ bo ≤ 1 ∧ Hid (DiffAt xs ys n1 k bo os) ∧ Hid (wr.ownsRow w.heap.size 3 1 (.slice (some ⟨g, 0, none⟩) n1 n1) n1 (os.map (.int .i64))) ∧ Hid (Below w.heap.size w wr)) (fun _ _ _ y _ => n1 - (intOf y).toNat)
  case atStart => exact ⟨0, 0, _, Nat.zero_le _, rfl, rfl, by omega, by omega, M1, O1, B1⟩
  case round =>
    obtain ⟨k, bo, os, hk, rfl, rfl, c0, c9, hs, ho, hb⟩ := hrel
    obtain ⟨wo, rfl⟩ : ∃ wo : World, wo = wr := ⟨_, rfl⟩
    by_cases hlt : k < n1
    · obtain ⟨x, hx⟩ : ∃ x, lim xs k = x := ⟨_, rfl⟩
      obtain ⟨y, hy⟩ : ∃ y, lim ys k = y := ⟨_, rfl⟩
      have bx := lim_bd k1.out.1.1 k
      have bY := lim_bd k2.out.1.1 k
      rw [hx] at bx
      rw [hy] at bY
      obtain ⟨x0, x1⟩ := bx
      obtain ⟨y0, y1⟩ := bY
      have hix1 : k < xs.length := by rw [H1.out.1]; omega
      obtain ⟨b1, o1, rfl, hbs1, hcc1⟩ := (H1.out.2.2.1.below hb.out).at_ (by simp; omega)
      have g1 : wo.cell? ⟨b1, o1 + k, none⟩ = some (.int .i64 x) := (hcc1 k (by simpa using hix1)).trans (by rw [← hx]; unfold lim; rw [List.getD_eq_getElem?_getD, List.getElem?_eq_getElem hix1]; simp)
      have hio : k < os.length := by rw [hs.out.1]; omega
      obtain ⟨o, hoo⟩ : ∃ o, o = os[k] := ⟨_, rfl⟩
      have g3 : wo.cell? ⟨g, k, none⟩ = some (.int .i64 o) := by
        rw [ho.out.cellAt k (by omega)]; simp [hio, hoo]
      have hfr := ho.out.frozenAt k
      have HX := Lib.hid hx
      have HY := Lib.hid hy
      have R2 := Lib.hid (H2.out.2.2.1.below hb.out)
      have hk0 : (0 : Int) ≤ (k : Int) := by omega
      have hkn : (k : Int) < (n1 : Int) := by omega
      by_cases hneg : x - y - bo < 0
      · have hnx := Lib.hid (hs.out.step1 hx hy x0 y1 hlt rfl hneg)
        have hst := ho.out.stored k (.int .i64 (x - y - bo + 1000000000))
        rw [map_set_int] at hst
        have ho2 := Lib.hid hst.1
        have hb2 := Lib.hid (below_marked hb.out ho.out hst.2 (Nat.le_refl _) hb.out.size)
        clear hx hy hoo hst hcc1
        go_wp2_with fail
        go_quiet ((go_at_call 131; first | exact quiet_add_left (impl_limbAt_v _ _ _ ys k y _ HY.out H2.out.1 H2.out.2.1 (R2.out.drewN _)) | exact quiet_left (impl_limbAt_v _ _ _ ys k y _ HY.out H2.out.1 H2.out.2.1 (R2.out.drewN _))))
        go_wp2_with fail
        go_roundw
        case rel => exact ⟨k + 1, 1, _, by omega, by go_num, rfl, by omega, by omega, hnx, ho2, below_drewN hb2.out _⟩
        case measure => simp [intOf]; omega
      · have hnx := Lib.hid (hs.out.step0 hx hy x1 y0 hlt rfl (by omega))
        have hst := ho.out.stored k (.int .i64 (x - y - bo))
        rw [map_set_int] at hst
        have ho2 := Lib.hid hst.1
        have hb2 := Lib.hid (below_marked hb.out ho.out hst.2 (Nat.le_refl _) hb.out.size)
        clear hx hy hoo hst hcc1
        go_wp2_with fail
        go_quiet ((go_at_call 131; first | exact quiet_add_left (impl_limbAt_v _ _ _ ys k y _ HY.out H2.out.1 H2.out.2.1 (R2.out.drewN _)) | exact quiet_left (impl_limbAt_v _ _ _ ys k y _ HY.out H2.out.1 H2.out.2.1 (R2.out.drewN _))))
        go_wp2_with fail
        go_roundw
        case rel => exact ⟨k + 1, 0, _, by omega, by go_num, rfl, by omega, by omega, hnx, ho2, below_drewN hb2.out _⟩
        case measure => simp [intOf]; omega
    · obtain rfl : k = n1 := by omega
      have hv := Lib.hid (hs.out.done (by rw [H1.out.1]; exact Nat.le_refl _) (by rw [H2.out.1]; exact hn2) hge.out)
      go_wp2_with fail
      refine (impl_trim w.heap.size _ _ _ os _ hv.out.2.2 (by omega) ho.out).mono ?_
      rintro e w' ⟨⟨m, rfl, ht⟩, rfl⟩
      obtain ⟨hcn, hvl⟩ := ht.canon hv.out.1
      have hm9 : m ≤ k := by have := ht.1; rwa [hv.out.2.2] at this
      have hlm : (os.take m).length = m := by have := ht.1; simp; omega
      have hown := own_take ho.out hm9
      rw [← List.map_take] at hown
      have hfin : Hid (NatSubIs xs ys (os.take m) ∧ ResI w wo (.slice (some ⟨g, 0, none⟩) m k) (os.take m) ∧ Below w.heap.size w wo) :=
        ⟨.inl ⟨⟨k1.out, k2.out, hge.out⟩, os.take m, hcn, hvl.trans hv.out.2.1, by rw [(hcn.ok (by rw [hlm]; omega)).2]⟩, ⟨by rw [hlm]; omega, by rw [hlm]; exact hown⟩, hb.out⟩
      clear hcn hvl hlm hown ht
      go_wp2_with fail
      go_ret
      exact ⟨_, _, rfl, hfin.out⟩
end Go.Proofs.Ytjggdbakbhacjaa
