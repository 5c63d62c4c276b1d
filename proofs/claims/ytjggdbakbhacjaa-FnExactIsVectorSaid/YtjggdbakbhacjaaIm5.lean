/- Contracts of the program's natural numbers: products. -/
import Derived.Test.YtjggdbakbhacjaaIm4
namespace Go.Proofs.Ytjggdbakbhacjaa
set_option maxRecDepth 100000
open Go.RowKit

set_option maxHeartbeats 1600000 in
theorem impl_natMul (A1 : Option Addr) (n1 c1 : Nat) (xs : List Int) (A2 : Option Addr) (n2 c2 : Nat) (ys : List Int) (w : World) (h1 : InI w A1 n1 xs) (h2 : InI w A2 n2 ys) :
    Calls Try.prog 150 #[.slice A1 n1 c1, .slice A2 n2 c2] w fun e w' => ∃ rs v, e = .returned v ∧ NatMulIs xs ys rs ∧ ResI w w' v rs ∧ Below w.heap.size w w' := by
  obtain ⟨i0, hi, hz0, hz1, hz2⟩ := info_parts Try.infoI
  have H1 := Lib.hid h1
  have H2 := Lib.hid h2
  clear h1 h2
  go_enter Try.func150, Try.ntmps150
  go_wp2_with fail
  refine (impl_natOk' A1 n1 c1 xs _ H1.out).mono ?_
  rintro e w' ⟨⟨b1, rfl, ho1⟩, rfl⟩
  cases b1
  · have hfin : Hid (NatMulIs xs ys []) := .inr ⟨(fun h => by have := ho1.2 h.1; cases this), rfl⟩
    clear ho1
    go_wp2_with fail
    go_ret
    exact ⟨[], _, rfl, hfin.out, ⟨by simp, World.ownsRow_nil _ _ _ _⟩, Below.refl _ _⟩
  have k1 := Lib.hid (ho1.1 rfl)
  clear ho1
  go_wp2_with fail
  refine (impl_natOk' A2 n2 c2 ys _ H2.out).mono ?_
  rintro e w' ⟨⟨b2, rfl, ho2⟩, rfl⟩
  cases b2
  · have hfin : Hid (NatMulIs xs ys []) := .inr ⟨(fun h => by have := ho2.2 h.2; cases this), rfl⟩
    clear ho2
    go_wp2_with fail
    go_ret
    exact ⟨[], _, rfl, hfin.out, ⟨by simp, World.ownsRow_nil _ _ _ _⟩, Below.refl _ _⟩
  have k2 := Lib.hid (ho2.1 rfl)
  clear ho2
  by_cases e1 : n1 = 0
  · have hfin : Hid (NatMulIs xs ys []) := .inl ⟨⟨k1.out, k2.out⟩, [], canon_nil, by rw [List.eq_nil_of_length_eq_zero (H1.out.1.trans e1)]; simp [val], rfl⟩
    have ht : ((n1 : Int) == 0) = true := by simp [e1]
    clear e1
    go_wp2_with fail
    go_ret
    exact ⟨[], _, rfl, hfin.out, ⟨by simp, World.ownsRow_nil _ _ _ _⟩, Below.refl _ _⟩
  by_cases e2 : n2 = 0
  · have hfin : Hid (NatMulIs xs ys []) := .inl ⟨⟨k1.out, k2.out⟩, [], canon_nil, by rw [List.eq_nil_of_length_eq_zero (H2.out.1.trans e2)]; simp [val], rfl⟩
    have ht : ((n1 : Int) == 0) = false := by simp [e1]
    have ht2 : ((n2 : Int) == 0) = true := by simp [e2]
    clear e1 e2
    go_wp2_with fail
    go_ret
    exact ⟨[], _, rfl, hfin.out, ⟨by simp, World.ownsRow_nil _ _ _ _⟩, Below.refl _ _⟩
  have ht1 : ((n1 : Int) == 0) = false := by simp [e1]
  have ht2 : ((n2 : Int) == 0) = false := by simp [e2]
  have hp1 : 0 < n1 := by omega
  have hp2 : 0 < n2 := by omega
  have hn1 : n1 ≤ 60 := by have := k1.out.2; rwa [H1.out.1] at this
  have hn2 : n2 ≤ 60 := by have := k2.out.2; rwa [H2.out.1] at this
  clear e1 e2
  go_wp2_with (refine wpList_make_full _ rfl _ _ 22 rfl w.heap.size 3 i0 (.int .i64 0) 1 Try.underlying22 hi hz0 hz1 _ _ _ _ (n1 + n2) rfl rfl (by omega) (by omega) (by rw [hz2]; omega) (by unfold maxLen; omega) (Nat.le_refl _) ?_)
  have hrep : (madeCells #[Value.int .i64 0] (n1 + n2)).toList = (List.replicate (n1 + n2) (0 : Int)).map (.int .i64) := by
    simp [toList_madeCells_one]
  intro w1 ho hg
  have O1 : Hid (w1.ownsRow w.heap.size 3 1 (.slice (some ⟨w.heap.size, 0, none⟩) (n1 + n2) (n1 + n2)) (n1 + n2) ((List.replicate (n1 + n2) (0 : Int)).map (.int .i64))) := by
    unfold Hid; rw [← hrep]; exact ho
  have B1 := Lib.hid ((Below.refl w.heap.size w).grown hg (Nat.le_refl _) (fun k hk => by cases hk))
  have M1 : Hid (MulAt xs ys (n1 + n2) 0 (List.replicate (n1 + n2) 0)) :=
    ⟨by simp, zeros_inR _, by rw [zeros_val]; simp [val], zeros_from _ _⟩
  clear ho hg hrep
  go_wp2_with fail
  go_loopw [35] (fun z wr => ∃ (i : Nat) (os : List Int), i ≤ n1 ∧ z = .int .i64 i ∧ Hid (MulAt xs ys (n1 + n2) i os) ∧ Hid (wr.ownsRow w.heap.size 3 1 (.slice (some ⟨w.heap.size, 0, none⟩) (n1 + n2) (n1 + n2)) (n1 + n2) (os.map (.int .i64))) ∧ Hid (Below w.heap.size w wr)) (fun z _ => n1 - (intOf z).toNat)
  case atStart => exact ⟨0, _, Nat.zero_le _, rfl, M1, O1, B1⟩
  case round =>
    obtain ⟨i, os, hin, rfl, hm, ho, hb⟩ := hrel
    by_cases hlt : i < n1
    · obtain ⟨wo, rfl⟩ : ∃ wo : World, wo = wr := ⟨_, rfl⟩
      have hix : i < xs.length := by rw [H1.out.1]; exact hlt
      obtain ⟨x, hx⟩ : ∃ x, x = xs[i] := ⟨_, rfl⟩
      have hxr := k1.out.1.1 _ (List.getElem_mem hix)
      rw [← hx] at hxr
      obtain ⟨x0, x1⟩ := hxr
      have Hx := Lib.hid hx
      have hi0 : (0 : Int) ≤ (i : Int) := by omega
      have hi1 : (i : Int) < (n1 : Int) := by omega
      have hrow := Lib.hid (hm.out.row x)
      clear hx
      go_wp2_with fail
      go_loopw [7, 40] (fun y z wr => ∃ (j : Nat) (cy : Int) (os : List Int), j ≤ n2 ∧ z = .int .i64 j ∧ y = .int .i64 cy ∧ 0 ≤ cy ∧ cy ≤ 999999999 ∧ Hid (RowAt xs ys (n1 + n2) i x j cy os) ∧ Hid (wr.ownsRow w.heap.size 3 1 (.slice (some ⟨w.heap.size, 0, none⟩) (n1 + n2) (n1 + n2)) (n1 + n2) (os.map (.int .i64))) ∧ Hid (Below w.heap.size w wr)) (fun _ z _ => n2 - (intOf z).toNat)
      case atStart => exact ⟨0, 0, os, Nat.zero_le _, rfl, rfl, by omega, by omega, hrow, ho, hb⟩
      case round =>
        obtain ⟨j, cy, os, hjn, rfl, rfl, cy0, cy1, hr, ho, hb⟩ := hrel
        obtain ⟨wi, rfl⟩ : ∃ wi : World, wi = wr := ⟨_, rfl⟩
        by_cases hjt : j < n2
        · have hjy : j < ys.length := by rw [H2.out.1]; exact hjt
          obtain ⟨b1, o1, rfl, hbs1, hc1⟩ := (H1.out.2.2.1.below hb.out).at_ (by simp; omega)
          have g1 : wi.cell? ⟨b1, o1 + i, none⟩ = some (.int .i64 x) := (hc1 i (by simpa using hix)).trans (by simp [Hx.out])
          obtain ⟨b2, o2, rfl, hbs2, hc2⟩ := (H2.out.2.2.1.below hb.out).at_ (by simp; omega)
          obtain ⟨y, hy⟩ : ∃ y, y = ys[j] := ⟨_, rfl⟩
          have g2 : wi.cell? ⟨b2, o2 + j, none⟩ = some (.int .i64 y) := (hc2 j (by simpa using hjy)).trans (by simp [hy])
          have hyr := k2.out.1.1 _ (List.getElem_mem hjy)
          rw [← hy] at hyr
          obtain ⟨y0, y1⟩ := hyr
          have hij : i + j < os.length := by rw [hr.out.1]; omega
          obtain ⟨o, hoo⟩ : ∃ o, o = os[i + j] := ⟨_, rfl⟩
          have g3 : wi.cell? ⟨w.heap.size, i + j, none⟩ = some (.int .i64 o) := by
            rw [ho.out.cellAt (i + j) (by omega)]; simp [hij, hoo]
          have hor := hr.out.2.1 _ (List.getElem_mem hij)
          rw [← hoo] at hor
          obtain ⟨q0, q1⟩ := hor
          obtain ⟨p0, p1⟩ := prod_bd x0 x1 y0 y1
          have hnx := Lib.hid (hr.out.step hjy hy hij hoo (by omega) (by omega))
          have hcm : o + x * y + cy = cy + (o + x * y) := by omega
          rw [hcm] at hnx
          have hfr := ho.out.frozenAt (i + j)
          have hst := ho.out.stored (i + j) (.int .i64 ((cy + (o + x * y)) % 1000000000))
          rw [map_set_int] at hst
          have ho2 := Lib.hid hst.1
          have hb2 := Lib.hid (below_marked hb.out ho.out hst.2 (Nat.le_refl _) hb.out.size)
          have hj0 : (0 : Int) ≤ (j : Int) := by omega
          have hj1 : (j : Int) < (n2 : Int) := by omega
          have hij2 : (i : Int) + (j : Int) < ((n1 + n2 : Nat) : Int) := by omega
          have hij3 : (i : Int) + (j : Int) < (n1 : Int) + (n2 : Int) := by omega
          have hb3 : 0 ≤ (cy + (o + x * y)) / 1000000000 ∧ (cy + (o + x * y)) / 1000000000 ≤ 999999999 := by omega
          have Hb3 := Lib.hid hb3
          clear hc1 hc2 hy hoo hst hb3 hcm
          go_wp2_with fail
          go_quiet (fail)
          go_wp2_with fail
          go_roundw
          case rel => exact ⟨j + 1, _, _, by omega, by go_num, rfl, Hb3.out.1, Hb3.out.2, hnx, ho2, below_drewN hb2.out _⟩
          case measure => simp [intOf]; omega
        · obtain rfl : j = n2 := by omega
          have hjl : i + ys.length < os.length := by rw [H2.out.1, hr.out.1]; omega
          have hr2 := hr.out
          rw [← H2.out.1] at hr2
          have hnx := Lib.hid (hr2.next hix Hx.out hjl)
          rw [H2.out.1] at hnx
          obtain ⟨o, hoo⟩ : ∃ o, o = os[i + j]'(by rw [hr.out.1]; omega) := ⟨_, rfl⟩
          have g3 : wi.cell? ⟨w.heap.size, i + j, none⟩ = some (.int .i64 o) := by
            rw [ho.out.cellAt (i + j) (by omega)]; simp [hoo]
          have hfr := ho.out.frozenAt (i + j)
          have hst := ho.out.stored (i + j) (.int .i64 cy)
          rw [map_set_int] at hst
          have ho2 := Lib.hid hst.1
          have hb2 := Lib.hid (below_marked hb.out ho.out hst.2 (Nat.le_refl _) hb.out.size)
          have hij2 : (i : Int) + (j : Int) < ((n1 + j : Nat) : Int) := by omega
          clear hoo hst hr2
          go_wp2_with fail
          go_roundw
          case rel => exact ⟨i + 1, _, by omega, by go_num, hnx, ho2, hb2⟩
          case measure => simp [intOf]; omega
    · obtain rfl : i = n1 := by omega
      have hv : Hid (InR os ∧ val os = val xs * val ys ∧ os.length = i + n2) :=
        ⟨hm.out.2.1, by have := hm.out.2.2.1; rwa [List.take_of_length_le (by rw [H1.out.1]; exact Nat.le_refl _)] at this, hm.out.1⟩
      go_wp2_with fail
      refine (impl_trim w.heap.size _ (i + n2) (i + n2) os _ hv.out.2.2 (by omega) ho.out).mono ?_
      rintro e w' ⟨⟨m, rfl, ht⟩, rfl⟩
      have Ht := Lib.hid ht
      have hm9 : m ≤ i + n2 := by have := ht.1; rwa [hv.out.2.2] at this
      clear ht
      go_wp2_with fail
      refine (impl_limited _ m _ _ (by omega)).mono ?_
      rintro e w' ⟨he, rfl⟩
      obtain ⟨rs, v, rfl, hown, h60, l, hcl, hvl, hrs⟩ := (capEnd_of Ht.out he).gives hv.out.1 ho.out hv.out.2.2
      have hfin : Hid (∃ v', v = v' ∧ NatMulIs xs ys rs ∧ ResI w _ v' rs ∧ Below w.heap.size w _) :=
        ⟨v, rfl, .inl ⟨⟨k1.out, k2.out⟩, l, hcl, hvl.trans hv.out.2.1, hrs⟩, ⟨by omega, hown⟩, hb.out⟩
      clear he hown hcl hvl hrs
      go_wp2_with fail
      go_ret
      obtain ⟨v', rfl, h⟩ := hfin.out
      exact ⟨rs, _, rfl, h⟩
end Go.Proofs.Ytjggdbakbhacjaa
