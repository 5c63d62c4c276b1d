/- Contracts of the model's natural numbers: products. -/
import Derived.Test.YtjggdbakbhacjaaNat2
namespace Go.Proofs.Ytjggdbakbhacjaa
set_option maxRecDepth 100000
open Go.RowKit

/-- The product after i whole rows: the limbs. -/
def MulAt (xs ys : List Int) (L i : Nat) (os : List Int) : Prop := os.length = L ∧ InR os ∧ val os = val (xs.take i) * val ys ∧ ZeroFrom os (i + ys.length)
/-- .. and j places into the next row, x its limb, cy the carry. -/
def RowAt (xs ys : List Int) (L i : Nat) (x : Int) (j : Nat) (cy : Int) (os : List Int) : Prop :=
  os.length = L ∧ InR os ∧ val os + pw (i + j) * cy = val (xs.take i) * val ys + pw i * (x * val (ys.take j)) ∧ ZeroFrom os (i + ys.length) ∧ 0 ≤ cy ∧ cy ≤ 999999999
theorem MulAt.row {xs ys os : List Int} {L i : Nat} (x : Int) (h : MulAt xs ys L i os) : RowAt xs ys L i x 0 0 os :=
  ⟨h.1, h.2.1, by rw [h.2.2.1]; simp [val], h.2.2.2, by omega, by omega⟩
theorem RowAt.step {xs ys os : List Int} {L i j : Nat} {x cy y o : Int} (h : RowAt xs ys L i x j cy os) (hj : j < ys.length) (hy : y = ys[j]) (hij : i + j < os.length) (ho : o = os[i + j]) (hS : 0 ≤ o + x * y + cy) (hS1 : o + x * y + cy ≤ 999999999999999999) :
    RowAt xs ys L i x (j + 1) ((o + x * y + cy) / 1000000000) (os.set (i + j) ((o + x * y + cy) % 1000000000)) := by
  obtain ⟨h1, h2, h3, h4, h5, h6⟩ := h
  refine ⟨by simpa using h1, h2.set _ (by omega) (by omega), ?_, h4.set (by omega) _, by omega, by omega⟩
  rw [val_set _ _ _ hij, val_take_succ, ← ho, ← Nat.add_assoc, pw]
  have hl : lim ys j = y := by unfold lim; rw [List.getD_eq_getElem?_getD, List.getElem?_eq_getElem hj, hy]; rfl
  rw [hl]
  have e : pw (i + j) * ((o + x * y + cy) % 1000000000 - o) + 1000000000 * pw (i + j) * ((o + x * y + cy) / 1000000000) = pw (i + j) * (x * y) + pw (i + j) * cy := by
    rw [Int.mul_comm 1000000000, Int.mul_assoc, ← Int.mul_add, ← Int.mul_add]
    congr 1; omega
  have e2 : pw i * (x * (val (ys.take j) + pw j * y)) = pw i * (x * val (ys.take j)) + pw (i + j) * (x * y) := by
    rw [Int.mul_add, Int.mul_add, pw_add, Int.mul_left_comm x (pw j) y, Int.mul_assoc]
  rw [e2]; omega
theorem RowAt.next {xs ys os : List Int} {L i : Nat} {x cy : Int} (h : RowAt xs ys L i x ys.length cy os) (hi : i < xs.length) (hx : x = xs[i]) (hl : i + ys.length < os.length) : MulAt xs ys L (i + 1) (os.set (i + ys.length) cy) := by
  obtain ⟨h1, h2, h3, h4, h5, h6⟩ := h
  refine ⟨by simpa using h1, h2.set _ h5 h6, ?_, by have := h4.set_last cy; rwa [Nat.add_right_comm] at this⟩
  have hlx : lim xs i = x := by unfold lim; rw [List.getD_eq_getElem?_getD, List.getElem?_eq_getElem hi, hx]; rfl
  rw [val_set _ _ _ hl, h4 _ hl (Nat.le_refl _), val_take_succ, hlx, Int.sub_zero, h3, List.take_of_length_le (Nat.le_refl _), Int.add_mul, Int.mul_assoc]
set_option maxHeartbeats 1600000 in
theorem spec_mul (A1 : Option Addr) (n1 c1 : Nat) (xs : List Int) (A2 : Option Addr) (n2 c2 : Nat) (ys : List Int) (w : World) (h1 : xs.length = n1 ∧ n1 ≤ 1048576 ∧ Reads w A1 (xs.map (.int .i64))) (h2 : ys.length = n2 ∧ n2 ≤ 1048576 ∧ Reads w A2 (ys.map (.int .i64))) (k1 : InR xs) (k2 : InR ys) :
    Calls Try.prog 112 #[.slice A1 n1 c1, .slice A2 n2 c2] w fun e w' => CanEnd (val xs * val ys) (n1 + n2) w w' e := by
  obtain ⟨i0, hi, hz0, hz1, hz2⟩ := info_parts Try.infoI
  obtain ⟨hn1, hb1, hr1⟩ := h1
  obtain ⟨hn2, hb2, hr2⟩ := h2
  have Hn1 := Lib.hid hn1
  have Hn2 := Lib.hid hn2
  have Hr1 := Lib.hid hr1
  have Hr2 := Lib.hid hr2
  have K1 := Lib.hid k1
  have K2 := Lib.hid k2
  by_cases e1 : n1 = 0
  · have hfin : Hid (CanEnd (val xs * val ys) (n1 + n2) w w (.returned (.slice none 0 0))) :=
      ⟨[], none, 0, rfl, canon_nil, by rw [List.eq_nil_of_length_eq_zero (hn1.trans e1)]; simp [val], by simp, World.ownsRow_nil _ _ _ _, Below.refl _ _⟩
    have ht : ((n1 : Int) == 0) = true := by simp [e1]
    clear hn1 hn2 hr1 hr2 k1 k2 e1
    go_enter Try.func112, Try.ntmps112
    go_wp2_with fail
    go_ret
    exact hfin.out
  by_cases e2 : n2 = 0
  · have hfin : Hid (CanEnd (val xs * val ys) (n1 + n2) w w (.returned (.slice none 0 0))) :=
      ⟨[], none, 0, rfl, canon_nil, by rw [List.eq_nil_of_length_eq_zero (hn2.trans e2)]; simp [val], by simp, World.ownsRow_nil _ _ _ _, Below.refl _ _⟩
    have ht : ((n1 : Int) == 0) = false := by simp [e1]
    have ht2 : ((n2 : Int) == 0) = true := by simp [e2]
    clear hn1 hn2 hr1 hr2 k1 k2 e1 e2
    go_enter Try.func112, Try.ntmps112
    go_wp2_with fail
    go_ret
    exact hfin.out
  have ht1 : ((n1 : Int) == 0) = false := by simp [e1]
  have ht2 : ((n2 : Int) == 0) = false := by simp [e2]
  have hp1 : 0 < n1 := by omega
  have hp2 : 0 < n2 := by omega
  clear hn1 hn2 hr1 hr2 k1 k2 e1 e2
  go_enter Try.func112, Try.ntmps112
  go_wp2_with (refine wpList_make_full _ rfl _ _ 22 rfl w.heap.size 3 i0 (.int .i64 0) 1 Try.underlying22 hi hz0 hz1 _ _ _ _ (n1 + n2) rfl rfl (by omega) (by omega) (by rw [hz2]; omega) (by unfold maxLen; omega) (Nat.le_refl _) ?_)
  intro w1 ho hg
  have hrep : (madeCells #[Value.int .i64 0] (n1 + n2)).toList = (List.replicate (n1 + n2) (0 : Int)).map (.int .i64) := by
    simp [toList_madeCells_one]
  have O1 : Hid (w1.ownsRow w.heap.size 3 1 (.slice (some ⟨w.heap.size, 0, none⟩) (n1 + n2) (n1 + n2)) (n1 + n2) ((List.replicate (n1 + n2) (0 : Int)).map (.int .i64))) := by
    unfold Hid; rw [← hrep]; exact ho
  have B1 := Lib.hid ((Below.refl w.heap.size w).grown hg (Nat.le_refl _) (fun k hk => by cases hk))
  have M1 : Hid (MulAt xs ys (n1 + n2) 0 (List.replicate (n1 + n2) 0)) :=
    ⟨by simp, fun d hd => by rw [(List.mem_replicate.1 hd).2]; decide, by rw [zeros_val]; simp [val], fun j hj _ => by simp⟩
  clear ho hg hrep
  go_wp2_with fail
  go_loopw [28] (fun z wr => ∃ (i : Nat) (os : List Int), i ≤ n1 ∧ z = .int .i64 i ∧ Hid (MulAt xs ys (n1 + n2) i os) ∧ Hid (wr.ownsRow w.heap.size 3 1 (.slice (some ⟨w.heap.size, 0, none⟩) (n1 + n2) (n1 + n2)) (n1 + n2) (os.map (.int .i64))) ∧ Hid (Below w.heap.size w wr)) (fun z _ => n1 - (intOf z).toNat)
  case atStart => exact ⟨0, _, Nat.zero_le _, rfl, M1, O1, B1⟩
  case round =>
    obtain ⟨i, os, hin, rfl, hm, ho, hb⟩ := hrel
    by_cases hlt : i < n1
    · obtain ⟨wo, rfl⟩ : ∃ wo : World, wo = wr := ⟨_, rfl⟩
      have hix : i < xs.length := by rw [Hn1.out]; exact hlt
      obtain ⟨b1, o1, rfl, hbs1, hc1⟩ := (Hr1.out.below hb.out).at_ (by simp; omega)
      obtain ⟨x, hx⟩ : ∃ x, x = xs[i] := ⟨_, rfl⟩
      have g1 : wo.cell? ⟨b1, o1 + i, none⟩ = some (.int .i64 x) := (hc1 i (by simpa using hix)).trans (by simp [hx])
      have hxr := K1.out _ (List.getElem_mem hix)
      rw [← hx] at hxr
      obtain ⟨x0, x1⟩ := hxr
      have Hx := Lib.hid hx
      have hi0 : (0 : Int) ≤ (i : Int) := by omega
      have hi1 : (i : Int) < (n1 : Int) := by omega
      have hrow := Lib.hid (hm.out.row x)
      clear hc1 hx
      go_wp2_with fail
      go_loopw [8, 35] (fun y z wr => ∃ (j : Nat) (cy : Int) (os : List Int), j ≤ n2 ∧ z = .int .i64 j ∧ y = .int .i64 cy ∧ 0 ≤ cy ∧ cy ≤ 999999999 ∧ Hid (RowAt xs ys (n1 + n2) i x j cy os) ∧ Hid (wr.ownsRow w.heap.size 3 1 (.slice (some ⟨w.heap.size, 0, none⟩) (n1 + n2) (n1 + n2)) (n1 + n2) (os.map (.int .i64))) ∧ Hid (Below w.heap.size w wr)) (fun _ z _ => n2 - (intOf z).toNat)
      case atStart => exact ⟨0, 0, os, Nat.zero_le _, rfl, rfl, by omega, by omega, hrow, ho, hb⟩
      case round =>
        obtain ⟨j, cy, os, hjn, rfl, rfl, cy0, cy1, hr, ho, hb⟩ := hrel
        obtain ⟨wi, rfl⟩ : ∃ wi : World, wi = wr := ⟨_, rfl⟩
        by_cases hjt : j < n2
        · have hjy : j < ys.length := by rw [Hn2.out]; exact hjt
          obtain ⟨b2, o2, rfl, hbs2, hc2⟩ := (Hr2.out.below hb.out).at_ (by simp; omega)
          obtain ⟨y, hy⟩ : ∃ y, y = ys[j] := ⟨_, rfl⟩
          have g2 : wi.cell? ⟨b2, o2 + j, none⟩ = some (.int .i64 y) := (hc2 j (by simpa using hjy)).trans (by simp [hy])
          have hyr := K2.out _ (List.getElem_mem hjy)
          rw [← hy] at hyr
          obtain ⟨y0, y1⟩ := hyr
          have hij : i + j < os.length := by rw [hr.out.1]; omega
          obtain ⟨o, hoo⟩ : ∃ o, o = os[i + j] := ⟨_, rfl⟩
          have g3 : wi.cell? ⟨w.heap.size, i + j, none⟩ = some (.int .i64 o) := by
            rw [ho.out.cellAt (i + j) (by omega)]; simp [hij, hoo]
          have hor := hr.out.2.1 _ (List.getElem_mem hij)
          rw [← hoo] at hor
          obtain ⟨q0, q1⟩ := hor
          obtain ⟨p0, p1⟩ := prod_bd x0 x1 y0 y1
          have hnx := Lib.hid (hr.out.step hjy hy hij hoo (by omega) (by omega))
          have hfr := ho.out.frozenAt (i + j)
          have hst := ho.out.stored (i + j) (.int .i64 ((o + x * y + cy) % 1000000000))
          rw [map_set_int] at hst
          have ho2 := Lib.hid hst.1
          have hb2 := Lib.hid (below_marked hb.out ho.out hst.2 (Nat.le_refl _) hb.out.size)
          have hj0 : (0 : Int) ≤ (j : Int) := by omega
          have hj1 : (j : Int) < (n2 : Int) := by omega
          have hij2 : (i : Int) + (j : Int) < ((n1 + n2 : Nat) : Int) := by omega
          have hb3 : 0 ≤ (o + x * y + cy) / 1000000000 ∧ (o + x * y + cy) / 1000000000 ≤ 999999999 := by omega
          have Hb3 := Lib.hid hb3
          clear hc2 hy hoo hst hb3
          go_wp2_with fail
          go_roundw
          case rel => exact ⟨j + 1, _, _, by omega, by go_num, rfl, Hb3.out.1, Hb3.out.2, hnx, ho2, hb2⟩
          case measure => simp [intOf]; omega
        · obtain rfl : j = n2 := by omega
          have hjl : i + ys.length < os.length := by rw [Hn2.out, hr.out.1]; omega
          have hr2 := hr.out
          rw [← Hn2.out] at hr2
          have hnx := Lib.hid (hr2.next hix Hx.out hjl)
          rw [Hn2.out] at hnx
          obtain ⟨o, hoo⟩ : ∃ o, o = os[i + j]'(by rw [hr.out.1]; omega) := ⟨_, rfl⟩
          have g3 : wi.cell? ⟨w.heap.size, i + j, none⟩ = some (.int .i64 o) := by
            rw [ho.out.cellAt (i + j) (by omega)]; simp [hoo]
          have hfr := ho.out.frozenAt (i + j)
          have hst := ho.out.stored (i + j) (.int .i64 cy)
          rw [map_set_int] at hst
          have ho2 := Lib.hid hst.1
          have hb2 := Lib.hid (below_marked hb.out ho.out hst.2 (Nat.le_refl _) hb.out.size)
          have hij2 : (i : Int) + (j : Int) < ((n1 + j : Nat) : Int) := by omega
          clear hoo hst hr2
          go_wp2_with fail
          go_roundw
          case rel => exact ⟨i + 1, _, by omega, by go_num, hnx, ho2, hb2⟩
          case measure => simp [intOf]; omega
    · obtain rfl : i = n1 := by omega
      have hv : Hid (InR os ∧ val os = val xs * val ys ∧ os.length = i + n2) :=
        ⟨hm.out.2.1, by have := hm.out.2.2.1; rwa [List.take_of_length_le (by rw [Hn1.out]; exact Nat.le_refl _)] at this, hm.out.1⟩
      go_wp2_with fail
      refine (spec_trim w.heap.size _ (i + n2) (i + n2) os _ hv.out.2.2 (by omega) ho.out).mono ?_
      rintro e w' ⟨⟨m, rfl, ht⟩, rfl⟩
      obtain ⟨hcn, hvl⟩ := ht.canon hv.out.1
      have hmm : m ≤ i + n2 := by have := ht.1; rwa [hv.out.2.2] at this
      have hlm : (os.take m).length = m := by have := ht.1; simp; omega
      have hown := own_take ho.out hmm
      rw [← List.map_take] at hown
      have hend : Hid (CanEnd (val xs * val ys) (i + n2) w wr (.returned (.slice (some ⟨w.heap.size, 0, none⟩) m (i + n2)))) :=
        ⟨os.take m, _, _, by rw [hlm], hcn, hvl.trans hv.out.2.1, by rw [hlm]; exact hmm, by rw [hlm]; exact hown, hb.out⟩
      clear ht hcn hvl hlm hown
      go_wp2_with fail
      go_ret
      exact hend.out

end Go.Proofs.Ytjggdbakbhacjaa
