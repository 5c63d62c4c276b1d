/- Structures: copied by the helpers of the laws. -/
import Derived.Test.YtipmeijfmiiedaaStM2
namespace Go.Proofs.Ytipmeijfmiiedaa
set_option maxRecDepth 100000
open Go.RowKit

set_option maxHeartbeats 800000 in
theorem toJoint_any (s : ByteArray) (x y : Int) (f : Bool) (w : World) :
    Calls Try.prog 80 #[.agg #[.string s, .int .i64 x, .int .i64 y, .bool f]] w fun e w' => e = .returned (.agg #[.string s, .int .i64 x, .int .i64 y, .bool f]) ∧ Below w.heap.size w w' := by
  go_enter Try.func80, Try.ntmps80
  go_wp2_with fail
  refine bodyPost_ret (v := .agg #[.string s, .int .i64 x, .int .i64 y, .bool f]) (by simp [results, Try.results80, go_sem]) rfl ⟨rfl, ?_⟩
  repeat (first | exact Below.refl _ _ | refine Below.setCell ?_ (by first | (simp; done) | (simp; omega)) _ | refine Below.alloc ?_ (by first | (simp; done) | (simp; omega)) _)
/-- A new element in the place of one of the call's own list. -/
theorem own_setJ {w : World} {base g n c i : Nat} {js : List JD} (h : w.ownsRow base 79 4 (.slice (some ⟨g, 0, none⟩) n c) n (jcells js)) (hi : i < n) (j : JD) :
    ((((w.setCell ⟨g, i * 4, none⟩ (.string j.name)).setCell ⟨g, i * 4 + 1, none⟩ (.int .i64 j.x)).setCell ⟨g, i * 4 + 2, none⟩ (.int .i64 j.y)).setCell ⟨g, i * 4 + 3, none⟩ (.bool j.fixed)).ownsRow base 79 4 (.slice (some ⟨g, 0, none⟩) n c) n (jcells (js.set i j)) := by
  rw [jcells_set _ _ _ (by rw [own_lenJ h]; exact hi)]
  exact ((((h.stored _ _).1.stored _ _).1.stored _ _).1.stored _ _).1
theorem below_setJ {B g i : Nat} {a w : World} (hb : Below B a w) (hg : B ≤ g) (j : JD) : Below B a ((((w.setCell ⟨g, i * 4, none⟩ (.string j.name)).setCell ⟨g, i * 4 + 1, none⟩ (.int .i64 j.x)).setCell ⟨g, i * 4 + 2, none⟩ (.int .i64 j.y)).setCell ⟨g, i * 4 + 3, none⟩ (.bool j.fixed)) := ((((hb.setCell hg _).setCell hg _).setCell hg _).setCell hg _)
theorem own_roomJ {w : World} {base g n c i : Nat} {js : List JD} (ho : w.ownsRow base 79 4 (.slice (some ⟨g, 0, none⟩) n c) n (jcells js)) (hi : i < n) :
    ∃ x0 x1 x2 x3, w.cell? ⟨g, i * 4, none⟩ = some x0 ∧ w.cell? ⟨g, i * 4 + 1, none⟩ = some x1 ∧ w.cell? ⟨g, i * 4 + 2, none⟩ = some x2 ∧ w.cell? ⟨g, i * 4 + 3, none⟩ = some x3 ∧ w.frozen? ⟨g, i * 4, none⟩ = false ∧ w.frozen? ⟨g, i * 4 + 1, none⟩ = false ∧ w.frozen? ⟨g, i * 4 + 2, none⟩ = false ∧ w.frozen? ⟨g, i * 4 + 3, none⟩ = false := by
  have hl := own_lenJ ho
  have h0 := jcells_at js i _ (List.getElem?_eq_getElem (by omega))
  have h : w.cell? ⟨g, i * 4, none⟩ = some _ ∧ w.cell? ⟨g, i * 4 + 1, none⟩ = some _ ∧ w.cell? ⟨g, i * 4 + 2, none⟩ = some _ ∧ w.cell? ⟨g, i * 4 + 3, none⟩ = some _ := ⟨(ho.cellAt _ (by omega)).trans h0.1, (ho.cellAt _ (by omega)).trans h0.2.1, (ho.cellAt _ (by omega)).trans h0.2.2.1, (ho.cellAt _ (by omega)).trans h0.2.2.2⟩
  exact ⟨_, _, _, _, h.1, h.2.1, h.2.2.1, h.2.2.2, ho.frozenAt _, ho.frozenAt _, ho.frozenAt _, ho.frozenAt _⟩
def upToJ (js : List JD) (i n : Nat) : List JD := js.take i ++ List.replicate (n - i) JD.zero
theorem upToJ_succ {js : List JD} {i n : Nat} {j : JD} (h : js[i]? = some j) (hi : i < n) : (upToJ js i n).set i j = upToJ js (i + 1) n := by
  obtain ⟨hlt, rfl⟩ := List.getElem?_eq_some_iff.1 h
  have hl : (js.take i).length = i := by rw [List.length_take]; omega
  unfold upToJ
  rw [List.set_append_right _ _ (by omega), hl, Nat.sub_self, show n - i = (n - (i + 1)) + 1 by omega, List.replicate_succ, List.set_cons_zero, List.take_succ_eq_append_getElem hlt, List.append_assoc]
  rfl
def ToJEnd (n : Nat) (js : List JD) (w w' : World) (e : Ending) : Prop := ∃ v, e = .returned v ∧ w'.ownsRow w.heap.size 79 4 v n (jcells js) ∧ Below w.heap.size w w'
set_option maxHeartbeats 1600000 in
theorem toJointS_any (A : Option Addr) (n c : Nat) (js : List JD) (w : World) (h : InJ w A n js) :
    Calls Try.prog 59 #[.slice A n c] w fun e w' => ToJEnd n js w w' e := by
  obtain ⟨i0, hi, hz0, hz1, hz2⟩ := info_parts Try.infoJ
  have hm := h.2.1
  have HV := Lib.hid h
  have HL : Hid (js.length = n) := h.1
  clear h
  go_enter Try.func59, Try.ntmps59
  go_wp2_with (refine wpList_make_full _ rfl _ _ 23 rfl w.heap.size 79 i0 (.agg #[.string ByteArray.empty, .int .i64 0, .int .i64 0, .bool false]) 4 Try.underlying23 hi hz0 hz1 _ _ _ _ n rfl rfl rfl rfl ?c1 ?c2 ?c3 ?_)
  case c1 => rw [hz2]; omega
  case c2 => unfold maxLen; omega
  case c3 => exact Nat.le_refl _
  intro w1 ho hg
  rw [show madeCells #[.string ByteArray.empty, .int .i64 0, .int .i64 0, .bool false] (n * 4) = madeCells (Value.agg #[.string ByteArray.empty, .int .i64 0, .int .i64 0, .bool false]).cells (n * 4) from rfl, jcells_zero] at ho
  have B1 := Lib.hid ((Below.refl w.heap.size w).grown hg (Nat.le_refl _) (fun k hk => by cases hk))
  have O1 : Hid (w1.ownsRow w.heap.size 79 4 (.slice (some ⟨w.heap.size, 0, none⟩) n n) n (jcells (upToJ js 0 n))) := by unfold upToJ; rw [List.take_zero, List.nil_append]; exact ho
  clear ho hg
  go_wp2_with fail
  go_loopw [4] (fun y wr => ∃ i : Nat, i ≤ n ∧ y = .int .i64 i ∧ Hid (wr.ownsRow w.heap.size 79 4 (.slice (some ⟨w.heap.size, 0, none⟩) n n) n (jcells (upToJ js i n))) ∧ Hid (Below w.heap.size w wr)) (fun y _ => n - (intOf y).toNat)
  case atStart => exact ⟨0, Nat.zero_le _, rfl, O1, B1⟩
  case round =>
    obtain ⟨i, hle, rfl, ho, hb⟩ := hrel
    by_cases hlt : i < n
    · obtain ⟨b, o, rfl, hbs, ⟨s, x, y, f⟩, hr, ⟨e0, e1, e2, e3⟩, _⟩ := (HV.out.below hb.out).at_ i hlt
      have hi0 : (0 : Int) ≤ (i : Int) := by omega
      have hi1 : (i : Int) < (n : Int) := by omega
      have HR := Lib.hid hr
      clear hr
      simp only at e0 e1 e2 e3
      go_wp2_with fail
      refine (toJoint_any s x y f _).mono ?_
      rintro e w2 ⟨rfl, hb2⟩
      have ho2 := own_below ho.out hb2
      have HB2 := Lib.hid (hb.out.trans (hb2.mono hb.out.size))
      obtain ⟨x0, x1, x2, x3, g0, g1, g2, g3, f0, f1, f2, f3⟩ := own_roomJ ho2 hlt
      have HO := Lib.hid (own_setJ ho2 hlt ⟨s, x, y, f⟩)
      rw [upToJ_succ HR.out hlt] at HO
      have HB := Lib.hid (below_setJ (i := i) HB2.out (Nat.le_refl _) ⟨s, x, y, f⟩)
      clear ho2 hb2 e0 e1 e2 e3
      go_wp2_with fail
      go_roundw
      case rel => exact ⟨i + 1, by omega, by go_num, HO, HB⟩
      case measure => simp [intOf]; omega
    · obtain rfl : i = n := by omega
      have HE : Hid (ToJEnd i js w wr (.returned (.slice (some ⟨w.heap.size, 0, none⟩) i i))) := ⟨_, rfl, by have h1 := ho.out; unfold upToJ at h1; rwa [Nat.sub_self, List.replicate_zero, List.append_nil, List.take_of_length_le (by rw [HL.out]; exact Nat.le_refl _)] at h1, hb.out⟩
      go_wp2_with fail
      go_ret
      exact HE.out
set_option maxHeartbeats 800000 in
theorem toMember_any (x y z : Int) (w : World) :
    Calls Try.prog 81 #[.agg #[.int .i64 x, .int .i64 y, .int .i64 z]] w fun e w' => e = .returned (.agg #[.int .i64 x, .int .i64 y, .int .i64 z]) ∧ Below w.heap.size w w' := by
  go_enter Try.func81, Try.ntmps81
  go_wp2_with fail
  refine bodyPost_ret (v := .agg #[.int .i64 x, .int .i64 y, .int .i64 z]) (by simp [results, Try.results81, go_sem]) rfl ⟨rfl, ?_⟩
  repeat (first | exact Below.refl _ _ | refine Below.setCell ?_ (by first | (simp; done) | (simp; omega)) _ | refine Below.alloc ?_ (by first | (simp; done) | (simp; omega)) _)
/-- A new element in the place of one of the call's own list. -/
theorem own_setM {w : World} {base g n c i : Nat} {js : List MD} (h : w.ownsRow base 99 3 (.slice (some ⟨g, 0, none⟩) n c) n (mcells js)) (hi : i < n) (j : MD) :
    (((w.setCell ⟨g, i * 3, none⟩ (.int .i64 j.a)).setCell ⟨g, i * 3 + 1, none⟩ (.int .i64 j.b)).setCell ⟨g, i * 3 + 2, none⟩ (.int .i64 j.k)).ownsRow base 99 3 (.slice (some ⟨g, 0, none⟩) n c) n (mcells (js.set i j)) := by
  rw [mcells_set _ _ _ (by rw [own_lenM h]; exact hi)]
  exact (((h.stored _ _).1.stored _ _).1.stored _ _).1
theorem below_setM {B g i : Nat} {a w : World} (hb : Below B a w) (hg : B ≤ g) (j : MD) : Below B a (((w.setCell ⟨g, i * 3, none⟩ (.int .i64 j.a)).setCell ⟨g, i * 3 + 1, none⟩ (.int .i64 j.b)).setCell ⟨g, i * 3 + 2, none⟩ (.int .i64 j.k)) := (((hb.setCell hg _).setCell hg _).setCell hg _)
theorem own_roomM {w : World} {base g n c i : Nat} {js : List MD} (ho : w.ownsRow base 99 3 (.slice (some ⟨g, 0, none⟩) n c) n (mcells js)) (hi : i < n) :
    ∃ x0 x1 x2, w.cell? ⟨g, i * 3, none⟩ = some x0 ∧ w.cell? ⟨g, i * 3 + 1, none⟩ = some x1 ∧ w.cell? ⟨g, i * 3 + 2, none⟩ = some x2 ∧ w.frozen? ⟨g, i * 3, none⟩ = false ∧ w.frozen? ⟨g, i * 3 + 1, none⟩ = false ∧ w.frozen? ⟨g, i * 3 + 2, none⟩ = false := by
  have hl := own_lenM ho
  have h0 := mcells_at js i _ (List.getElem?_eq_getElem (by omega))
  have h : w.cell? ⟨g, i * 3, none⟩ = some _ ∧ w.cell? ⟨g, i * 3 + 1, none⟩ = some _ ∧ w.cell? ⟨g, i * 3 + 2, none⟩ = some _ := ⟨(ho.cellAt _ (by omega)).trans h0.1, (ho.cellAt _ (by omega)).trans h0.2.1, (ho.cellAt _ (by omega)).trans h0.2.2⟩
  exact ⟨_, _, _, h.1, h.2.1, h.2.2, ho.frozenAt _, ho.frozenAt _, ho.frozenAt _⟩
def upToM (js : List MD) (i n : Nat) : List MD := js.take i ++ List.replicate (n - i) MD.zero
theorem upToM_succ {js : List MD} {i n : Nat} {j : MD} (h : js[i]? = some j) (hi : i < n) : (upToM js i n).set i j = upToM js (i + 1) n := by
  obtain ⟨hlt, rfl⟩ := List.getElem?_eq_some_iff.1 h
  have hl : (js.take i).length = i := by rw [List.length_take]; omega
  unfold upToM
  rw [List.set_append_right _ _ (by omega), hl, Nat.sub_self, show n - i = (n - (i + 1)) + 1 by omega, List.replicate_succ, List.set_cons_zero, List.take_succ_eq_append_getElem hlt, List.append_assoc]
  rfl
def ToMemEnd (n : Nat) (js : List MD) (w w' : World) (e : Ending) : Prop := ∃ v, e = .returned v ∧ w'.ownsRow w.heap.size 99 3 v n (mcells js) ∧ Below w.heap.size w w'
set_option maxHeartbeats 1600000 in
theorem toMemberS_any (A : Option Addr) (n c : Nat) (js : List MD) (w : World) (h : InM w A n js) :
    Calls Try.prog 60 #[.slice A n c] w fun e w' => ToMemEnd n js w w' e := by
  obtain ⟨i0, hi, hz0, hz1, hz2⟩ := info_parts Try.infoM
  have hm := h.2.1
  have HV := Lib.hid h
  have HL : Hid (js.length = n) := h.1
  clear h
  go_enter Try.func60, Try.ntmps60
  go_wp2_with (refine wpList_make_full _ rfl _ _ 24 rfl w.heap.size 99 i0 (.agg #[.int .i64 0, .int .i64 0, .int .i64 0]) 3 Try.underlying24 hi hz0 hz1 _ _ _ _ n rfl rfl rfl rfl ?c1 ?c2 ?c3 ?_)
  case c1 => rw [hz2]; omega
  case c2 => unfold maxLen; omega
  case c3 => exact Nat.le_refl _
  intro w1 ho hg
  rw [show madeCells #[.int .i64 0, .int .i64 0, .int .i64 0] (n * 3) = madeCells (Value.agg #[.int .i64 0, .int .i64 0, .int .i64 0]).cells (n * 3) from rfl, mcells_zero] at ho
  have B1 := Lib.hid ((Below.refl w.heap.size w).grown hg (Nat.le_refl _) (fun k hk => by cases hk))
  have O1 : Hid (w1.ownsRow w.heap.size 99 3 (.slice (some ⟨w.heap.size, 0, none⟩) n n) n (mcells (upToM js 0 n))) := by unfold upToM; rw [List.take_zero, List.nil_append]; exact ho
  clear ho hg
  go_wp2_with fail
  go_loopw [4] (fun y wr => ∃ i : Nat, i ≤ n ∧ y = .int .i64 i ∧ Hid (wr.ownsRow w.heap.size 99 3 (.slice (some ⟨w.heap.size, 0, none⟩) n n) n (mcells (upToM js i n))) ∧ Hid (Below w.heap.size w wr)) (fun y _ => n - (intOf y).toNat)
  case atStart => exact ⟨0, Nat.zero_le _, rfl, O1, B1⟩
  case round =>
    obtain ⟨i, hle, rfl, ho, hb⟩ := hrel
    by_cases hlt : i < n
    · obtain ⟨b, o, rfl, hbs, ⟨x, y, z⟩, hr, ⟨e0, e1, e2⟩, _⟩ := (HV.out.below hb.out).at_ i hlt
      have hi0 : (0 : Int) ≤ (i : Int) := by omega
      have hi1 : (i : Int) < (n : Int) := by omega
      have HR := Lib.hid hr
      clear hr
      simp only at e0 e1 e2
      go_wp2_with fail
      refine (toMember_any x y z _).mono ?_
      rintro e w2 ⟨rfl, hb2⟩
      have ho2 := own_below ho.out hb2
      have HB2 := Lib.hid (hb.out.trans (hb2.mono hb.out.size))
      obtain ⟨x0, x1, x2, g0, g1, g2, f0, f1, f2⟩ := own_roomM ho2 hlt
      have HO := Lib.hid (own_setM ho2 hlt ⟨x, y, z⟩)
      rw [upToM_succ HR.out hlt] at HO
      have HB := Lib.hid (below_setM (i := i) HB2.out (Nat.le_refl _) ⟨x, y, z⟩)
      clear ho2 hb2 e0 e1 e2
      go_wp2_with fail
      go_roundw
      case rel => exact ⟨i + 1, by omega, by go_num, HO, HB⟩
      case measure => simp [intOf]; omega
    · obtain rfl : i = n := by omega
      have HE : Hid (ToMemEnd i js w wr (.returned (.slice (some ⟨w.heap.size, 0, none⟩) i i))) := ⟨_, rfl, by have h1 := ho.out; unfold upToM at h1; rwa [Nat.sub_self, List.replicate_zero, List.append_nil, List.take_of_length_le (by rw [HL.out]; exact Nat.le_refl _)] at h1, hb.out⟩
      go_wp2_with fail
      go_ret
      exact HE.out
end Go.Proofs.Ytipmeijfmiiedaa
