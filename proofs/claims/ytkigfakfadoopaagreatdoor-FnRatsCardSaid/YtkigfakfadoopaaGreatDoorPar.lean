/- Contracts of ParseNat: the model's and the program's. -/
import Derived.Test.YtkigfakfadoopaaGreatDoorGI
import Derived.Test.YtkigfakfadoopaaGreatDoorGA
namespace Go.Proofs.YtkigfakfadoopaaGreatDoor
set_option maxRecDepth 100000
open Go.RowKit

theorem head_at (s : ByteArray) (h : 0 < s.size) : s.data.toList.head? = some s[0] := by
  rw [List.head?_eq_getElem?, List.getElem?_eq_getElem (by rw [len_size]; exact h)]; rfl
theorem digits_pos (s : ByteArray) (h : digitsB s.data.toList = true) : 0 < s.size ∧ s.data.toList.all digB = true := by
  unfold digitsB at h
  rw [Bool.and_eq_true, decide_eq_true_iff, len_size] at h
  exact ⟨h.2, h.1⟩
theorem val_snoc_byte (s : ByteArray) (a k : Nat) (ha : a ≤ k) (hk : k < s.size) (hd : s.data.toList.all digB = true) : 48 ≤ (s[k].toNat : Int) ∧ (s[k].toNat : Int) ≤ 57 ∧ ((valFrom 0 (seg s a k) : Nat) : Int) * 10 + (s[k].toNat : Int) - 48 = ((valFrom 0 (seg s a (k + 1)) : Nat) : Int) := by
  have h1 := digB_range (List.all_eq_true.1 hd _ (mem_at s k hk))
  rw [seg_snoc s a k ha hk, valFrom_append, valFrom_cons, valFrom_nil]
  omega
/-- What ParseNat ends in. -/
def ParEnd (s : ByteArray) (w w' : World) (e : Ending) : Prop := ∃ r v b, e = .returned (.tuple #[v, .bool b]) ∧ ParseNatIs s r b ∧ ResI w w' v r ∧ Below w.heap.size w w'
theorem parNo {s : ByteArray} (w : World) (h : ¬ NatText s) : ParEnd s w w (.returned (.tuple #[.slice none 0 0, .bool false])) :=
  ⟨[], _, false, rfl, .inr ⟨rfl, rfl, h⟩, ⟨by simp, World.ownsRow_nil _ _ _ _⟩, Below.refl _ _⟩


theorem seg_extract (s : ByteArray) (a b : Nat) : (s.extract a b).data.toList = seg s a b := by
  rw [Lib.extract_data]; rfl
set_option maxHeartbeats 400000 in
theorem impl_valueOfDigits (s : ByteArray) (w : World) (h9 : s.size ≤ 9) (hd : s.data.toList.all digB = true) :
    Calls Tryz.prog 52 #[.string s] w fun e w' => e = .returned (.int .i64 ((valFrom 0 s.data.toList : Nat) : Int)) ∧ Below w.heap.size w w' := by
  have HA := Lib.hid hd
  clear hd
  go_enter Tryz.func52, Tryz.ntmps52
  go_wp2
  go_loopw [3] (fun x wr => ∃ k : Nat, wr = w.iter s k ∧ k ≤ s.size ∧ x = .int .i64 (worth s k)) (fun _ wr => s.size - wr.iterPos w.heap.size)
  case atStart => exact ⟨0, rfl, Nat.zero_le _, by rw [worth_zero]⟩
  case round =>
    obtain ⟨k, rfl, hk, rfl⟩ := hrel
    by_cases hlt : k < s.size
    · obtain ⟨c1, c2, hval⟩ := val_snoc_byte s 0 k (Nat.zero_le _) hlt HA.out
      rw [← worth_last s k hk, ← worth_last s (k + 1) hlt] at hval
      obtain ⟨v0, v1⟩ := seg_bd s 0 k HA.out hk (by omega)
      rw [← worth_last s k hk] at v0 v1
      obtain ⟨V, hV⟩ : ∃ V, V = worth s k := ⟨_, rfl⟩
      rw [← hV] at hval v0 v1 ⊢
      have hnx : ∀ ty, (Instr.next (.pointer (some ⟨w.heap.size, 0, none⟩)) true ty).run Tryz.prog (w.iter s k) = _ := fun ty => run_next_ascii w s k ty hlt (by omega)
      have Hval := Lib.hid hval
      clear hval hV
      go_wp2_with fail
      go_roundw
      case rel => exact ⟨k + 1, rfl, by omega, congrArg (Value.int .i64) (by rw [← Hval.out]; omega)⟩
      case measure => simp; omega
    · obtain rfl : k = s.size := by omega
      have hnx : ∀ ty, (Instr.next (.pointer (some ⟨w.heap.size, 0, none⟩)) true ty).run Tryz.prog (w.iter s s.size) = _ := fun ty => run_next_end w s s.size ty hlt
      have hfin : Hid (worth s s.size = ((valFrom 0 s.data.toList : Nat) : Int)) := by
        unfold Hid worth; rw [List.take_of_length_le (by rw [len_size]; exact Nat.le_refl _)]
      go_wp2_with fail
      go_ret
      exact ⟨ret_int hfin.out, (Below.refl _ _).alloc (Nat.le_refl _) _⟩

set_option maxHeartbeats 1600000 in
theorem impl_parseNat' (s : ByteArray) (w : World) (hs : s.size ≤ 1048576) :
    Calls Tryz.prog 27 #[.string s] w fun e w' => ParEnd s w w' e := by
  obtain ⟨i0, hi, hz0, hz1, hz2⟩ := info_parts Tryz.infoI
  have hsm : s.size ≤ maxLen := by unfold maxLen; omega
  by_cases hzero : s = ⟨#[48]⟩
  · have hfin : Hid (ParEnd s w w (.returned (.tuple #[.slice none 0 0, .bool true]))) :=
      ⟨[], _, true, rfl, .inl ⟨rfl, by subst hzero; exact ⟨by decide, by decide, .inl (by decide)⟩, canon_nil, by subst hzero; decide⟩, ⟨by simp, World.ownsRow_nil _ _ _ _⟩, Below.refl _ _⟩
    subst hzero
    clear hs hsm
    go_enter Tryz.func27, Tryz.ntmps27
    go_wp2_with fail
    go_ret2
    exact hfin.out
  have heq : (s.toList == [48]) = false := by
    rw [Lib.toList_data, beq_eq_false_iff_ne]
    intro e
    exact hzero (by rw [← bytes_eta' s, e])
  have Hzero := Lib.hid hzero
  clear hzero
  by_cases h540 : 540 < (s.size : Int)
  · have hfin := Lib.hid (parNo (s := s) w (fun h => by have := h.2.1; omega))
    go_enter Tryz.func27, Tryz.ntmps27
    go_wp2_with fail
    go_ret2
    exact hfin.out
  by_cases hdg : digitsB s.data.toList = true
  case neg =>
    have hdf : digitsB s.data.toList = false := by simpa using hdg
    have con := Lib.hid (impl_isDigits s w hsm)
    rw [hdf] at con
    have Hdg := Lib.hid hdg
    clear hdg hdf
    go_enter Tryz.func27, Tryz.ntmps27
    go_wp2_with fail
    refine con.out.mono ?_
    rintro e w1 ⟨rfl, hb⟩
    have hfin : Hid (ParEnd s w w1 (.returned (.tuple #[.slice none 0 0, .bool false]))) :=
      ⟨[], _, false, rfl, .inr ⟨rfl, rfl, fun h => Hdg.out h.1⟩, ⟨by simp, World.ownsRow_nil _ _ _ _⟩, hb⟩
    clear hb
    go_wp2_with fail
    go_ret2
    exact hfin.out
  have con := Lib.hid (impl_isDigits s w hsm)
  rw [hdg] at con
  obtain ⟨hp, hall⟩ := digits_pos s hdg
  have HA := Lib.hid hall
  have hh := head_at s hp
  by_cases hz : s[0] = 48
  · have hno : ¬ NatText s := fun h => by
      rcases h.2.2 with h3 | h3
      · refine Hzero.out ?_
        have hl : s.data.toList.length = 1 := by rw [len_size]; omega
        match hm : s.data.toList with
        | [] => rw [hm] at hl; simp at hl
        | [c] =>
          rw [hm] at hh
          simp at hh
          rw [← bytes_eta' s, hm, hh, hz]
        | _ :: _ :: _ => rw [hm] at hl; simp at hl
      · exact h3 (by rw [hh, hz])
    have Hno := Lib.hid hno
    have hc : ((s[0].toNat : Int) == 48) = true := by rw [hz]; rfl
    clear hdg hall hsm hh hz hno
    go_enter Tryz.func27, Tryz.ntmps27
    go_wp2_with fail
    refine con.out.mono ?_
    rintro e w1 ⟨rfl, hb⟩
    have hfin : Hid (ParEnd s w w1 (.returned (.tuple #[.slice none 0 0, .bool false]))) :=
      ⟨[], _, false, rfl, .inr ⟨rfl, rfl, Hno.out⟩, ⟨by simp, World.ownsRow_nil _ _ _ _⟩, hb⟩
    clear hb
    go_wp2_with fail
    go_ret2
    exact hfin.out
  have hh0 : s.data.toList.head? ≠ some 48 := by rw [hh]; intro e; exact hz (by simpa using e)
  have HH := Lib.hid hh0
  have hgood : Hid (NatText s) := ⟨hdg, by omega, .inr hh0⟩
  have hc : ((s[0].toNat : Int) == 48) = false := by
    have h2 : s[0].toNat ≠ 48 := fun e => hz (UInt8.toNat_inj.1 e)
    simp; omega
  obtain ⟨M, hM⟩ : ∃ M : Nat, ((s.size : Int) + 9 - 1) / 9 = (M : Int) := ⟨(((s.size : Int) + 9 - 1) / 9).toNat, by omega⟩
  have hM0 : 0 < M := by omega
  have hM1 : s.size ≤ 9 * M := by omega
  have hM2 : 9 * M < s.size + 9 := by omega
  have hM60 : M ≤ 60 := by omega
  have hMi : (0 : Int) ≤ (M : Int) := by omega
  clear hdg hall hsm hh hz hh0
  go_enter Tryz.func27, Tryz.ntmps27
  go_wp2_with fail
  refine con.out.mono ?_
  rintro e w1 ⟨rfl, hb1⟩
  have HB1 := Lib.hid hb1
  have sz1 := hb1.size
  clear hb1
  go_wp2_with (refine wpList_make_full _ rfl _ _ 23 rfl w.heap.size 3 i0 (.int .i64 0) 1 Tryz.underlying23 hi hz0 hz1 _ _ _ _ M rfl rfl (by omega) (by omega) (by rw [hz2]; omega) (by unfold maxLen; omega) sz1 ?_)
  have hrep : (madeCells #[Value.int .i64 0] M).toList = (List.replicate M (0 : Int)).map (.int .i64) := by simp [toList_madeCells_one]
  intro w2 ho hg
  obtain ⟨g, hgE⟩ : ∃ g, g = w1.heap.size := ⟨_, rfl⟩
  rw [← hgE] at ho ⊢
  have O2 : Hid (w2.ownsRow w.heap.size 3 1 (.slice (some ⟨g, 0, none⟩) M M) M ((List.replicate M (0 : Int)).map (.int .i64))) := by
    unfold Hid; rw [← hrep]; simpa using ho
  have B2 := Lib.hid (HB1.out.grown hg sz1 (fun k hk => by cases hk))
  have M0 := Lib.hid (PlacedAt.start s M hM0)
  clear ho hg hrep hgE
  go_wp2_with fail
  go_loopw [30] (fun y wr => ∃ (i : Nat) (os : List Int), i ≤ M ∧ y = .int .i64 (i : Int) ∧ Hid (PlacedAt s M i os) ∧ Hid (wr.ownsRow w.heap.size 3 1 (.slice (some ⟨g, 0, none⟩) M M) M (os.map (.int .i64))) ∧ Hid (Below w.heap.size w wr)) (fun y _ => M - (intOf y).toNat)
  case atStart => exact ⟨0, _, Nat.zero_le _, rfl, M0, O2, B2⟩
  case round =>
    obtain ⟨i, os, hi9, rfl, hm, ho, hb⟩ := hrel
    obtain ⟨wo, rfl⟩ : ∃ wo : World, wo = wr := ⟨_, rfl⟩
    by_cases hlt : i < M
    · have hlo : 9 * i < s.size := by omega
      obtain ⟨E, hE⟩ : ∃ E : Nat, (s.size : Int) - (i : Int) * 9 = (E : Int) := ⟨s.size - 9 * i, by omega⟩
      have hE2 : E = s.size - 9 * i := by omega
      obtain ⟨a, ha⟩ : ∃ a : Nat, a = s.size - 9 * i - 9 := ⟨_, rfl⟩
      obtain ⟨hst, hv0, hv1⟩ := hm.out.step hlt hlo hM1 hM2 HA.out HH.out ha
      rw [← hE2] at hst hv0 hv1
      have HST := Lib.hid hst
      have haE : a ≤ E := by omega
      have hEs : E ≤ s.size := by omega
      have hsize : (s.extract a E).size = E - a := by simp; omega
      have conv := Lib.hid (impl_valueOfDigits (s.extract a E) wo (by rw [hsize]; omega) (by rw [seg_extract]; exact seg_all s a E HA.out))
      rw [seg_extract] at conv
      obtain ⟨V, hV⟩ : ∃ V, V = ((valFrom 0 (seg s a E) : Nat) : Int) := ⟨_, rfl⟩
      rw [← hV] at HST conv hv0 hv1
      have hio : i < os.length := by rw [hm.out.1]; exact hlt
      have Hi := Lib.hid hio
      have HaE := Lib.hid (show (if 0 < (E : Int) - 9 then (E : Int) - 9 else 0) = (a : Int) by split <;> omega)
      have hi0 : (0 : Int) ≤ (i : Int) := by omega
      have hi1 : (i : Int) < (M : Int) := by omega
      have ha0 : (0 : Int) ≤ (a : Int) := by omega
      have haE2 : (a : Int) ≤ (E : Int) := by omega
      have hEs2 : (E : Int) ≤ (s.size : Int) := by omega
      clear hst hV hE2 ha hsize
      by_cases hcut : 0 < (E : Int) - 9
      all_goals
        have hae := HaE.out
        first | rw [if_pos hcut] at hae | rw [if_neg hcut] at hae
        go_wp2_with fail
        refine conv.out.mono ?_
        rintro e w4 ⟨rfl, hb4⟩
        have O4 := own_below ho.out hb4
        have B4 := hb.out.trans (hb4.mono hb.out.size)
        obtain ⟨o, hoo⟩ : ∃ o, o = os[i]'Hi.out := ⟨_, rfl⟩
        have g3 : w4.cell? ⟨g, i, none⟩ = some (.int .i64 o) := by
          rw [O4.cellAt i (by omega)]; simp [Hi.out, hoo]
        have hfr := O4.frozenAt i
        have hst := O4.stored i (.int .i64 V)
        rw [map_set_int] at hst
        have ho2 := Lib.hid hst.1
        have hb2 := Lib.hid (below_marked B4 O4 hst.2 (Nat.le_refl _) B4.size)
        clear hoo hst O4 B4 hb4 hae
        go_wp2_with fail
        go_roundw
        case rel => exact ⟨i + 1, _, by omega, by go_num, HST, ho2, hb2⟩
        case measure => simp [intOf]; omega
    · obtain rfl : i = M := by omega
      obtain ⟨hcn, hv⟩ := hm.out.done hM1
      have hfin : Hid (ParEnd s w wo (.returned (.tuple #[.slice (some ⟨g, 0, none⟩) i i, .bool true]))) :=
        ⟨os, _, true, rfl, .inl ⟨rfl, hgood.out, hcn, hv⟩, ⟨by rw [hm.out.1]; omega, by rw [hm.out.1]; exact ho.out⟩, hb.out⟩
      clear hcn hv hm
      go_wp2_with fail
      go_ret2
      exact hfin.out
theorem impl_parseNat (s : ByteArray) (w : World) (hs : s.size ≤ 1048576) :
    Calls Tryz.prog 27 #[.string s] w fun e w' => ∃ r v b, e = .returned (.tuple #[v, .bool b]) ∧ ParseNatIs s r b ∧ ResI w w' v r ∧ Below w.heap.size w w' :=
  impl_parseNat' s w hs
end Go.Proofs.YtkigfakfadoopaaGreatDoor
