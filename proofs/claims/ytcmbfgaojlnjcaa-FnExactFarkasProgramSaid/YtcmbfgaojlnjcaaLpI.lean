/- Contracts of linear programs, by the program: valid or not. -/
import Derived.Test.YtcmbfgaojlnjcaaLpS
import Derived.BigQuiet
import Derived.Deep.RegionWith
namespace Go.Proofs.Ytcmbfgaojlnjcaa
set_option maxRecDepth 100000
open Go.RowKit

theorem impl_isNoEntry (n : Int) (b : Bool) (hb : (decide (n < -100) || decide (100 < n)) = b) (w : World) :
    Calls Try.prog 95 #[.int .i64 n] w fun e w' => e = .returned (.bool b) ∧ w = w' := by
  subst hb
  by_cases h1 : n < -100
  · go_enter Try.func95, Try.ntmps95
    go_wp2
    go_ret
    exact ⟨ret_bool (by simp [h1]), rfl⟩
  · by_cases h2 : 100 < n
    all_goals
      go_enter Try.func95, Try.ntmps95
      go_wp2
      go_ret
      exact ⟨ret_bool (by simp [h1, h2]), rfl⟩
/-- Where the first entry is that may not be there, if there is one. -/
def NoEntEnd (la : List Int) (e : Ending) : Prop := ∃ r : Int, e = .returned (.int .i64 r) ∧ (0 ≤ r ↔ ¬ Ent la) ∧ -1 ≤ r ∧ r ≤ 9223372036854775807
set_option maxHeartbeats 1600000 in
theorem indexFunc_entries (A : Option Addr) (n c : Nat) (la : List Int) (w : World) (h : InI w A n la) :
    Calls Try.prog 96 #[.slice A n c, .func (.func 95) #[] #[]] w fun e w' => NoEntEnd la e ∧ w = w' := by
  have hn := h.2.1
  have HI := Lib.hid h
  clear h
  go_enter Try.func96, Try.ntmps96
  go_wp2_with fail
  go_loop [5, 8] (fun _ y => ∃ k : Nat, k ≤ n ∧ y = .int .i64 k ∧ Hid (Ent (la.take k))) (fun _ y => n - (intOf y).toNat)
  case atStart => exact ⟨0, Nat.zero_le _, rfl, by simpa using Lib.hid Ent.nil⟩
  case round =>
    obtain ⟨k, hk, rfl, hin⟩ := hrel
    by_cases hlt : k < n
    · obtain ⟨b, o, z, rfl, hz, hcell, hb, hz0, hz1⟩ := HI.out.get hlt
      have hi0 : (0 : Int) ≤ (k : Int) := by omega
      have hi1 : (k : Int) < (n : Int) := by omega
      have HZ := Lib.hid hz
      clear hz
      by_cases hok : -100 ≤ z ∧ z ≤ 100
      · have hnx : Hid (Ent (la.take (k + 1))) := hin.out.snoc HZ.out hok
        have hbool : Hid ((decide (z < -100) || decide (100 < z)) = false) := by unfold Hid; simp; omega
        clear hok
        go_wp2_with (go_at_call 95; refine (impl_isNoEntry _ false hbool.out _).mono ?_; rintro e w' ⟨rfl, rfl⟩)
        go_round
        case rel => exact ⟨k + 1, by omega, by go_num, hnx⟩
        case measure => simp [intOf]; omega
      · have hfin : Hid (NoEntEnd la (.returned (.int .i64 k))) := ⟨k, rfl, ⟨fun _ => ent_bad HZ.out hok, fun _ => by omega⟩, by omega, by omega⟩
        have hbool : Hid ((decide (z < -100) || decide (100 < z)) = true) := by unfold Hid; simp; omega
        clear hok
        go_wp2_with (go_at_call 95; refine (impl_isNoEntry _ true hbool.out _).mono ?_; rintro e w' ⟨rfl, rfl⟩)
        go_ret
        exact ⟨hfin.out, rfl⟩
    · obtain rfl : k = n := by omega
      have hall : Hid (Ent la) := by have := hin.out; rwa [List.take_of_length_le (by rw [HI.out.1]; exact Nat.le_refl _)] at this
      have hfin : Hid (NoEntEnd la (.returned (.int .i64 (-1)))) := ⟨-1, rfl, ⟨fun h => by omega, fun h => absurd hall.out h⟩, by omega, by omega⟩
      go_wp2_with fail
      go_ret
      exact ⟨hfin.out, rfl⟩
theorem contains_noEntry (A : Option Addr) (n c : Nat) (la : List Int) (w : World) (h : InI w A n la) :
    Calls Try.prog 94 #[.slice A n c, .func (.func 95) #[] #[]] w fun e w' => (∃ b, e = .returned (.bool b) ∧ (b = true ↔ ¬ Ent la)) ∧ w = w' := by
  go_enter Try.func94, Try.ntmps94
  go_wp2_with fail
  refine (indexFunc_entries A n c la _ h).mono ?_
  rintro e w1 ⟨⟨r, rfl, hr, h1, h2⟩, rfl⟩
  have HF : Hid (decide (0 ≤ r) = true ↔ ¬ Ent la) := by unfold Hid; rw [decide_eq_true_iff]; exact hr
  clear hr
  go_wp2_with fail
  go_ret
  exact ⟨⟨_, rfl, HF.out⟩, rfl⟩
def EntsEnd (la : List Int) (r : Int) (e : Ending) : Prop := ∃ b, e = .returned (.bool b) ∧ (b = true ↔ Ents la r)
theorem ents_no {la : List Int} {r : Int} (h : ¬ Ents la r) : EntsEnd la r (.returned (.bool false)) := ⟨false, rfl, ⟨fun e => (by cases e), fun q => absurd q h⟩⟩
set_option maxHeartbeats 800000 in
theorem impl_areEntries (A : Option Addr) (n c : Nat) (la : List Int) (r : Int) (w : World) (h : InI w A n la) :
    Calls Try.prog 92 #[.slice A n c, .int .i64 r] w fun e w' => EntsEnd la r e ∧ w = w' := by
  have HI := Lib.hid h
  clear h
  by_cases he : ((n : Int) == r) = true
  case neg =>
    have HF : Hid (EntsEnd la r (.returned (.bool false))) := ents_no fun q => he (by rw [← HI.out.1]; exact beq_iff_eq.2 q.1)
    have he' : ((n : Int) == r) = false := by simpa using he
    clear he
    go_enter Try.func92, Try.ntmps92
    go_wp2_with fail
    go_ret
    exact ⟨HF.out, rfl⟩
  have HE := Lib.hid he
  go_enter Try.func92, Try.ntmps92
  go_wp2_with fail
  refine (contains_noEntry A n c la _ HI.out).mono ?_
  rintro e w1 ⟨⟨b, rfl, hb⟩, rfl⟩
  have HF : Hid (EntsEnd la r (.returned (.bool (!b)))) := ⟨_, rfl, by
    have h1 : ((la.length : Nat) : Int) = r := by rw [HI.out.1]; exact beq_iff_eq.1 HE.out
    cases b
    · simp only [Bool.not_false, true_iff]; exact ⟨h1, Classical.byContradiction fun hn => (by have := hb.2 hn; cases this)⟩
    · simp only [Bool.not_true, Bool.false_eq_true, false_iff]; exact fun q => hb.1 rfl q.2⟩
  clear hb
  go_wp2_with fail
  go_ret
  exact ⟨HF.out, rfl⟩
set_option maxHeartbeats 1600000 in
theorem impl_isValid (p k : Int) (A : Option Addr) (n c : Nat) (la : List Int) (w : World) (h : InI w A n la) :
    Calls Try.prog 91 #[.agg #[.int .i64 p, .int .i64 k, .slice A n c]] w fun e w' => LpOkEnd (IMOk p k la) w w' e := by
  obtain ⟨W0, hW0⟩ : ∃ W, W = (w.alloc (.cells #[.int .i64 p, .int .i64 k, .slice A n c] 100)) := ⟨_, rfl⟩
  have hm0_0 : Hid (Box W0 (w.heap.size) 100 #[.int .i64 p, .int .i64 k, .slice A n c]) := by rw [hW0]; exact (Box.at' (by simp))
  have BW_0 : Hid (Below w.heap.size w W0) := by rw [hW0]; exact ((Below.refl w.heap.size w).alloc (by simp) _)
  have hsz0 : w.heap.size + 1 ≤ W0.heap.size := by rw [hW0]; simp
  have hn := h.2.1
  have HI := Lib.hid (h.below BW_0.out)
  clear h
  have HNO : Hid (¬ IMOk p k la → LpOkEnd (IMOk p k la) w W0 (.returned (.bool false))) := fun q => lpOk_no q BW_0.out
  by_cases h1 : p < 0
  · have HF := Lib.hid (HNO.out fun q => by have := q.1; omega)
    go_enter Try.func91, Try.ntmps91
    go_wp2_with fail
    rw [← hW0]
    clear hW0
    go_ret
    exact HF.out
  by_cases h2 : 20 < p
  · have HF := Lib.hid (HNO.out fun q => by have := q.1; omega)
    go_enter Try.func91, Try.ntmps91
    go_wp2_with fail
    rw [← hW0]
    clear hW0
    go_ret
    exact HF.out
  by_cases h3 : k < 0
  · have HF := Lib.hid (HNO.out fun q => by have := q.2.1; omega)
    go_enter Try.func91, Try.ntmps91
    go_wp2_with fail
    rw [← hW0]
    clear hW0
    go_ret
    exact HF.out
  by_cases h4 : 40 < k
  · have HF := Lib.hid (HNO.out fun q => by have := q.2.1; omega)
    go_enter Try.func91, Try.ntmps91
    go_wp2_with fail
    rw [← hW0]
    clear hW0
    go_ret
    exact HF.out
  have hp2 : 0 ≤ p ∧ p ≤ 20 := by omega
  have hk2 : 0 ≤ k ∧ k ≤ 40 := by omega
  have hpk0 := (prod800 hp2 hk2).1
  have hpk1 := (prod800 hp2 hk2).2
  go_enter Try.func91, Try.ntmps91
  go_wp2_with fail
  rw [← hW0]
  clear hW0
  refine (impl_areEntries A n c la (p * k) _ HI.out).mono ?_
  rintro e w1 ⟨⟨b, rfl, hb⟩, rfl⟩
  have HF : Hid (LpOkEnd (IMOk p k la) w W0 (.returned (.bool b))) := ⟨b, rfl, ⟨fun q => ⟨hp2, hk2, hb.1 q⟩, fun q => hb.2 q.2.2⟩, BW_0.out⟩
  clear hb
  go_wp2_with fail
  go_ret
  exact HF.out
end Go.Proofs.Ytcmbfgaojlnjcaa
