/- Loads, by the program: which are loads, none, sums, moments. -/
import Derived.Test.YtipmeijfmiiedaaLdD
import Derived.Test.YtipmeijfmiiedaaLpS
import Derived.Test.YtipmeijfmiiedaaRange
import Derived.BigQuiet
namespace Go.Proofs.Ytipmeijfmiiedaa
set_option maxRecDepth 100000
open Go.RowKit

theorem wOk_nil : WOk [] := fun z hz => by cases hz
theorem WOk.snoc {la : List Int} {k : Nat} {z : Int} (h : WOk (la.take k)) (hk : la[k]? = some z) (hz : 0 ≤ z ∧ z ≤ 100) : WOk (la.take (k + 1)) := by
  rw [List.take_add_one, hk]
  intro y hy
  rcases List.mem_append.1 hy with hy | hy
  · exact h y hy
  · obtain rfl : y = z := by simpa using hy
    exact hz
theorem wOk_bad {la : List Int} {k : Nat} {z : Int} (hk : la[k]? = some z) (hz : ¬ (0 ≤ z ∧ z ≤ 100)) : ¬ WOk la := fun h => hz (h z (List.mem_of_getElem? hk))
theorem made0 (K : Nat) : (madeCells (Value.int .i64 0).cells (K * 1)).toList = (List.replicate K (0 : Int)).map (.int .i64) := by
  apply List.ext_getElem
  · simp [madeCells, Value.cells]
  · intro i h1 h2
    simp [madeCells, Value.cells, Nat.mod_one]
/-- Where the first number is that may not be there, if there is one. -/
def FirstBad (Q : Prop) (e : Ending) : Prop := ∃ r : Int, e = .returned (.int .i64 r) ∧ (0 ≤ r ↔ ¬ Q) ∧ -1 ≤ r ∧ r ≤ 9223372036854775807
theorem impl_isNoComponent (n : Int) (b : Bool) (hb : (decide (n < -100) || decide (100 < n)) = b) (w : World) :
    Calls Try.prog 61 #[.int .i64 n] w fun e w' => e = .returned (.bool b) ∧ w = w' := by
  subst hb
  by_cases h1 : n < -100
  · go_enter Try.func61, Try.ntmps61
    go_wp2
    go_ret
    exact ⟨ret_bool (by simp [h1]), rfl⟩
  · by_cases h2 : 100 < n
    all_goals
      go_enter Try.func61, Try.ntmps61
      go_wp2
      go_ret
      exact ⟨ret_bool (by simp [h1, h2]), rfl⟩
set_option maxHeartbeats 1600000 in
theorem indexFunc_noComponent (A : Option Addr) (n c : Nat) (la : List Int) (w : World) (h : InI w A n la) :
    Calls Try.prog 71 #[.slice A n c, .func (.func 61) #[] #[]] w fun e w' => FirstBad (Ent la) e ∧ w = w' := by
  have hn := h.2.1
  have HI := Lib.hid h
  clear h
  go_enter Try.func71, Try.ntmps71
  go_wp2_with fail
  go_loop [5, 8] (fun _ y => ∃ k : Nat, k ≤ n ∧ y = .int .i64 k ∧ Hid (Ent (la.take k))) (fun _ y => n - (intOf y).toNat)
  case atStart => exact ⟨0, Nat.zero_le _, rfl, by simpa using Lib.hid Ent.nil⟩
  case round =>
    obtain ⟨k, hk, rfl, hin⟩ := hrel
    by_cases hlt : k < n
    · obtain ⟨b, o, z, rfl, hz, hcell, hb, hz0, hz1⟩ := HI.out.get hlt
      have hi0 : (0 : Int) ≤ (k : Int) := by omega
      have hi1 : (k : Int) < (n : Int) := by omega
      have HZ := Lib.hid hz
      clear hz
      by_cases hok : -100 ≤ z ∧ z ≤ 100
      · have hnx : Hid (Ent (la.take (k + 1))) := hin.out.snoc HZ.out hok
        have hbool : Hid ((decide (z < -100) || decide (100 < z)) = false) := by unfold Hid; simp; omega
        clear hok
        go_wp2_with (go_at_call 61; refine (impl_isNoComponent _ false hbool.out _).mono ?_; rintro e w' ⟨rfl, rfl⟩)
        go_round
        case rel => exact ⟨k + 1, by omega, by go_num, hnx⟩
        case measure => simp [intOf]; omega
      · have hfin : Hid (FirstBad (Ent la) (.returned (.int .i64 k))) := ⟨k, rfl, ⟨fun _ => ent_bad HZ.out hok, fun _ => by omega⟩, by omega, by omega⟩
        have hbool : Hid ((decide (z < -100) || decide (100 < z)) = true) := by unfold Hid; simp; omega
        clear hok
        go_wp2_with (go_at_call 61; refine (impl_isNoComponent _ true hbool.out _).mono ?_; rintro e w' ⟨rfl, rfl⟩)
        go_ret
        exact ⟨hfin.out, rfl⟩
    · obtain rfl : k = n := by omega
      have hall : Hid (Ent la) := by have := hin.out; rwa [List.take_of_length_le (by rw [HI.out.1]; exact Nat.le_refl _)] at this
      have hfin : Hid (FirstBad (Ent la) (.returned (.int .i64 (-1)))) := ⟨-1, rfl, ⟨fun h => by omega, fun h => absurd hall.out h⟩, by omega, by omega⟩
      go_wp2_with fail
      go_ret
      exact ⟨hfin.out, rfl⟩
theorem contains_noComponent (A : Option Addr) (n c : Nat) (la : List Int) (w : World) (h : InI w A n la) :
    Calls Try.prog 45 #[.slice A n c, .func (.func 61) #[] #[]] w fun e w' => (∃ b, e = .returned (.bool b) ∧ (b = true ↔ ¬ Ent la)) ∧ w = w' := by
  go_enter Try.func45, Try.ntmps45
  go_wp2_with fail
  refine (indexFunc_noComponent A n c la _ h).mono ?_
  rintro e w1 ⟨⟨r, rfl, hr, h1, h2⟩, rfl⟩
  have HF : Hid (decide (0 ≤ r) = true ↔ ¬ Ent la) := by unfold Hid; rw [decide_eq_true_iff]; exact hr
  clear hr
  go_wp2_with fail
  go_ret
  exact ⟨⟨_, rfl, HF.out⟩, rfl⟩
theorem impl_isNoWeight (n : Int) (b : Bool) (hb : (decide (n < 0) || decide (100 < n)) = b) (w : World) :
    Calls Try.prog 46 #[.int .i64 n] w fun e w' => e = .returned (.bool b) ∧ w = w' := by
  subst hb
  by_cases h1 : n < 0
  · go_enter Try.func46, Try.ntmps46
    go_wp2
    go_ret
    exact ⟨ret_bool (by simp [h1]), rfl⟩
  · by_cases h2 : 100 < n
    all_goals
      go_enter Try.func46, Try.ntmps46
      go_wp2
      go_ret
      exact ⟨ret_bool (by simp [h1, h2]), rfl⟩
set_option maxHeartbeats 1600000 in
theorem indexFunc_noWeight (A : Option Addr) (n c : Nat) (la : List Int) (w : World) (h : InI w A n la) :
    Calls Try.prog 71 #[.slice A n c, .func (.func 46) #[] #[]] w fun e w' => FirstBad (WOk la) e ∧ w = w' := by
  have hn := h.2.1
  have HI := Lib.hid h
  clear h
  go_enter Try.func71, Try.ntmps71
  go_wp2_with fail
  go_loop [5, 8] (fun _ y => ∃ k : Nat, k ≤ n ∧ y = .int .i64 k ∧ Hid (WOk (la.take k))) (fun _ y => n - (intOf y).toNat)
  case atStart => exact ⟨0, Nat.zero_le _, rfl, by simpa using Lib.hid wOk_nil⟩
  case round =>
    obtain ⟨k, hk, rfl, hin⟩ := hrel
    by_cases hlt : k < n
    · obtain ⟨b, o, z, rfl, hz, hcell, hb, hz0, hz1⟩ := HI.out.get hlt
      have hi0 : (0 : Int) ≤ (k : Int) := by omega
      have hi1 : (k : Int) < (n : Int) := by omega
      have HZ := Lib.hid hz
      clear hz
      by_cases hok : 0 ≤ z ∧ z ≤ 100
      · have hnx : Hid (WOk (la.take (k + 1))) := hin.out.snoc HZ.out hok
        have hbool : Hid ((decide (z < 0) || decide (100 < z)) = false) := by unfold Hid; simp; omega
        clear hok
        go_wp2_with (go_at_call 46; refine (impl_isNoWeight _ false hbool.out _).mono ?_; rintro e w' ⟨rfl, rfl⟩)
        go_round
        case rel => exact ⟨k + 1, by omega, by go_num, hnx⟩
        case measure => simp [intOf]; omega
      · have hfin : Hid (FirstBad (WOk la) (.returned (.int .i64 k))) := ⟨k, rfl, ⟨fun _ => wOk_bad HZ.out hok, fun _ => by omega⟩, by omega, by omega⟩
        have hbool : Hid ((decide (z < 0) || decide (100 < z)) = true) := by unfold Hid; simp; omega
        clear hok
        go_wp2_with (go_at_call 46; refine (impl_isNoWeight _ true hbool.out _).mono ?_; rintro e w' ⟨rfl, rfl⟩)
        go_ret
        exact ⟨hfin.out, rfl⟩
    · obtain rfl : k = n := by omega
      have hall : Hid (WOk la) := by have := hin.out; rwa [List.take_of_length_le (by rw [HI.out.1]; exact Nat.le_refl _)] at this
      have hfin : Hid (FirstBad (WOk la) (.returned (.int .i64 (-1)))) := ⟨-1, rfl, ⟨fun h => by omega, fun h => absurd hall.out h⟩, by omega, by omega⟩
      go_wp2_with fail
      go_ret
      exact ⟨hfin.out, rfl⟩
theorem contains_noWeight (A : Option Addr) (n c : Nat) (la : List Int) (w : World) (h : InI w A n la) :
    Calls Try.prog 45 #[.slice A n c, .func (.func 46) #[] #[]] w fun e w' => (∃ b, e = .returned (.bool b) ∧ (b = true ↔ ¬ WOk la)) ∧ w = w' := by
  go_enter Try.func45, Try.ntmps45
  go_wp2_with fail
  refine (indexFunc_noWeight A n c la _ h).mono ?_
  rintro e w1 ⟨⟨r, rfl, hr, h1, h2⟩, rfl⟩
  have HF : Hid (decide (0 ≤ r) = true ↔ ¬ WOk la) := by unfold Hid; rw [decide_eq_true_iff]; exact hr
  clear hr
  go_wp2_with fail
  go_ret
  exact ⟨⟨_, rfl, HF.out⟩, rfl⟩
set_option maxHeartbeats 1600000 in
theorem impl_loadOk0 (A : Option Addr) (n c : Nat) (js : List JD) (B : Option Addr) (m d : Nat) (ms : List MD) (X : Option Addr) (nx cx : Nat) (l : List Int) (w : World) (h : InT w A n js B m ms) (hl : InI w X nx l) :
    Calls Try.prog 23 #[.agg #[.slice A n c, .slice B m d], .slice X nx cx] w fun e w' => YesEnd (LdOk js ms l) w w' e := by
  obtain ⟨W1, hW⟩ : ∃ W, W = w.alloc (.cells #[.slice A n c, .slice B m d] 26) := ⟨_, rfl⟩
  have X0 : Hid (Box W1 w.heap.size 26 #[.slice A n c, .slice B m d]) := by rw [hW]; exact Box.new _ _ _
  have B0 : Hid (Below w.heap.size w W1) := by rw [hW]; exact (Below.refl _ _).alloc (Nat.le_refl _) _
  have HLN : Hid (js.length = n) := h.1.1
  have HI := Lib.hid h
  have HLX : Hid (l.length = nx) := hl.1
  have hnx := hl.2.1
  have HX := Lib.hid hl
  clear h hl
  go_enter Try.func23, Try.ntmps23
  go_wp2_with fail
  rw [← hW]
  clear hW
  refine (impl_structureOk0 A n c js B m d ms _ (HI.out.below B0.out)).mono ?_
  rintro e w1 ⟨b, rfl, hq, hb⟩
  have X1 := Lib.hid (X0.out.below hb X0.out.lt)
  have B1 := Lib.hid (B0.out.trans (hb.mono B0.out.size))
  have HQ := Lib.hid hq
  clear hq
  clear hb
  cases b
  case false =>
    have HF : Hid (YesEnd (LdOk js ms l) w w1 (.returned (.bool false))) := yes_no (fun q => (by have := HQ.out.2 q.1; cases this)) B1.out
    go_wp2_with fail
    go_ret
    exact HF.out
  have HOK : Hid (TOk js ms) := HQ.out.1 rfl
  have hn6 : n ≤ 6 := by have := HOK.out.six; have := HLN.out; omega
  have e0 := X1.out.cell 0
  have e1 := X1.out.cell 1
  simp at e0 e1
  by_cases he : nx = 2 * n
  case neg =>
    have he' : ((nx : Int) == 2 * (n : Int)) = false := by simp; omega
    have HF : Hid (YesEnd (LdOk js ms l) w w1 (.returned (.bool false))) := yes_no (fun q => he (by have h1 := q.2.1; rw [HLN.out, HLX.out] at h1; exact h1)) B1.out
    clear he
    go_wp2_with fail
    go_ret
    exact HF.out
  have he' : ((nx : Int) == 2 * (n : Int)) = true := by simp; omega
  have HE := Lib.hid he
  clear he
  go_wp2_with fail
  clear e0 e1
  refine (contains_noComponent X nx cx l _ (HX.out.below B1.out)).mono ?_
  rintro e w2 ⟨⟨b, rfl, hb⟩, rfl⟩
  have HF : Hid (YesEnd (LdOk js ms l) w w1 (.returned (.bool (!b)))) := ⟨_, rfl, by
    have h1 : l.length = 2 * js.length := by rw [HLX.out, HLN.out]; exact HE.out
    cases b
    · simp only [Bool.not_false, true_iff]; exact ⟨HOK.out, h1, Classical.byContradiction fun hn => (by have := hb.2 hn; cases this)⟩
    · simp only [Bool.not_true, Bool.false_eq_true, false_iff]; exact fun q => hb.1 rfl q.2.2, B1.out⟩
  clear hb
  go_wp2_with fail
  go_ret
  exact HF.out
theorem impl_loadOk (A : Option Addr) (n c : Nat) (js : List JD) (B : Option Addr) (m d : Nat) (ms : List MD) (X : Option Addr) (nx cx : Nat) (l : List Int) (w : World) (h : InT w A n js B m ms) (hl : InI w X nx l) :
    Calls Try.prog 23 #[.agg #[.slice A n c, .slice B m d], .slice X nx cx] w fun e w' => ∃ b, e = .returned (.bool b) ∧ LoadOkIs js ms l b ∧ Below w.heap.size w w' := impl_loadOk0 A n c js B m d ms X nx cx l w h hl
/-- The load itself with true, or none. -/
def ChkEnd (Q : Prop) (v : Value) (w w' : World) (e : Ending) : Prop := ((Q ∧ e = .returned (.tuple #[v, .bool true])) ∨ (¬ Q ∧ e = .returned (.tuple #[.slice none 0 0, .bool false]))) ∧ Below w.heap.size w w'
set_option maxHeartbeats 1600000 in
theorem impl_checkedLoad (A : Option Addr) (n c : Nat) (js : List JD) (B : Option Addr) (m d : Nat) (ms : List MD) (X : Option Addr) (nx cx : Nat) (l : List Int) (w : World) (h : InT w A n js B m ms) (hl : InI w X nx l) :
    Calls Try.prog 50 #[.agg #[.slice A n c, .slice B m d], .slice X nx cx] w fun e w' => ChkEnd (LdOk js ms l) (.slice X nx cx) w w' e := by
  obtain ⟨W1, hW⟩ : ∃ W, W = w.alloc (.cells #[.slice A n c, .slice B m d] 26) := ⟨_, rfl⟩
  have X0 : Hid (Box W1 w.heap.size 26 #[.slice A n c, .slice B m d]) := by rw [hW]; exact Box.new _ _ _
  have B0 : Hid (Below w.heap.size w W1) := by rw [hW]; exact (Below.refl _ _).alloc (Nat.le_refl _) _
  have HLN : Hid (js.length = n) := h.1.1
  have HI := Lib.hid h
  have HX := Lib.hid hl
  clear h hl
  go_enter Try.func50, Try.ntmps50
  go_wp2_with fail
  rw [← hW]
  clear hW
  refine (impl_loadOk0 A n c js B m d ms X nx cx l _ (HI.out.below B0.out) (HX.out.below B0.out)).mono ?_
  rintro e w1 ⟨b, rfl, hq, hb⟩
  have X1 := Lib.hid (X0.out.below hb X0.out.lt)
  have B1 := Lib.hid (B0.out.trans (hb.mono B0.out.size))
  have HQ := Lib.hid hq
  clear hq
  clear hb
  cases b
  case false =>
    have HF : Hid (ChkEnd (LdOk js ms l) (.slice X nx cx) w w1 (.returned (.tuple #[.slice none 0 0, .bool false]))) := ⟨.inr ⟨fun q => (by have := HQ.out.2 q; cases this), rfl⟩, B1.out⟩
    go_wp2_with fail
    go_ret2
    exact HF.out
  have HF : Hid (ChkEnd (LdOk js ms l) (.slice X nx cx) w w1 (.returned (.tuple #[.slice X nx cx, .bool true]))) := ⟨.inl ⟨HQ.out.1 rfl, rfl⟩, B1.out⟩
  go_wp2_with fail
  go_ret2
  exact HF.out
def NoLdEnd (js : List JD) (ms : List MD) (w w' : World) (e : Ending) : Prop := ∃ r v, e = .returned v ∧ NoLoadIs js ms r ∧ ResI w w' v r ∧ Below w.heap.size w w'
set_option maxHeartbeats 1600000 in
theorem impl_noLoad0 (A : Option Addr) (n c : Nat) (js : List JD) (B : Option Addr) (m d : Nat) (ms : List MD) (w : World) (h : InT w A n js B m ms) :
    Calls Try.prog 15 #[.agg #[.slice A n c, .slice B m d]] w fun e w' => ∃ r v, e = .returned v ∧ NoLoadIs js ms r ∧ ResI w w' v r ∧ Below w.heap.size w w' := by
  obtain ⟨i0, hi, hz0, hz1, hz2⟩ := info_parts Try.infoI
  obtain ⟨W1, hW⟩ : ∃ W, W = w.alloc (.cells #[.slice A n c, .slice B m d] 26) := ⟨_, rfl⟩
  have X0 : Hid (Box W1 w.heap.size 26 #[.slice A n c, .slice B m d]) := by rw [hW]; exact Box.new _ _ _
  have B0 : Hid (Below w.heap.size w W1) := by rw [hW]; exact (Below.refl _ _).alloc (Nat.le_refl _) _
  have HLN : Hid (js.length = n) := h.1.1
  have HI := Lib.hid h
  clear h
  go_enter Try.func15, Try.ntmps15
  go_wp2_with fail
  rw [← hW]
  clear hW
  refine (impl_structureOk0 A n c js B m d ms _ (HI.out.below B0.out)).mono ?_
  rintro e w1 ⟨b, rfl, hq, hb⟩
  have X1 := Lib.hid (X0.out.below hb X0.out.lt)
  have B1 := Lib.hid (B0.out.trans (hb.mono B0.out.size))
  have HQ := Lib.hid hq
  clear hq
  clear hb
  cases b
  case false =>
    have HF : Hid (NoLdEnd js ms w w1 (.returned (.slice none 0 0))) := ⟨[], _, rfl, .inr ⟨fun q => (by have := HQ.out.2 q; cases this), rfl⟩, ⟨by simp, World.ownsRow_nil _ _ _ _⟩, B1.out⟩
    go_wp2_with fail
    go_ret
    exact HF.out
  have HOK : Hid (TOk js ms) := HQ.out.1 rfl
  have hn6 : n ≤ 6 := by have := HOK.out.six; have := HLN.out; omega
  have e0 := X1.out.cell 0
  have e1 := X1.out.cell 1
  simp at e0 e1
  obtain ⟨N, hN⟩ : ∃ N, N = 2 * n := ⟨_, rfl⟩
  have hmul : 2 * (n : Int) = (N : Int) := by omega
  have HN := Lib.hid hN
  have hN12 : N ≤ 12 := by omega
  have hbs := B1.out.size
  clear hN
  go_wp2_with (refine wpList_make_full _ rfl _ _ 27 rfl w.heap.size 3 i0 (.int .i64 0) 1 Try.underlying27 hi hz0 hz1 _ _ _ _ N rfl rfl rfl rfl ?c1 ?c2 ?c3 ?_)
  case c1 => rw [hz2]; omega
  case c2 => unfold maxLen; omega
  case c3 => exact hbs
  intro w2 ho hg
  have B2 : Hid (Below w.heap.size w w2) := B1.out.grown hg hbs (fun k hk => by cases hk)
  have HF : Hid (NoLdEnd js ms w w2 (.returned (.slice (some ⟨w1.heap.size, 0, none⟩) N N))) := ⟨_, _, rfl, .inl ⟨HOK.out, rfl⟩, by
    have hl : (noload js.length).length = N := by unfold noload; rw [List.length_replicate, HLN.out]; exact HN.out.symm
    refine ⟨by omega, ?_⟩
    rw [hl]
    unfold noload
    rw [HLN.out, ← HN.out, ← made0]
    simp only [Value.cells, Nat.mul_one]
    exact ho, B2.out⟩
  clear ho hg
  go_wp2_with fail
  go_ret
  exact HF.out
theorem impl_noLoad (A : Option Addr) (n c : Nat) (js : List JD) (B : Option Addr) (m d : Nat) (ms : List MD) (w : World) (h : InT w A n js B m ms) :
    Calls Try.prog 15 #[.agg #[.slice A n c, .slice B m d]] w fun e w' => ∃ r v, e = .returned v ∧ NoLoadIs js ms r ∧ ResI w w' v r ∧ Below w.heap.size w w' := impl_noLoad0 A n c js B m d ms w h
set_option maxHeartbeats 3200000 in
theorem impl_totalOf0 (A : Option Addr) (n c : Nat) (js : List JD) (B : Option Addr) (m d : Nat) (ms : List MD) (X : Option Addr) (nx cx : Nat) (l : List Int) (w : World) (h : InT w A n js B m ms) (hl : InI w X nx l) :
    Calls Try.prog 16 #[.agg #[.slice A n c, .slice B m d], .slice X nx cx] w fun e w' => TwoEnd (TotalOfIs js ms l) w w' e := by
  obtain ⟨W1, hW⟩ : ∃ W, W = w.alloc (.cells #[.slice A n c, .slice B m d] 26) := ⟨_, rfl⟩
  have X0 : Hid (Box W1 w.heap.size 26 #[.slice A n c, .slice B m d]) := by rw [hW]; exact Box.new _ _ _
  have B0 : Hid (Below w.heap.size w W1) := by rw [hW]; exact (Below.refl _ _).alloc (Nat.le_refl _) _
  have HLN : Hid (js.length = n) := h.1.1
  have HI := Lib.hid h
  have HLX : Hid (l.length = nx) := hl.1
  have hnx := hl.2.1
  have HX := Lib.hid hl
  clear h hl
  go_enter Try.func16, Try.ntmps16
  go_wp2_with fail
  rw [← hW]
  clear hW
  refine (impl_loadOk0 A n c js B m d ms X nx cx l _ (HI.out.below B0.out) (HX.out.below B0.out)).mono ?_
  rintro e w1 ⟨b, rfl, hq, hb⟩
  have X1 := Lib.hid (X0.out.below hb X0.out.lt)
  have B1 := Lib.hid (B0.out.trans (hb.mono B0.out.size))
  have HQ := Lib.hid hq
  clear hq
  clear hb
  cases b
  case false =>
    have HF : Hid (TwoEnd (TotalOfIs js ms l) w w1 (.returned (.tuple #[.int .i64 0, .int .i64 0]))) := ⟨0, 0, rfl, .inr ⟨fun q => (by have := HQ.out.2 q; cases this), rfl, rfl⟩, B1.out⟩
    go_wp2_with fail
    go_ret2
    exact HF.out
  have HOK : Hid (LdOk js ms l) := HQ.out.1 rfl
  have hn6 : n ≤ 6 := by have := HOK.out.1.six; have := HLN.out; omega
  have hnx2 : nx = 2 * n := by have h1 := HOK.out.2.1; rw [HLN.out, HLX.out] at h1; exact h1
  have HN2 := Lib.hid hnx2
  clear hnx2
  have e0 := X1.out.cell 0
  have e1 := X1.out.cell 1
  simp at e0 e1
  go_wp2_with fail
  clear e0 e1
  go_loopw [6, 7, 16] (fun a b y wr => ∃ (k : Nat) (u v : Int), k ≤ n ∧ y = .int .i64 k ∧ a = .int .i64 u ∧ b = .int .i64 v ∧ (-(100 * k : Int) ≤ u ∧ u ≤ 100 * k) ∧ (-(100 * k : Int) ≤ v ∧ v ≤ 100 * k) ∧ Hid (u = tot2 l 0 k) ∧ Hid (v = tot2 l 1 k) ∧ wr = w1) (fun _ _ y _ => n - (intOf y).toNat)
  case atStart => exact ⟨0, 0, 0, Nat.zero_le _, rfl, rfl, rfl, by omega, by omega, rfl, rfl, rfl⟩
  case round =>
    obtain ⟨k, u, v, hk, rfl, rfl, rfl, hu, hv, HU, HV, rfl⟩ := hrel
    by_cases hlt : k < n
    · have hk0 : (0 : Int) ≤ (k : Int) := by omega
      have hk1 : (k : Int) < (n : Int) := by omega
      obtain ⟨p, hp⟩ : ∃ p, p = 2 * k := ⟨_, rfl⟩
      have hmul : 2 * (k : Int) = (p : Int) := by omega
      have hp1 : p + 1 < nx := by have := HN2.out; omega
      have hp2 : (p : Int) + 1 < (nx : Int) := by omega
      have hp3 : (p : Int) < (nx : Int) := by omega
      have hp4 : (0 : Int) ≤ (p : Int) := by omega
      obtain ⟨b1, o1, z, hA, hz, hcell, _, _, _⟩ := (HX.out.below B1.out).get (k := p) (by omega)
      obtain ⟨b2, o2, z', hA', hz', hcell', _, _, _⟩ := (HX.out.below B1.out).get (k := p + 1) hp1
      subst hA
      cases hA'
      have hzb := HOK.out.2.2 z (List.mem_of_getElem? hz)
      have hzb' := HOK.out.2.2 z' (List.mem_of_getElem? hz')
      have HU2 : Hid (u + z = tot2 l 0 (k + 1)) := by unfold Hid tot2; rw [Nat.add_zero, ← hp, hz, ← HU.out]; rfl
      have HV2 : Hid (v + z' = tot2 l 1 (k + 1)) := by unfold Hid tot2; rw [← hp, hz', ← HV.out]; rfl
      clear hz hz' hp
      go_wp2_with fail
      go_roundw
      case rel => exact ⟨k + 1, u + z, v + z', by omega, by go_num, by go_num, by go_num, by omega, by omega, HU2, HV2, by trivial⟩
      case measure => simp [intOf]; omega
    · obtain rfl : k = n := by omega
      have HF : Hid (TwoEnd (TotalOfIs js ms l) w wr (.returned (.tuple #[.int .i64 u, .int .i64 v]))) := ⟨u, v, rfl, .inl ⟨HOK.out, by rw [HLN.out]; exact HU.out, by rw [HLN.out]; exact HV.out⟩, B1.out⟩
      go_wp2_with fail
      go_ret2
      exact HF.out
theorem impl_totalOf (A : Option Addr) (n c : Nat) (js : List JD) (B : Option Addr) (m d : Nat) (ms : List MD) (X : Option Addr) (nx cx : Nat) (l : List Int) (w : World) (h : InT w A n js B m ms) (hl : InI w X nx l) :
    Calls Try.prog 16 #[.agg #[.slice A n c, .slice B m d], .slice X nx cx] w fun e w' => ∃ x y, e = .returned (.tuple #[.int .i64 x, .int .i64 y]) ∧ TotalOfIs js ms l x y ∧ Below w.heap.size w w' := impl_totalOf0 A n c js B m d ms X nx cx l w h hl
theorem pivot_yes (n : Int) (w : World) (h : -1000 ≤ n) (h' : n ≤ 1000) : Calls Try.prog 54 #[.int .i64 n] w fun e w' => e = .returned (.bool true) ∧ w' = w := by
  go_enter Try.func54, Try.ntmps54
  go_wp2_with fail
  go_ret
  exact ⟨rfl, rfl⟩
theorem pivot_no (n : Int) (w : World) (h : ¬ (-1000 ≤ n ∧ n ≤ 1000)) : Calls Try.prog 54 #[.int .i64 n] w fun e w' => e = .returned (.bool false) ∧ w' = w := by
  by_cases h1 : -1000 ≤ n
  · have h2 : ¬ n ≤ 1000 := fun q => h ⟨h1, q⟩
    clear h
    go_enter Try.func54, Try.ntmps54
    go_wp2_with fail
    go_ret
    exact ⟨rfl, rfl⟩
  · clear h
    go_enter Try.func54, Try.ntmps54
    go_wp2_with fail
    go_ret
    exact ⟨rfl, rfl⟩
set_option maxHeartbeats 6400000 in
theorem impl_momentOf0 (A : Option Addr) (n c : Nat) (js : List JD) (B : Option Addr) (m d : Nat) (ms : List MD) (X : Option Addr) (nx cx : Nat) (l : List Int) (x y : Int) (w : World) (h : InT w A n js B m ms) (hl : InI w X nx l) :
    Calls Try.prog 18 #[.agg #[.slice A n c, .slice B m d], .slice X nx cx, .int .i64 x, .int .i64 y] w fun e w' => NumEnd (MomentOfIs js ms l x y) w w' e := by
  obtain ⟨W1, hW⟩ : ∃ W, W = w.alloc (.cells #[.slice A n c, .slice B m d] 26) := ⟨_, rfl⟩
  have X0 : Hid (Box W1 w.heap.size 26 #[.slice A n c, .slice B m d]) := by rw [hW]; exact Box.new _ _ _
  have B0 : Hid (Below w.heap.size w W1) := by rw [hW]; exact (Below.refl _ _).alloc (Nat.le_refl _) _
  have HLN : Hid (js.length = n) := h.1.1
  have HI := Lib.hid h
  have HLX : Hid (l.length = nx) := hl.1
  have hnx := hl.2.1
  have HX := Lib.hid hl
  clear h hl
  go_enter Try.func18, Try.ntmps18
  go_wp2_with fail
  rw [← hW]
  clear hW
  refine (impl_loadOk0 A n c js B m d ms X nx cx l _ (HI.out.below B0.out) (HX.out.below B0.out)).mono ?_
  rintro e w1 ⟨b, rfl, hq, hb⟩
  have X1 := Lib.hid (X0.out.below hb X0.out.lt)
  have B1 := Lib.hid (B0.out.trans (hb.mono B0.out.size))
  have HQ := Lib.hid hq
  clear hq
  clear hb
  cases b
  case false =>
    have HF : Hid (NumEnd (MomentOfIs js ms l x y) w w1 (.returned (.int .i64 0))) := ⟨0, rfl, .inr ⟨fun q => (by have := HQ.out.2 q.1; cases this), rfl⟩, B1.out⟩
    go_wp2_with fail
    go_ret
    exact HF.out
  have HOK : Hid (LdOk js ms l) := HQ.out.1 rfl
  by_cases hx : -1000 ≤ x ∧ x ≤ 1000
  case neg =>
    have HF : Hid (NumEnd (MomentOfIs js ms l x y) w w1 (.returned (.int .i64 0))) := ⟨0, rfl, .inr ⟨fun q => hx q.2.1, rfl⟩, B1.out⟩
    have HNX := Lib.hid hx
    clear hx
    go_wp2_with fail
    refine (pivot_no x _ HNX.out).mono ?_
    rintro e w2 ⟨rfl, rfl⟩
    go_wp2_with fail
    go_ret
    exact HF.out
  go_wp2_with fail
  refine (pivot_yes x _ (by omega) (by omega)).mono ?_
  rintro e w2 ⟨rfl, rfl⟩
  by_cases hy : -1000 ≤ y ∧ y ≤ 1000
  case neg =>
    have HF : Hid (NumEnd (MomentOfIs js ms l x y) w w2 (.returned (.int .i64 0))) := ⟨0, rfl, .inr ⟨fun q => hy q.2.2, rfl⟩, B1.out⟩
    have HNX := Lib.hid hy
    clear hy
    go_wp2_with fail
    refine (pivot_no y _ HNX.out).mono ?_
    rintro e w3 ⟨rfl, rfl⟩
    go_wp2_with fail
    go_ret
    exact HF.out
  go_wp2_with fail
  refine (pivot_yes y _ (by omega) (by omega)).mono ?_
  rintro e w3 ⟨rfl, rfl⟩
  have hn6 : n ≤ 6 := by have := HOK.out.1.six; have := HLN.out; omega
  have hnx2 : nx = 2 * n := by have h1 := HOK.out.2.1; rw [HLN.out, HLX.out] at h1; exact h1
  have HN2 := Lib.hid hnx2
  have HMO : Hid (MomOk js ms l x y) := ⟨HOK.out, hx, hy⟩
  clear hnx2
  have e0 := X1.out.cell 0
  have e1 := X1.out.cell 1
  simp at e0 e1
  go_wp2_with fail
  clear e0 e1
  go_loopw [9, 29] (fun a y1 wr => ∃ (k : Nat) (u : Int), k ≤ n ∧ y1 = .int .i64 k ∧ a = .int .i64 u ∧ (-(210000 * k : Int) ≤ u ∧ u ≤ 210000 * k) ∧ Hid (u = mom js l x y k) ∧ Hid (Below w.heap.size w wr)) (fun _ y1 _ => n - (intOf y1).toNat)
  case atStart => exact ⟨0, 0, Nat.zero_le _, rfl, rfl, by omega, rfl, B1⟩
  case round =>
    obtain ⟨k, u, hk, rfl, rfl, hu, HU, HB⟩ := hrel
    by_cases hlt : k < n
    · have hk0 : (0 : Int) ≤ (k : Int) := by omega
      have hk1 : (k : Int) < (n : Int) := by omega
      obtain ⟨p, hp⟩ : ∃ p, p = 2 * k := ⟨_, rfl⟩
      have hmul : 2 * (k : Int) = (p : Int) := by omega
      have hp1 : p + 1 < nx := by have := HN2.out; omega
      have hp2 : (p : Int) + 1 < (nx : Int) := by omega
      have hp3 : (p : Int) < (nx : Int) := by omega
      have hp4 : (0 : Int) ≤ (p : Int) := by omega
      obtain ⟨bj, oj, rfl, hbj, ⟨s, jx1, jy1, f⟩, hj, ⟨e0, e1, e2, e3⟩, _⟩ := (HI.out.1.below HB.out).at_ k hlt
      simp only at e0 e1 e2 e3
      obtain ⟨wa, hwa⟩ : ∃ W, W = wr.alloc (.cells #[.string s, .int .i64 jx1, .int .i64 jy1, .bool f] 79) := ⟨_, rfl⟩
      obtain ⟨ga, hga⟩ : ∃ g, g = wr.heap.size := ⟨_, rfl⟩
      have hba : Below wr.heap.size wr wa := by rw [hwa]; exact (Below.refl _ _).alloc (Nat.le_refl _) _
      have XA : Hid (Box wa ga 79 #[.string s, .int .i64 jx1, .int .i64 jy1, .bool f]) := by rw [hwa, hga]; exact Box.new _ _ _
      have HBA := Lib.hid (HB.out.trans (hba.mono HB.out.size))
      obtain ⟨b1, o1, z, hA, hz, hcell, _, _, _⟩ := (HX.out.below HBA.out).get (k := p) (by omega)
      obtain ⟨b2, o2, z', hA', hz', hcell', _, _, _⟩ := (HX.out.below HBA.out).get (k := p + 1) hp1
      subst hA
      cases hA'
      have hpt := mom_parts HMO.out.1 HMO.out.2.1 HMO.out.2.2 k
      rw [jx_of hj, jy_of hj, ← hp, hz, hz'] at hpt
      simp only [Option.getD_some] at hpt
      obtain ⟨hq1, hq2, hq3, hq4⟩ := hpt
      obtain ⟨g1, hg1⟩ : ∃ g, g = (jx1 - x) * z' := ⟨_, rfl⟩
      obtain ⟨g2, hg2⟩ : ∃ g, g = (jy1 - y) * z := ⟨_, rfl⟩
      rw [← hg1] at hq3
      rw [← hg2] at hq4
      have HU2 : Hid (u + g1 - g2 = mom js l x y (k + 1)) := by unfold Hid mom; rw [jx_of hj, jy_of hj, ← hp, hz, hz', ← HU.out, hg1, hg2]; rfl
      have HU3 : Hid (u + (g1 - g2) = mom js l x y (k + 1)) := by have := HU2.out; unfold Hid; omega
      have HQ : Hid (∀ q, Below w.heap.size w (wa.drewN q)) := fun q => below_drewN HBA.out q
      have hw1 : IntKind.i64.wrap ((jx1 - x) * z') = g1 := by rw [← hg1, IntKind.wrap_i64]; omega
      have hw2 : IntKind.i64.wrap ((jy1 - y) * z) = g2 := by rw [← hg2, IntKind.wrap_i64]; omega
      clear hz hz' hp hg1 hg2 hj hba HB
      go_upto_region 7 with fail
      rw [← hwa, ← hga]
      clear hwa hga e0 e1 e2 e3
      have a1 := XA.out.cell 1
      have a2 := XA.out.cell 2
      simp at a1 a2
      go_wp2_with fail
      go_quiet (fail)
      go_wp2_with fail
      go_roundw
      case rel => exact ⟨k + 1, _, by omega, by go_num, rfl, by omega, by first | exact HU2 | exact HU3, HQ.out _⟩
      case measure => simp [intOf]; omega
    · obtain rfl : k = n := by omega
      have HF : Hid (NumEnd (MomentOfIs js ms l x y) w wr (.returned (.int .i64 u))) := ⟨u, rfl, .inl ⟨HMO.out, by rw [HLN.out]; exact HU.out⟩, HB.out⟩
      go_wp2_with fail
      go_ret
      exact HF.out
theorem impl_momentOf (A : Option Addr) (n c : Nat) (js : List JD) (B : Option Addr) (m d : Nat) (ms : List MD) (X : Option Addr) (nx cx : Nat) (l : List Int) (x y : Int) (w : World) (h : InT w A n js B m ms) (hl : InI w X nx l) (_hx : -9223372036854775808 ≤ x ∧ x ≤ 9223372036854775807) (_hy : -9223372036854775808 ≤ y ∧ y ≤ 9223372036854775807) :
    Calls Try.prog 18 #[.agg #[.slice A n c, .slice B m d], .slice X nx cx, .int .i64 x, .int .i64 y] w fun e w' => ∃ r, e = .returned (.int .i64 r) ∧ MomentOfIs js ms l x y r ∧ Below w.heap.size w w' := impl_momentOf0 A n c js B m d ms X nx cx l x y w h hl
end Go.Proofs.Ytipmeijfmiiedaa
