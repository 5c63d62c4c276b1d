/- JointOk, by the program and by the model. -/
import Derived.Test.YtipmeijfmiiedaaStK
namespace Go.Proofs.Ytipmeijfmiiedaa
set_option maxRecDepth 100000
open Go.RowKit

def JOk (j : JD) : Prop := nameB j.name = true ∧ (-50 ≤ j.x ∧ j.x ≤ 50) ∧ -50 ≤ j.y ∧ j.y ≤ 50
instance (j : JD) : Decidable (JOk j) := by unfold JOk; exact inferInstance
theorem isPlace_yes (n : Int) (w : World) (h : -50 ≤ n) (h' : n ≤ 50) : Calls Try.prog 94 #[.int .i64 n] w fun e w' => e = .returned (.bool true) ∧ w' = w := by
  go_enter Try.func94, Try.ntmps94
  go_wp2_with fail
  go_ret
  exact ⟨rfl, rfl⟩
theorem isPlace_no (n : Int) (w : World) (h : ¬ (-50 ≤ n ∧ n ≤ 50)) : Calls Try.prog 94 #[.int .i64 n] w fun e w' => e = .returned (.bool false) ∧ w' = w := by
  by_cases h1 : -50 ≤ n
  · have h2 : ¬ n ≤ 50 := fun q => h ⟨h1, q⟩
    clear h
    go_enter Try.func94, Try.ntmps94
    go_wp2_with fail
    go_ret
    exact ⟨rfl, rfl⟩
  · clear h
    go_enter Try.func94, Try.ntmps94
    go_wp2_with fail
    go_ret
    exact ⟨rfl, rfl⟩
set_option maxHeartbeats 1600000 in
theorem spec_jointOk (s : ByteArray) (x y : Int) (f : Bool) (w : World) (hs : s.size ≤ maxLen) :
    Calls Try.prog 78 #[.agg #[.string s, .int .i64 x, .int .i64 y, .bool f]] w fun e w' => YesEnd (JOk ⟨s, x, y, f⟩) w w' e := by
  obtain ⟨W, hW⟩ : ∃ W, W = w.alloc (.cells #[.string s, .int .i64 x, .int .i64 y, .bool f] 79) := ⟨_, rfl⟩
  have hp0_0 : Hid (Box W w.heap.size 79 #[.string s, .int .i64 x, .int .i64 y, .bool f]) := by rw [hW]; exact Box.new _ _ _
  have BW_0 : Hid (Below w.heap.size w W) := by rw [hW]; exact (Below.refl _ _).alloc (Nat.le_refl _) _
  go_enter Try.func78, Try.ntmps78
  go_wp2_with fail
  rw [← hW]
  clear hW
  refine (spec_isName s _ hs).mono ?_
  rintro e w1 ⟨rfl, rfl⟩
  have hp0_1 := hp0_0
  have BW_1 := BW_0
  by_cases hn : nameB s = true
  case neg =>
    have hnf : nameB s = false := by simpa using hn
    have HF : Hid (YesEnd (JOk ⟨s, x, y, f⟩) w W (.returned (.bool false))) := yes_no (fun q => hn q.1) BW_1.out
    rw [hnf]
    clear hn hnf
    go_wp2_with fail
    go_ret
    exact HF.out
  rw [hn]
  have HN := Lib.hid hn
  clear hn
  have q1 := hp0_1.out.cell 1
  have q2 := hp0_1.out.cell 2
  simp at q1 q2
  go_wp2_with fail
  by_cases hx : -50 ≤ x ∧ x ≤ 50
  case neg =>
    have HF : Hid (YesEnd (JOk ⟨s, x, y, f⟩) w W (.returned (.bool false))) := yes_no (fun q => hx q.2.1) BW_1.out
    refine (l01In_no x (-50) 50 _ hx).mono ?_
    rintro e w2 ⟨rfl, rfl⟩
    clear hx
    go_wp2_with fail
    go_ret
    exact HF.out
  refine (l01In_yes x (-50) 50 _ hx.1 hx.2).mono ?_
  rintro e w2 ⟨rfl, rfl⟩
  have HX := Lib.hid hx
  clear hx
  go_wp2_with fail
  by_cases hy : -50 ≤ y ∧ y ≤ 50
  case neg =>
    have HF : Hid (YesEnd (JOk ⟨s, x, y, f⟩) w w2 (.returned (.bool false))) := yes_no (fun q => hy q.2.2) BW_1.out
    refine (l01In_no y (-50) 50 _ hy).mono ?_
    rintro e w3 ⟨rfl, rfl⟩
    clear hy
    go_wp2_with fail
    go_ret
    exact HF.out
  have HF : Hid (YesEnd (JOk ⟨s, x, y, f⟩) w w2 (.returned (.bool true))) := yes_yes ⟨HN.out, HX.out, hy⟩ BW_1.out
  refine (l01In_yes y (-50) 50 _ hy.1 hy.2).mono ?_
  rintro e w3 ⟨rfl, rfl⟩
  clear hy
  go_wp2_with fail
  go_ret
  exact HF.out
set_option maxHeartbeats 1600000 in
theorem impl_jointOk (s : ByteArray) (x y : Int) (f : Bool) (w : World) (hs : s.size ≤ maxLen) :
    Calls Try.prog 88 #[.agg #[.string s, .int .i64 x, .int .i64 y, .bool f]] w fun e w' => YesEnd (JOk ⟨s, x, y, f⟩) w w' e := by
  obtain ⟨W, hW⟩ : ∃ W, W = w.alloc (.cells #[.string s, .int .i64 x, .int .i64 y, .bool f] 79) := ⟨_, rfl⟩
  have hp0_0 : Hid (Box W w.heap.size 79 #[.string s, .int .i64 x, .int .i64 y, .bool f]) := by rw [hW]; exact Box.new _ _ _
  have BW_0 : Hid (Below w.heap.size w W) := by rw [hW]; exact (Below.refl _ _).alloc (Nat.le_refl _) _
  go_enter Try.func88, Try.ntmps88
  go_wp2_with fail
  rw [← hW]
  clear hW
  refine (impl_isName s _ hs).mono ?_
  rintro e w1 ⟨rfl, hb⟩
  have hp0_1 := Lib.hid (hp0_0.out.below hb hp0_0.out.lt)
  have BW_1 := Lib.hid (BW_0.out.trans (hb.mono BW_0.out.size))
  clear hb hp0_0 BW_0
  by_cases hn : nameB s = true
  case neg =>
    have hnf : nameB s = false := by simpa using hn
    have HF : Hid (YesEnd (JOk ⟨s, x, y, f⟩) w w1 (.returned (.bool false))) := yes_no (fun q => hn q.1) BW_1.out
    rw [hnf]
    clear hn hnf
    go_wp2_with fail
    go_ret
    exact HF.out
  rw [hn]
  have HN := Lib.hid hn
  clear hn
  have q1 := hp0_1.out.cell 1
  have q2 := hp0_1.out.cell 2
  simp at q1 q2
  go_wp2_with fail
  by_cases hx : -50 ≤ x ∧ x ≤ 50
  case neg =>
    have HF : Hid (YesEnd (JOk ⟨s, x, y, f⟩) w w1 (.returned (.bool false))) := yes_no (fun q => hx q.2.1) BW_1.out
    refine (isPlace_no x _ hx).mono ?_
    rintro e w2 ⟨rfl, rfl⟩
    clear hx
    go_wp2_with fail
    go_ret
    exact HF.out
  refine (isPlace_yes x _ hx.1 hx.2).mono ?_
  rintro e w2 ⟨rfl, rfl⟩
  have HX := Lib.hid hx
  clear hx
  go_wp2_with fail
  by_cases hy : -50 ≤ y ∧ y ≤ 50
  case neg =>
    have HF : Hid (YesEnd (JOk ⟨s, x, y, f⟩) w w2 (.returned (.bool false))) := yes_no (fun q => hy q.2.2) BW_1.out
    refine (isPlace_no y _ hy).mono ?_
    rintro e w3 ⟨rfl, rfl⟩
    clear hy
    go_wp2_with fail
    go_ret
    exact HF.out
  have HF : Hid (YesEnd (JOk ⟨s, x, y, f⟩) w w2 (.returned (.bool true))) := yes_yes ⟨HN.out, HX.out, hy⟩ BW_1.out
  refine (isPlace_yes y _ hy.1 hy.2).mono ?_
  rintro e w3 ⟨rfl, rfl⟩
  clear hy
  go_wp2_with fail
  go_ret
  exact HF.out
end Go.Proofs.Ytipmeijfmiiedaa
