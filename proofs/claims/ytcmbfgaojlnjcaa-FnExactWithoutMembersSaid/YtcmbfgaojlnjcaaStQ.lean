/- Lists of joints and of members compared, by the program and by the model: SameStructures. -/
import Derived.Test.YtcmbfgaojlnjcaaStM6
import Derived.Laws.StructEq
import Derived.BigQuiet
namespace Go.Proofs.Ytcmbfgaojlnjcaa
set_option maxRecDepth 100000
open Go.RowKit

theorem toList_ne {s t : ByteArray} (h : s ≠ t) : ¬ s.toList = t.toList := fun e => h (by
  rw [ByteArray.toList_eq, ByteArray.toList_eq] at e
  obtain ⟨⟨x⟩⟩ := s
  obtain ⟨⟨y⟩⟩ := t
  simp at e
  rw [e])
theorem jd_ne {s t : ByteArray} {x y x' y' : Int} {f f' : Bool} (h : (⟨s, x, y, f⟩ : JD) ≠ ⟨t, x', y', f'⟩) : ¬ s.toList = t.toList ∨ (s = t ∧ ¬ x = x') ∨ (s = t ∧ x = x' ∧ ¬ y = y') ∨ (s = t ∧ x = x' ∧ y = y' ∧ ¬ f = f') := by
  by_cases h0 : s = t
  · subst h0
    by_cases h1 : x = x'
    · subst h1
      by_cases h2 : y = y'
      · subst h2
        exact .inr (.inr (.inr ⟨rfl, rfl, rfl, fun e => h (by rw [e])⟩))
      · exact .inr (.inr (.inl ⟨rfl, rfl, h2⟩))
    · exact .inr (.inl ⟨rfl, h1⟩)
  · exact .inl (toList_ne h0)
theorem md_ne {x y z x' y' z' : Int} (h : (⟨x, y, z⟩ : MD) ≠ ⟨x', y', z'⟩) : ¬ x = x' ∨ (x = x' ∧ ¬ y = y') ∨ (x = x' ∧ y = y' ∧ ¬ z = z') := by
  by_cases h1 : x = x'
  · subst h1
    by_cases h2 : y = y'
    · subst h2
      exact .inr (.inr ⟨rfl, rfl, fun e => h (by rw [e])⟩)
    · exact .inr (.inl ⟨rfl, h2⟩)
  · exact .inl h1
/-- A function that tells whether Q holds. -/
def YesEnd (Q : Prop) (w w' : World) (e : Ending) : Prop := ∃ b, e = .returned (.bool b) ∧ (b = true ↔ Q) ∧ Below w.heap.size w w'
theorem yes_no {Q : Prop} {w w' : World} (h : ¬ Q) (hb : Below w.heap.size w w') : YesEnd Q w w' (.returned (.bool false)) := ⟨false, rfl, ⟨fun q => (by cases q), fun q => absurd q h⟩, hb⟩
theorem yes_yes {Q : Prop} {w w' : World} (h : Q) (hb : Below w.heap.size w w') : YesEnd Q w w' (.returned (.bool true)) := ⟨true, rfl, ⟨fun _ => h, fun _ => rfl⟩, hb⟩
theorem take_ne {α : Type} {xs ys : List α} {k : Nat} {x y : α} (hx : xs[k]? = some x) (hy : ys[k]? = some y) (h : x ≠ y) : xs ≠ ys := fun e => by
  subst e
  rw [hx] at hy
  exact h (Option.some.inj hy)
theorem take_eq {α : Type} {xs ys : List α} {k : Nat} {x : α} (h : xs.take k = ys.take k) (hx : xs[k]? = some x) (hy : ys[k]? = some x) : xs.take (k + 1) = ys.take (k + 1) := by
  obtain ⟨h1, h2⟩ := List.getElem?_eq_some_iff.1 hx
  obtain ⟨h3, h4⟩ := List.getElem?_eq_some_iff.1 hy
  rw [List.take_succ_eq_append_getElem h1, List.take_succ_eq_append_getElem h3, h, h2, h4]
set_option maxHeartbeats 1600000 in
theorem equal_Joint (A1 : Option Addr) (n1 c1 : Nat) (xs : List JD) (A2 : Option Addr) (n2 c2 : Nat) (ys : List JD) (w : World) (h1 : InJ w A1 n1 xs) (h2 : InJ w A2 n2 ys) :
    Calls Try.prog 78 #[.slice A1 n1 c1, .slice A2 n2 c2] w fun e w' => YesEnd (xs = ys) w w' e := by
  have hm1 := h1.2.1
  have hm2 := h2.2.1
  by_cases hne : n1 = n2
  · subst hne
    have HL1 : Hid (xs.length = n1) := h1.1
    have HL2 : Hid (ys.length = n1) := h2.1
    have H1 := Lib.hid h1
    have H2 := Lib.hid h2
    have hbq : ((n1 : Int) != (n1 : Int)) = false := by simp
    clear h1 h2
    go_enter Try.func78, Try.ntmps78
    go_wp2_with fail
    go_loopw [5, 13] (fun _ y wr => ∃ k : Nat, k ≤ n1 ∧ y = .int .i64 k ∧ Hid (xs.take k = ys.take k) ∧ Hid (Below w.heap.size w wr)) (fun _ y _ => n1 - (intOf y).toNat)
    case atStart => exact ⟨0, Nat.zero_le _, rfl, by simp [Hid], Below.refl _ _⟩
    case round =>
      obtain ⟨k, hk, rfl, heq, hb⟩ := hrel
      by_cases hlt : k < n1
      · obtain ⟨b1, o1, rfl, hb1, ⟨s, x, y, f⟩, hx, ⟨e0, e1, e2, e3⟩, _⟩ := (H1.out.below hb.out).at_ k hlt
        obtain ⟨b2, o2, rfl, hb2, ⟨s', x', y', f'⟩, hy, ⟨d0, d1, d2, d3⟩, _⟩ := (H2.out.below hb.out).at_ k hlt
        simp only at e0 d0 e1 d1 e2 d2 e3 d3
        have hk0 : (0 : Int) ≤ (k : Int) := by omega
        have hk1 : (k : Int) < (n1 : Int) := by omega
        have HX := Lib.hid hx
        have HY := Lib.hid hy
        have HB : Hid (∀ q, Below w.heap.size w (wr.drewN q)) := fun q => below_drewN hb.out q
        clear hx hy
        by_cases hxy : (⟨s, x, y, f⟩ : JD) = ⟨s', x', y', f'⟩
        · have hnx : Hid (xs.take (k + 1) = ys.take (k + 1)) := take_eq heq.out HX.out (by rw [hxy]; exact HY.out)
          cases hxy
          clear heq
          go_wp2_with fail
          go_quiet (fail)
          go_wp2_with fail
          go_roundw
          case rel => exact ⟨k + 1, by omega, by go_num, hnx, HB.out _⟩
          case measure => simp [intOf]; omega
        · have HF : Hid (∀ q, YesEnd (xs = ys) w (wr.drewN q) (.returned (.bool false))) := fun q => yes_no (take_ne HX.out HY.out hxy) (HB.out q)
          clear heq
          rcases jd_ne hxy with hd | ⟨rfl, hd⟩ | ⟨rfl, rfl, hd⟩ | ⟨rfl, rfl, rfl, hd⟩ <;> clear hxy HX HY <;> (go_wp2_with fail; go_quiet (fail); go_wp2_with fail; go_ret; exact HF.out _)
      · have HF : Hid (YesEnd (xs = ys) w wr (.returned (.bool true))) := yes_yes (by have := heq.out; rwa [List.take_of_length_le (by rw [HL1.out]; omega), List.take_of_length_le (by rw [HL2.out]; omega)] at this) hb.out
        clear heq
        go_wp2_with fail
        go_ret
        exact HF.out
  · have hq : ((n1 : Int) != (n2 : Int)) = true := by simp; omega
    have HF : Hid (YesEnd (xs = ys) w w (.returned (.bool false))) := yes_no (fun e => hne (by rw [← h1.1, ← h2.1, e])) (Below.refl _ _)
    clear h1 h2 hne
    go_enter Try.func78, Try.ntmps78
    go_wp2_with fail
    go_ret
    exact HF.out
set_option maxHeartbeats 1600000 in
theorem equal_Member (A1 : Option Addr) (n1 c1 : Nat) (xs : List MD) (A2 : Option Addr) (n2 c2 : Nat) (ys : List MD) (w : World) (h1 : InM w A1 n1 xs) (h2 : InM w A2 n2 ys) :
    Calls Try.prog 79 #[.slice A1 n1 c1, .slice A2 n2 c2] w fun e w' => YesEnd (xs = ys) w w' e := by
  have hm1 := h1.2.1
  have hm2 := h2.2.1
  by_cases hne : n1 = n2
  · subst hne
    have HL1 : Hid (xs.length = n1) := h1.1
    have HL2 : Hid (ys.length = n1) := h2.1
    have H1 := Lib.hid h1
    have H2 := Lib.hid h2
    have hbq : ((n1 : Int) != (n1 : Int)) = false := by simp
    clear h1 h2
    go_enter Try.func79, Try.ntmps79
    go_wp2_with fail
    go_loopw [5, 13] (fun _ y wr => ∃ k : Nat, k ≤ n1 ∧ y = .int .i64 k ∧ Hid (xs.take k = ys.take k) ∧ Hid (Below w.heap.size w wr)) (fun _ y _ => n1 - (intOf y).toNat)
    case atStart => exact ⟨0, Nat.zero_le _, rfl, by simp [Hid], Below.refl _ _⟩
    case round =>
      obtain ⟨k, hk, rfl, heq, hb⟩ := hrel
      by_cases hlt : k < n1
      · obtain ⟨b1, o1, rfl, hb1, ⟨x, y, z⟩, hx, ⟨e0, e1, e2⟩, _⟩ := (H1.out.below hb.out).at_ k hlt
        obtain ⟨b2, o2, rfl, hb2, ⟨x', y', z'⟩, hy, ⟨d0, d1, d2⟩, _⟩ := (H2.out.below hb.out).at_ k hlt
        simp only at e0 d0 e1 d1 e2 d2
        have hk0 : (0 : Int) ≤ (k : Int) := by omega
        have hk1 : (k : Int) < (n1 : Int) := by omega
        have HX := Lib.hid hx
        have HY := Lib.hid hy
        have HB : Hid (∀ q, Below w.heap.size w (wr.drewN q)) := fun q => below_drewN hb.out q
        clear hx hy
        by_cases hxy : (⟨x, y, z⟩ : MD) = ⟨x', y', z'⟩
        · have hnx : Hid (xs.take (k + 1) = ys.take (k + 1)) := take_eq heq.out HX.out (by rw [hxy]; exact HY.out)
          cases hxy
          clear heq
          go_wp2_with fail
          go_quiet (fail)
          go_wp2_with fail
          go_roundw
          case rel => exact ⟨k + 1, by omega, by go_num, hnx, HB.out _⟩
          case measure => simp [intOf]; omega
        · have HF : Hid (∀ q, YesEnd (xs = ys) w (wr.drewN q) (.returned (.bool false))) := fun q => yes_no (take_ne HX.out HY.out hxy) (HB.out q)
          clear heq
          rcases md_ne hxy with hd | ⟨rfl, hd⟩ | ⟨rfl, rfl, hd⟩ <;> clear hxy HX HY <;> (go_wp2_with fail; go_quiet (fail); go_wp2_with fail; go_ret; exact HF.out _)
      · have HF : Hid (YesEnd (xs = ys) w wr (.returned (.bool true))) := yes_yes (by have := heq.out; rwa [List.take_of_length_le (by rw [HL1.out]; omega), List.take_of_length_le (by rw [HL2.out]; omega)] at this) hb.out
        clear heq
        go_wp2_with fail
        go_ret
        exact HF.out
  · have hq : ((n1 : Int) != (n2 : Int)) = true := by simp; omega
    have HF : Hid (YesEnd (xs = ys) w w (.returned (.bool false))) := yes_no (fun e => hne (by rw [← h1.1, ← h2.1, e])) (Below.refl _ _)
    clear h1 h2 hne
    go_enter Try.func79, Try.ntmps79
    go_wp2_with fail
    go_ret
    exact HF.out
end Go.Proofs.Ytcmbfgaojlnjcaa
