/- Contracts of symmetric matrices: is a list of indices ascending, by the program and by the model. -/
import Derived.Test.YthjbfdifeffilaaSym
namespace Go.Proofs.Ythjbfdifeffilaa
set_option maxRecDepth 100000
open Go.RowKit

def AscEnd (p : Int) (xs : List Int) (w w' : World) (e : Ending) : Prop := ∃ b, e = .returned (.bool b) ∧ (b = true ↔ AscIs p xs) ∧ w = w'
theorem ascEnd_no {p : Int} {xs : List Int} {w : World} {i : Nat} (hi : i < xs.length) (h : ¬ AscAt p xs i) : AscEnd p xs w w (.returned (.bool false)) := ⟨false, rfl, ⟨fun k => (by cases k), fun k => absurd (k i hi) h⟩, rfl⟩
theorem ascEnd_yes {p : Int} {xs : List Int} {w : World} (h : ∀ t, t < xs.length → AscAt p xs t) : AscEnd p xs w w (.returned (.bool true)) := ⟨true, rfl, ⟨fun _ => h, fun _ => rfl⟩, rfl⟩
theorem asc_more {p : Int} {xs : List Int} {i : Nat} (h : ∀ t, t < i → AscAt p xs t) (k : AscAt p xs i) : ∀ t, t < i + 1 → AscAt p xs t := fun t ht => by
  by_cases e : t = i
  · subst e; exact k
  · exact h t (by omega)
set_option maxHeartbeats 1600000 in
theorem impl_areIndices (A : Option Addr) (n c : Nat) (xs : List Int) (p : Int) (w : World) (h : InI w A n xs) :
    Calls Try.prog 67 #[.slice A n c, .int .i64 p] w fun e w' => AscEnd p xs w w' e := by
  have Hn := Lib.hid h.1
  have hm := h.2.1
  have Hr := Lib.hid h.2.2.1
  clear h
  go_enter Try.func67, Try.ntmps67
  go_wp2
  go_loop [5, 10] (fun x y => ∃ (i : Nat) (l : Int), i ≤ n ∧ y = .int .i64 i ∧ x = .int .i64 l ∧ Hid (lastAt xs i = l) ∧ Hid (∀ t, t < i → AscAt p xs t)) (fun _ y => n - (intOf y).toNat)
  case atStart => exact ⟨0, -1, Nat.zero_le _, rfl, rfl, lastAt_zero _, fun t ht => by omega⟩
  case round =>
    obtain ⟨i, l, hle, rfl, rfl, hl, hno⟩ := hrel
    by_cases hlt : i < n
    · have hix : i < xs.length := by rw [Hn.out]; exact hlt
      obtain ⟨b, o, rfl, hb, hc⟩ := Hr.out.at_ (by simp; omega)
      obtain ⟨z, hz⟩ : ∃ z, xs[i] = z := ⟨_, rfl⟩
      have hz? : xs[i]? = some z := by rw [List.getElem?_eq_getElem hix, hz]
      have HZ := Lib.hid hz?
      have hcell : w.cell? ⟨b, o + i, none⟩ = some (.int .i64 z) := (hc i (by simpa using hix)).trans (by simp [hz])
      have hi0 : (0 : Int) ≤ (i : Int) := by omega
      have hi1 : (i : Int) < (n : Int) := by omega
      by_cases h1 : z ≤ l
      · have HF : Hid (AscEnd p xs w w (.returned (.bool false))) := ascEnd_no hix fun h => (by have h2 := (h z HZ.out).1; rw [hl.out] at h2; omega)
        clear hc hz hz?
        go_wp2
        go_ret
        exact HF.out
      · have h1' : ¬ z ≤ l := h1
        by_cases h2 : p ≤ z
        · have HF : Hid (AscEnd p xs w w (.returned (.bool false))) := ascEnd_no hix fun h => (by have h2 := (h z HZ.out).2; omega)
          clear hc hz hz?
          go_wp2
          go_ret
          exact HF.out
        · have HK : Hid (∀ t, t < i + 1 → AscAt p xs t) := asc_more hno.out fun x hx => by
            rw [HZ.out] at hx
            cases hx
            exact ⟨by rw [hl.out]; omega, by omega⟩
          clear hc hz hz?
          go_wp2
          go_round
          case rel => exact ⟨i + 1, z, by omega, by go_num, rfl, lastAt_succ HZ.out, HK⟩
          case measure => simp [intOf]; omega
    · obtain rfl : i = n := by omega
      have HF : Hid (AscEnd p xs w w (.returned (.bool true))) := ascEnd_yes (by rw [Hn.out]; exact hno.out)
      go_wp2
      go_ret
      exact HF.out
set_option maxHeartbeats 1600000 in
theorem spec_l08Ascending (A : Option Addr) (n c : Nat) (xs : List Int) (P : Nat) (w : World) (h : InI w A n xs) (hP : P ≤ 24) :
    Calls Try.prog 65 #[.slice A n c, .int .i64 P] w fun e w' => AscEnd P xs w w' e := by
  have Hn := Lib.hid h.1
  have hm := h.2.1
  have Hr := Lib.hid h.2.2.1
  clear h
  go_enter Try.func65, Try.ntmps65
  go_wp2
  go_loop [9] (fun y => ∃ (i : Nat), i ≤ n ∧ y = .int .i64 i ∧ Hid (∀ t, t < i → AscAt P xs t)) (fun y => n - (intOf y).toNat)
  case atStart => exact ⟨0, Nat.zero_le _, rfl, fun t ht => by omega⟩
  case round =>
    obtain ⟨i, hle, rfl, hno⟩ := hrel
    by_cases hlt : i < n
    · have hix : i < xs.length := by rw [Hn.out]; exact hlt
      obtain ⟨b, o, rfl, hb, hc⟩ := Hr.out.at_ (by simp; omega)
      obtain ⟨z, hz⟩ : ∃ z, xs[i] = z := ⟨_, rfl⟩
      have hz? : xs[i]? = some z := by rw [List.getElem?_eq_getElem hix, hz]
      have HZ := Lib.hid hz?
      have hcell : w.cell? ⟨b, o + i, none⟩ = some (.int .i64 z) := (hc i (by simpa using hix)).trans (by simp [hz])
      have hi0 : (0 : Int) ≤ (i : Int) := by omega
      have hi1 : (i : Int) < (n : Int) := by omega
      obtain ⟨b1, hb1⟩ : ∃ b, (decide (0 ≤ z) && decide (z ≤ (P : Int) - 1)) = b := ⟨_, rfl⟩
      have H1 := Lib.hid hb1
      have HC := Lib.hid hc
      have HIX := Lib.hid hix
      clear hb1 hc hz hz? hix
      go_wp2_with fail
      refine (spec_in z 0 ((P : Int) - 1) b1 H1.out _).mono ?_
      rintro e w2 ⟨rfl, rfl⟩
      cases b1
      case false =>
        have HF : Hid (AscEnd P xs w w (.returned (.bool false))) := ⟨false, rfl, ⟨fun h => (by cases h), fun h => by
          have h2 := h.nat HZ.out
          exact absurd ⟨h2.1, by omega⟩ (in_no H1.out)⟩, rfl⟩
        go_wp2_with fail
        go_ret
        exact HF.out
      have h2 := in_yes H1.out
      by_cases h0 : i = 0
      · subst h0
        have HK : Hid (∀ t, t < 0 + 1 → AscAt P xs t) := asc_more hno.out fun x hx => by
          rw [HZ.out] at hx
          cases hx
          exact ⟨by rw [lastAt_zero]; omega, by omega⟩
        go_wp2_with fail
        go_round
        case rel => exact ⟨0 + 1, by omega, by go_num, HK⟩
        case measure => simp [intOf]; omega
      · have hi2 : (0 : Int) < (i : Int) := by omega
        have hjx : i - 1 < xs.length := by have := HIX.out; omega
        obtain ⟨y, hy⟩ : ∃ y, xs[i - 1] = y := ⟨_, rfl⟩
        have hy? : xs[i - 1]? = some y := by rw [List.getElem?_eq_getElem hjx, hy]
        have HLA : Hid (lastAt xs i = y) := by
          have h3 := lastAt_succ hy?
          rwa [show i - 1 + 1 = i by omega] at h3
        have hcell2 : w.cell? ⟨b, o + (i - 1), none⟩ = some (.int .i64 y) := (HC.out (i - 1) (by simpa using hjx)).trans (by simp [hy])
        obtain ⟨j, hj⟩ : ∃ j, i = j + 1 := ⟨i - 1, by omega⟩
        subst hj
        simp only [Nat.add_sub_cancel] at hcell2
        have hj0 : (0 : Int) ≤ (j : Int) := by omega
        have hj1 : (j : Int) < (n : Int) := by omega
        clear hy hy? hjx
        by_cases h3 : z ≤ y
        · have HF : Hid (AscEnd P xs w w (.returned (.bool false))) := ascEnd_no HIX.out fun h => (by have h4 := (h z HZ.out).1; rw [HLA.out] at h4; omega)
          go_wp2_with fail
          go_ret
          exact HF.out
        · have HK : Hid (∀ t, t < j + 1 + 1 → AscAt P xs t) := asc_more hno.out fun x hx => by
            rw [HZ.out] at hx
            cases hx
            exact ⟨by rw [HLA.out]; omega, by omega⟩
          go_wp2_with fail
          go_round
          case rel => exact ⟨j + 1 + 1, by omega, by go_num, HK⟩
          case measure => simp [intOf]; omega
    · obtain rfl : i = n := by omega
      have HF : Hid (AscEnd P xs w w (.returned (.bool true))) := ascEnd_yes (by rw [Hn.out]; exact hno.out)
      go_wp2_with fail
      go_ret
      exact HF.out
end Go.Proofs.Ythjbfdifeffilaa
