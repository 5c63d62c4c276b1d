/- Contracts of the program's natural numbers: what is one, the way from int, comparisons. -/
import Derived.Test.YtjjbgpgpacopjaaDoorNat4
namespace Go.Proofs.YtjjbgpgpacopjaaDoor
open Go.RowKit

set_option maxHeartbeats 800000 in
theorem impl_natOk' (A : Option Addr) (n c : Nat) (xs : List Int) (w : World) (h : InI w A n xs) :
    Calls Tryd.prog 19 #[.slice A n c] w fun e w' => OkEnd xs e ∧ w = w' := by
  obtain ⟨hlen, hn, hr, _⟩ := h
  have Hlen := Lib.hid hlen
  have Hr := Lib.hid hr
  clear hlen hr
  by_cases h60 : 60 < (n : Int)
  · have hfin := Lib.hid (okNo (xs := xs) (fun h => by have := h.2; rw [Hlen.out] at this; omega))
    go_enter Tryd.func19, Tryd.ntmps19
    go_wp2_with fail
    go_ret
    exact ⟨hfin.out, rfl⟩
  go_enter Tryd.func19, Tryd.ntmps19
  go_wp2_with fail
  go_loop [4, 10] (fun _ y => ∃ k : Nat, k ≤ n ∧ y = .int .i64 k ∧ Hid (InR (xs.take k))) (fun _ y => n - (intOf y).toNat)
  case atStart => exact ⟨0, Nat.zero_le _, rfl, by simpa using Lib.hid InR.nil⟩
  case round =>
    obtain ⟨k, hk, rfl, hin⟩ := hrel
    by_cases hlt : k < n
    · have hkx : k < xs.length := by rw [Hlen.out]; exact hlt
      obtain ⟨b, o, rfl, hb, hc⟩ := Hr.out.at_ (by simp; omega)
      obtain ⟨z, hz⟩ : ∃ z, z = xs[k] := ⟨_, rfl⟩
      have hcell : w.cell? ⟨b, o + k, none⟩ = some (.int .i64 z) := (hc k (by simpa using hkx)).trans (by simp [hz])
      have hi0 : (0 : Int) ≤ (k : Int) := by omega
      have hi1 : (k : Int) < (n : Int) := by omega
      have Hz := Lib.hid hz
      clear hc hz
      by_cases hneg : z < 0
      · have hfin := Lib.hid (okNo (xs := xs) (fun h => not_inR hkx (by rw [← Hz.out]; omega) h.1.1))
        go_wp2_with fail
        go_ret
        exact ⟨hfin.out, rfl⟩
      · by_cases hbig : 1000000000 ≤ z
        · have hfin := Lib.hid (okNo (xs := xs) (fun h => not_inR hkx (by rw [← Hz.out]; omega) h.1.1))
          go_wp2_with fail
          go_ret
          exact ⟨hfin.out, rfl⟩
        · have hnx : Hid (InR (xs.take (k + 1))) := hin.out.snoc_take hkx (by rw [← Hz.out]; omega) (by rw [← Hz.out]; omega)
          go_wp2_with fail
          go_round
          case rel => exact ⟨k + 1, by omega, by go_num, hnx⟩
          case measure => simp [intOf]; omega
    · obtain rfl : k = n := by omega
      have hall : Hid (InR xs) := by have := hin.out; rwa [List.take_of_length_le (by rw [Hlen.out]; exact Nat.le_refl _)] at this
      by_cases h0 : k = 0
      · have hfin := Lib.hid (okYes (xs := xs) ⟨⟨hall.out, by rw [List.eq_nil_of_length_eq_zero (Hlen.out.trans h0)]; simp⟩, by rw [Hlen.out]; omega⟩)
        subst h0
        go_wp2_with fail
        go_ret
        exact ⟨hfin.out, rfl⟩
      · obtain ⟨m, rfl⟩ : ∃ m, k = m + 1 := ⟨k - 1, by omega⟩
        have hmx : m < xs.length := by rw [Hlen.out]; omega
        obtain ⟨b, o, rfl, hb, hc⟩ := Hr.out.at_ (by simp; omega)
        obtain ⟨z, hz⟩ : ∃ z, z = xs[m] := ⟨_, rfl⟩
        have hcell : w.cell? ⟨b, o + m, none⟩ = some (.int .i64 z) := (hc m (by simpa using hmx)).trans (by simp [hz])
        have hla := last_at Hlen.out
        rw [← hz] at hla
        have hne : (((m + 1 : Nat) : Int) == 0) = false := by simp; omega
        have hne2 : ((m : Int) + 1 == 0) = false := by simp; omega
        clear hc hz h0
        by_cases hz0 : z = 0
        · have hfin := Lib.hid (okNo (xs := xs) (fun h => h.1.2 (by rw [hla, hz0])))
          subst hz0
          clear hla
          go_wp2_with fail
          go_ret
          exact ⟨hfin.out, rfl⟩
        · have hfin := Lib.hid (okYes (xs := xs) ⟨⟨hall.out, by rw [hla]; simpa using hz0⟩, by rw [Hlen.out]; omega⟩)
          have hz1 : (z == 0) = false := by simpa using hz0
          have hz2 : (z != 0) = true := by simpa using hz0
          clear hla hz0
          go_wp2_with fail
          go_ret
          exact ⟨hfin.out, rfl⟩
theorem impl_natOk (A : Option Addr) (n c : Nat) (xs : List Int) (w : World) (h : InI w A n xs) :
    Calls Tryd.prog 19 #[.slice A n c] w fun e w' => ∃ b, e = .returned (.bool b) ∧ NatOkIs xs b ∧ Below w.heap.size w w' :=
  (impl_natOk' A n c xs w h).mono fun _ _ ⟨⟨b, he, hi⟩, hw⟩ => ⟨b, he, hi, by subst hw; exact Below.refl _ _⟩


theorem quiet_left {P : Program} {f : FuncId} {args : Array Value} {w : World} {n : Nat} {v : Value}
    (h : Calls P f args (w.drewN n) fun e w' => e = .returned v ∧ w.drewN n = w') : Calls P f args (w.drewN n) fun e w'' => e = .returned v ∧ ∃ m, w'' = w.drewN m :=
  h.mono fun _ _ ⟨he, hm⟩ => ⟨he, n, hm.symm⟩
theorem quiet_add_left {P : Program} {f : FuncId} {args : Array Value} {w : World} {a n : Nat} {v : Value}
    (h : Calls P f args (w.drewN (a + n)) fun e w' => e = .returned v ∧ w.drewN (a + n) = w') :
    Calls P f args (w.drewN (a + n)) fun e w'' => e = .returned v ∧ ∃ m, w'' = w.drewN (a + m) :=
  h.mono fun _ _ ⟨he, hm⟩ => ⟨he, n, hm.symm⟩


end Go.Proofs.YtjjbgpgpacopjaaDoor
