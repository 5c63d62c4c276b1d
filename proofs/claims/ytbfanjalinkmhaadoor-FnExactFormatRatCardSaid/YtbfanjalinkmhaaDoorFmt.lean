/- Contracts of FormatInt: the model's and the program's. -/
import Derived.Test.YtbfanjalinkmhaaDoorMem
import Derived.Test.YtbfanjalinkmhaaDoorNum
import Derived.Deep.RegionWith
import Derived.Lib.ItoaLen
namespace Go.Proofs.YtbfanjalinkmhaaDoor
set_option maxRecDepth 100000
open Go.RowKit

theorem itoa_neg_one {u : Nat} (h0 : 0 < u) (h : u < 10) : Lib.itoa (-(u : Int)) = [45, UInt8.ofNat (48 + u)] := by
  rw [Lib.itoa_neg u h0, Lib.decDigits_one h]
theorem itoa_neg_more {u : Nat} (h : ¬ u < 10) : Lib.itoa (-(u : Int)) = Lib.itoa (-((u / 10 : Nat) : Int)) ++ [UInt8.ofNat (48 + u % 10)] := by
  rw [Lib.itoa_neg u (by omega), Lib.itoa_neg (u / 10) (by omega), decDigits_last h]; rfl
def itoaB (n : Int) : ByteArray := ⟨(Lib.itoa n).toArray⟩

theorem one_byte (n : Nat) (hn : n < 256) (w : World) : (convert 59 9 (.slice (some ⟨w.heap.size, 0, none⟩) 1 1)).run Tryd.prog (w.alloc (.cells #[.int .u8 n] 5)) = .ok (.string ⟨#[UInt8.ofNat n]⟩) (w.alloc (.cells #[.int .u8 n] 5)) :=
  run_one_byte (P := Tryd.prog) 59 9 5 5 Tryd.underlying59 Tryd.underlying5 Tryd.underlying9 n hn w
theorem ba_cons (a b : UInt8) : (⟨#[a]⟩ : ByteArray) ++ ⟨#[b]⟩ = ⟨[a, b].toArray⟩ := ByteArray.mk_append_mk [a] [b]
theorem ba_snoc (l : List UInt8) (b : UInt8) : (⟨l.toArray⟩ : ByteArray) ++ ⟨#[b]⟩ = ⟨(l ++ [b]).toArray⟩ := ByteArray.mk_append_mk l [b]
theorem itoaB_size (n : Int) (h0 : -9223372036854775808 ≤ n) (h1 : n ≤ 9223372036854775807) : (itoaB n).size ≤ 21 := by
  show (Lib.itoa n).toArray.size ≤ 21
  simpa using Lib.itoa_length_le n h0 h1
theorem dec_more {k : Nat} {out : List UInt8} (h : ¬ k < 10) : Lib.decDigits (k / 10) ++ ((48 + UInt8.ofNat (k % 10)) :: out) = Lib.decDigits k ++ out := by
  rw [decDigits_last h, List.append_assoc]; simp
theorem dec_last {k : Nat} {out : List UInt8} (h : k < 10) : (48 + UInt8.ofNat k) :: out = Lib.decDigits k ++ out := by
  rw [Lib.decDigits_one h]; simp
set_option maxHeartbeats 1000000 in
theorem spec_formatNeg (k : Nat) : ∀ (u : Nat) (w : World), 0 < u → u < 10 ^ (k + 1) → u ≤ 9223372036854775808 →
    Calls Tryd.prog 25 #[.int .i64 (-(u : Int))] w fun e w' => e = .returned (.string (itoaB (-(u : Int)))) ∧ Below w.heap.size w w' := by
  induction k with
  | zero =>
    intro u w h0 h1 h2
    have h1 : u < 10 := by simpa using h1
    have hcv := one_byte (48 + u) (by omega) w
    have e1 : (((48 + u : Nat)) : Int) = 48 + (u : Int) := by omega
    rw [e1] at hcv
    have hneg : -(u : Int) < 0 := by omega
    have hz : (-((u : Int) / 10) == 0) = true := by simp; omega
    have hfin : Hid ((⟨#[45]⟩ : ByteArray) ++ ⟨#[48 + UInt8.ofNat u]⟩ = itoaB (-(u : Int))) := by
      unfold Hid itoaB
      rw [ba_cons, itoa_neg_one h0 h1]; simp
    clear e1
    go_enter Tryd.func25, Tryd.ntmps25
    go_wp2_with fail
    go_ret
    exact ⟨ret_str hfin.out, (Below.refl _ _).alloc (Nat.le_refl _) _⟩
  | succ k ih =>
    intro u w h0 h1 h2
    by_cases hs : u < 10 ^ (k + 1)
    · exact ih u w h0 hs h2
    have hs10 : ¬ u < 10 := fun h => hs (Nat.lt_of_lt_of_le h (by rw [Nat.pow_succ]; have := Nat.pow_pos (n := k) (show 0 < 10 by omega); omega))
    have hu : u / 10 < 10 ^ (k + 1) := by rw [Nat.pow_succ] at h1; omega
    obtain ⟨X, hX⟩ : ∃ X, X = itoaB (-((u / 10 : Nat) : Int)) := ⟨_, rfl⟩
    have IH : Hid (∀ (w : World), Calls Tryd.prog 25 #[.int .i64 (-((u : Int) / 10))] w fun e w' => e = .returned (.string X) ∧ Below w.heap.size w w') :=
      Lib.hid (by
        intro w
        have hx : -((u : Int) / 10) = -((u / 10 : Nat) : Int) := by omega
        rw [hx, hX]
        exact ih (u / 10) w (by omega) hu (by omega))
    have hcv := fun (b : Nat) (w : World) => run_byte_at (P := Tryd.prog) 59 9 5 Tryd.underlying59 Tryd.underlying5 Tryd.underlying9 (48 + u % 10) (by omega) b w
    have e1 : (((48 + u % 10 : Nat)) : Int) = 48 + (u : Int) % 10 := by omega
    rw [e1] at hcv
    have hneg : -(u : Int) < 0 := by omega
    have hz : (-((u : Int) / 10) == 0) = false := by simp; omega
    have hsz : X.size ≤ 21 := by rw [hX]; exact itoaB_size (-((u / 10 : Nat) : Int)) (by omega) (by omega)
    have hfit : ¬ 9223372036854775807 < X.size + 1 := by omega
    have hfin : Hid (X ++ ⟨#[48 + UInt8.ofNat (u % 10)]⟩ = itoaB (-(u : Int))) := by
      unfold Hid itoaB
      rw [hX]; unfold itoaB
      rw [ba_snoc, itoa_neg_more hs10]; simp
    clear hX
    have q1 : IntKind.i64.wrap (-((u : Int) / 10)) = -((u : Int) / 10) := IntWalk.i64_in _ (by omega)
    have q2 : (u : Int).tmod 10 = (u : Int) % 10 := Int.tmod_eq_emod_of_nonneg (by omega)
    have q3 : IntKind.i64.wrap (48 + (u : Int) % 10) = 48 + (u : Int) % 10 := IntWalk.i64_in _ (by omega)
    have q4 : IntKind.u8.wrap (48 + (u : Int) % 10) = 48 + (u : Int) % 10 := IntWalk.u8_in _ (by omega)
    clear e1 ih hs h1 hu
    go_enter Tryd.func25, Tryd.ntmps25
    go_wp2_with fail
    go_region_with (go_at_call 25; refine (IH.out _).mono ?_; rintro e w1 ⟨rfl, hb1⟩; obtain ⟨hc1, hf1⟩ := bcell hb1)
    all_goals clear q1 q2 q3 q4 hcv
    all_goals go_wp2_with fail
    all_goals go_ret
    all_goals refine ⟨ret_str hfin.out, ?_⟩
    all_goals first
      | exact ((((Below.refl w.heap.size w).drew).trans (hb1.mono (Nat.le_refl _))).alloc hb1.size _)
      | exact ((((Below.refl w.heap.size w).drew).alloc (Nat.le_refl _) _).trans (hb1.mono (by simp)))
      | exact ((((Below.refl w.heap.size w).alloc (Nat.le_refl _) _).drew).trans (hb1.mono (by simp)))
set_option maxHeartbeats 1000000 in
theorem spec_formatPos (N : Nat) (w : World) (hN : N ≤ 9223372036854775807) :
    Calls Tryd.prog 25 #[.int .i64 (N : Int)] w fun e w' => e = .returned (.string (itoaB (N : Int))) ∧ Below w.heap.size w w' := by
  have hlen := itoaB_size (N : Int) (by omega) (by omega)
  have hit : itoaB (N : Int) = ⟨(Lib.decDigits N).toArray⟩ := by unfold itoaB; rw [Lib.itoa_nonneg]
  have hl2 : (Lib.decDigits N).length ≤ 21 := by
    rw [hit] at hlen
    have : (Lib.decDigits N).toArray.size ≤ 21 := hlen
    simpa using this
  have Hit := Lib.hid hit
  clear hit hlen
  go_enter Tryd.func25, Tryd.ntmps25
  go_wp2_with fail
  go_loopw [0, 3] (fun x s wr => ∃ (k : Nat) (out : List UInt8), k ≤ N ∧ out.length ≤ 21 ∧ x = .int .i64 k ∧ s = .string ⟨out.toArray⟩ ∧ Hid (Lib.decDigits k ++ out = Lib.decDigits N) ∧ Hid (Below w.heap.size w wr)) (fun x _ _ => (intOf x).toNat)
  case atStart => exact ⟨N, [], Nat.le_refl _, by simp, rfl, rfl, List.append_nil _, Below.refl _ _⟩
  case round =>
    obtain ⟨k, out, hk, hlo, rfl, rfl, heq, hb⟩ := hrel
    by_cases h10 : k < 10
    · have hcv := one_byte (48 + k) (by omega) wr
      have e1 : (((48 + k : Nat)) : Int) = 48 + (k : Int) := by omega
      rw [e1] at hcv
      have hk9 : (k : Int) ≤ 9 := by omega
      have hfin : Hid ((⟨#[48 + UInt8.ofNat k]⟩ : ByteArray) ++ ⟨out.toArray⟩ = itoaB (N : Int)) := by
        unfold Hid
        rw [Hit.out, ← heq.out, ← dec_last h10]
        exact ByteArray.mk_append_mk [_] out
      clear e1
      go_wp2_with fail
      go_ret
      exact ⟨ret_str hfin.out, hb.out.alloc hb.out.size _⟩
    · have hcv := one_byte (48 + k % 10) (by omega) wr
      have e1 : (((48 + k % 10 : Nat)) : Int) = 48 + (k : Int) % 10 := by omega
      rw [e1] at hcv
      have hk9 : 9 < (k : Int) := by omega
      have hnx : Hid (Lib.decDigits (k / 10) ++ ((48 + UInt8.ofNat (k % 10)) :: out) = Lib.decDigits N) := (dec_more h10).trans heq.out
      have hl3 : ((48 + UInt8.ofNat (k % 10)) :: out).length ≤ 21 := by
        have := congrArg List.length hnx.out
        rw [List.length_append] at this; omega
      have Hl3 := Lib.hid hl3
      clear e1 hl3
      go_wp2_with fail
      go_roundw
      case rel => exact ⟨k / 10, (48 + UInt8.ofNat (k % 10)) :: out, by omega, Hl3.out, by go_num, congrArg Value.string (ByteArray.mk_append_mk [_] out), hnx, hb.out.alloc hb.out.size _⟩
      case measure => simp [intOf]; omega
theorem spec_formatInt (n : Int) (w : World) (h0 : -9223372036854775808 ≤ n) (h1 : n ≤ 9223372036854775807) :
    Calls Tryd.prog 25 #[.int .i64 n] w fun e w' => e = .returned (.string (itoaB n)) ∧ Below w.heap.size w w' := by
  by_cases hn : n < 0
  · obtain ⟨u, rfl⟩ : ∃ u : Nat, n = -(u : Int) := ⟨n.natAbs, by omega⟩
    exact spec_formatNeg 18 u w (by omega) (by omega) (by omega)
  · obtain ⟨u, rfl⟩ := Int.eq_ofNat_of_zero_le (a := n) (by omega)
    exact spec_formatPos u w (by omega)
end Go.Proofs.YtbfanjalinkmhaaDoor
