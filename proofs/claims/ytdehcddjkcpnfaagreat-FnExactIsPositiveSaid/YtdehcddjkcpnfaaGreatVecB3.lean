/- Contracts of vectors: the inner product, by the model. -/
import Derived.Test.YtdehcddjkcpnfaaGreatVecB
import Derived.Test.YtdehcddjkcpnfaaGreatGW
import Derived.Deep.RegionWith
namespace Go.Proofs.YtdehcddjkcpnfaaGreat
set_option maxRecDepth 100000
open Go.RowKit

def NilEnd (xs : List Int) (w w' : World) (e : Ending) : Prop := ∃ b, e = .returned (.bool b) ∧ (b = true ↔ xs = []) ∧ Below w.heap.size w w'
set_option maxHeartbeats 800000 in
theorem spec_l05Nil (g : Bool) (A : Option Addr) (n c : Nat) (xs : List Int) (B : Option Addr) (m d : Nat) (w : World) (hm : xs.length = n) (_hb : n ≤ 1048576) :
    Calls Tryz.prog 145 #[.agg #[.bool g, .slice A n c, .slice B m d]] w fun e w' => NilEnd xs w w' e := by
  obtain ⟨t, ht⟩ : ∃ t, ((n : Int) == 0) = t := ⟨_, rfl⟩
  have HQ : Hid (t = true ↔ xs = []) := by
    unfold Hid
    rw [← ht, beq_iff_eq]
    exact ⟨fun h => List.eq_nil_of_length_eq_zero (by omega), fun h => by rw [h] at hm; simp at hm; omega⟩
  clear hm
  go_enter Tryz.func145, Tryz.ntmps145
  go_wp2_with fail
  go_ret
  exact ⟨t, rfl, HQ.out, (Below.refl _ _).alloc (Nat.le_refl _) _⟩
theorem in_gr {w : World} {base c : Nat} {A : Option Addr} {r : List Int} (hl : r.length ≤ 24) (hr : InR r) (ho : w.ownsRow base 3 1 (.slice A r.length c) r.length (r.map (.int .i64))) : InI w A r.length r := ⟨rfl, by omega, Reads.of_own ho, limbs_bd hr⟩
end Go.Proofs.YtdehcddjkcpnfaaGreat
