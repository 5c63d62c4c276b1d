/- Contracts of matrices: equality, by the model and by the program. -/
import Derived.Test.YtdehcddjkcpnfaaGreatMatC
import Derived.Test.YtdehcddjkcpnfaaGreatVecE2
namespace Go.Proofs.YtdehcddjkcpnfaaGreat
set_option maxRecDepth 100000
open Go.RowKit

set_option maxHeartbeats 1600000 in
theorem spec_equalMatrices0 (p k : Int) (A : Option Addr) (n c : Nat) (rs : List RD) (q j : Int) (B : Option Addr) (m d : Nat) (ss : List RD) (w : World) (h1 : InV w A n rs) (h2 : InV w B m ss) :
    Calls Tryz.prog 139 #[.agg #[.int .i64 p, .int .i64 k, .slice A n c], .agg #[.int .i64 q, .int .i64 j, .slice B m d]] w fun e w' => EqMEnd p k rs q j ss w w' e := by
  obtain ⟨W0, hW0⟩ : ∃ W, W = ((w.alloc (.cells #[.int .i64 p, .int .i64 k, .slice A n c] 47)).alloc (.cells #[.int .i64 q, .int .i64 j, .slice B m d] 47)) := ⟨_, rfl⟩
  have hm0_0 : Hid (Box W0 (w.heap.size) 47 #[.int .i64 p, .int .i64 k, .slice A n c]) := by rw [hW0]; exact ((Box.at' (by simp)).alloc _)
  have hm1_0 : Hid (Box W0 (w.heap.size + 1) 47 #[.int .i64 q, .int .i64 j, .slice B m d]) := by rw [hW0]; exact (Box.at' (by simp))
  have BW_0 : Hid (Below w.heap.size w W0) := by rw [hW0]; exact (((Below.refl w.heap.size w).alloc (by simp) _).alloc (by simp) _)
  have hsz0 : w.heap.size + 1 + 1 ≤ W0.heap.size := by rw [hW0]; simp
  have H1 := Lib.hid (h1.below BW_0.out)
  have H2 := Lib.hid (h2.below BW_0.out)
  clear h1 h2
  have hno : Hid (¬ (p = q ∧ k = j ∧ rs = ss) → EqualMatricesIs p k rs q j ss false) := fun h => ⟨fun k => (by cases k), fun k => absurd k h⟩
  by_cases hpq : (p == q) = false
  · have HF : Hid (∀ W, Below w.heap.size w W → EqMEnd p k rs q j ss w W (.returned (.bool false))) := fun W hW => ⟨false, rfl, hno.out fun h => by simp at hpq; exact hpq h.1, hW⟩
    clear hno
    go_enter Tryz.func139, Tryz.ntmps139
    go_wp2_with fail
    rw [← hW0]
    clear hW0
    go_ret
    exact HF.out _ BW_0.out
  by_cases hkj : (k == j) = false
  · have HF : Hid (∀ W, Below w.heap.size w W → EqMEnd p k rs q j ss w W (.returned (.bool false))) := fun W hW => ⟨false, rfl, hno.out fun h => by simp at hkj; exact hkj h.2.1, hW⟩
    have hpq2 : (p == q) = true := by simpa using hpq
    clear hno hpq
    go_enter Tryz.func139, Tryz.ntmps139
    go_wp2_with fail
    rw [← hW0]
    clear hW0
    go_ret
    exact HF.out _ BW_0.out
  have hpq2 : (p == q) = true := by simpa using hpq
  have hkj2 : (k == j) = true := by simpa using hkj
  have HPQ : Hid (p = q) := Lib.hid (by simpa using hpq2)
  have HKJ : Hid (k = j) := Lib.hid (by simpa using hkj2)
  clear hno hpq hkj
  go_enter Tryz.func139, Tryz.ntmps139
  go_wp2_with fail
  rw [← hW0]
  clear hW0
  refine (spec_equalVectors0 A n c rs B m d ss _ H1.out H2.out).mono ?_
  rintro e w1 ⟨b, rfl, hq, hb⟩
  have HF : Hid (EqMEnd p k rs q j ss w w1 (.returned (.bool b))) := ⟨b, rfl, by
    unfold EqualMatricesIs
    rw [show b = true ↔ rs = ss from hq]
    exact ⟨fun h => ⟨HPQ.out, HKJ.out, h⟩, fun h => h.2.2⟩, BW_0.out.trans (hb.mono BW_0.out.size)⟩
  clear hq hb
  go_wp2_with fail
  go_ret
  exact HF.out
set_option maxHeartbeats 1600000 in
theorem impl_equalMatrices0 (p k : Int) (A : Option Addr) (n c : Nat) (rs : List RD) (q j : Int) (B : Option Addr) (m d : Nat) (ss : List RD) (w : World) (h1 : InV w A n rs) (h2 : InV w B m ss) :
    Calls Tryz.prog 45 #[.agg #[.int .i64 p, .int .i64 k, .slice A n c], .agg #[.int .i64 q, .int .i64 j, .slice B m d]] w fun e w' => EqMEnd p k rs q j ss w w' e := by
  obtain ⟨W0, hW0⟩ : ∃ W, W = ((w.alloc (.cells #[.int .i64 p, .int .i64 k, .slice A n c] 47)).alloc (.cells #[.int .i64 q, .int .i64 j, .slice B m d] 47)) := ⟨_, rfl⟩
  have hm0_0 : Hid (Box W0 (w.heap.size) 47 #[.int .i64 p, .int .i64 k, .slice A n c]) := by rw [hW0]; exact ((Box.at' (by simp)).alloc _)
  have hm1_0 : Hid (Box W0 (w.heap.size + 1) 47 #[.int .i64 q, .int .i64 j, .slice B m d]) := by rw [hW0]; exact (Box.at' (by simp))
  have BW_0 : Hid (Below w.heap.size w W0) := by rw [hW0]; exact (((Below.refl w.heap.size w).alloc (by simp) _).alloc (by simp) _)
  have hsz0 : w.heap.size + 1 + 1 ≤ W0.heap.size := by rw [hW0]; simp
  have H1 := Lib.hid (h1.below BW_0.out)
  have H2 := Lib.hid (h2.below BW_0.out)
  clear h1 h2
  have hno : Hid (¬ (p = q ∧ k = j ∧ rs = ss) → EqualMatricesIs p k rs q j ss false) := fun h => ⟨fun k => (by cases k), fun k => absurd k h⟩
  by_cases hpq : (p == q) = false
  · have HF : Hid (∀ W, Below w.heap.size w W → EqMEnd p k rs q j ss w W (.returned (.bool false))) := fun W hW => ⟨false, rfl, hno.out fun h => by simp at hpq; exact hpq h.1, hW⟩
    clear hno
    go_enter Tryz.func45, Tryz.ntmps45
    go_wp2_with fail
    rw [← hW0]
    clear hW0
    go_ret
    exact HF.out _ BW_0.out
  by_cases hkj : (k == j) = false
  · have HF : Hid (∀ W, Below w.heap.size w W → EqMEnd p k rs q j ss w W (.returned (.bool false))) := fun W hW => ⟨false, rfl, hno.out fun h => by simp at hkj; exact hkj h.2.1, hW⟩
    have hpq2 : (p == q) = true := by simpa using hpq
    clear hno hpq
    go_enter Tryz.func45, Tryz.ntmps45
    go_wp2_with fail
    rw [← hW0]
    clear hW0
    go_ret
    exact HF.out _ BW_0.out
  have hpq2 : (p == q) = true := by simpa using hpq
  have hkj2 : (k == j) = true := by simpa using hkj
  have HPQ : Hid (p = q) := Lib.hid (by simpa using hpq2)
  have HKJ : Hid (k = j) := Lib.hid (by simpa using hkj2)
  clear hno hpq hkj
  go_enter Tryz.func45, Tryz.ntmps45
  go_wp2_with fail
  rw [← hW0]
  clear hW0
  refine (impl_equalVectors0 A n c rs B m d ss _ H1.out H2.out).mono ?_
  rintro e w1 ⟨b, rfl, hq, hb⟩
  have HF : Hid (EqMEnd p k rs q j ss w w1 (.returned (.bool b))) := ⟨b, rfl, by
    unfold EqualMatricesIs
    rw [show b = true ↔ rs = ss from hq]
    exact ⟨fun h => ⟨HPQ.out, HKJ.out, h⟩, fun h => h.2.2⟩, BW_0.out.trans (hb.mono BW_0.out.size)⟩
  clear hq hb
  go_wp2_with fail
  go_ret
  exact HF.out
end Go.Proofs.YtdehcddjkcpnfaaGreat
