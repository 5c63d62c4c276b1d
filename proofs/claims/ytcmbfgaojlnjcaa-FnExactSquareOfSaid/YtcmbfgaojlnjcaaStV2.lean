/- VectorOf, SquareOf, by the program and by the model, as the laws take them. -/
import Derived.Test.YtcmbfgaojlnjcaaStV
namespace Go.Proofs.Ytcmbfgaojlnjcaa
set_option maxRecDepth 100000
open Go.RowKit

theorem vec_bound {js : List JD} {ms : List MD} {k x y : Int} (h : VectorOfIs js ms k x y) : (-100 ≤ x ∧ x ≤ 100) ∧ -100 ≤ y ∧ y ≤ 100 := by
  rcases h with ⟨ht, kk, mm, p, q, ja, jb, rfl, h2, h3, h4, h5, h6, rfl, rfl⟩ | ⟨_, rfl, rfl⟩
  · have ha := (ht.1.2.1 _ (List.mem_of_getElem? h5)).2
    have hb := (ht.1.2.1 _ (List.mem_of_getElem? h6)).2
    omega
  · omega
theorem sq_bound {x : Int} (h : -100 ≤ x ∧ x ≤ 100) : 0 ≤ x * x ∧ x * x ≤ 10000 := by
  have h1 : x * x = (x.natAbs * x.natAbs : Nat) := by rw [Int.natCast_mul, Int.natAbs_mul_self']
  have h2 : x.natAbs ≤ 100 := by omega
  have h3 := Nat.mul_le_mul h2 h2
  omega
def SquareOfIs (js : List JD) (ms : List MD) (k r : Int) : Prop := ∃ x y, VectorOfIs js ms k x y ∧ r = x * x + y * y
theorem squareOf_unique {js : List JD} {ms : List MD} {k r r' : Int} (h : SquareOfIs js ms k r) (h' : SquareOfIs js ms k r') : r = r' := by
  obtain ⟨x, y, h1, rfl⟩ := h
  obtain ⟨x', y', h2, rfl⟩ := h'
  obtain ⟨rfl, rfl⟩ := vectorOf_unique h1 h2
  rfl
theorem spec_vectorOf (A : Option Addr) (n c : Nat) (js : List JD) (B : Option Addr) (m d : Nat) (ms : List MD) (k : Int) (w : World) (h : InT w A n js B m ms) (_hk : -9223372036854775808 ≤ k ∧ k ≤ 9223372036854775807) :
    Calls Try.prog 40 #[.agg #[.slice A n c, .slice B m d], .int .i64 k] w fun e w' => ∃ x y, e = .returned (.tuple #[.int .i64 x, .int .i64 y]) ∧ VectorOfIs js ms k x y ∧ Below w.heap.size w w' := spec_vectorOf0 A n c js B m d ms k w h
set_option maxHeartbeats 1600000 in
theorem spec_squareOf (A : Option Addr) (n c : Nat) (js : List JD) (B : Option Addr) (m d : Nat) (ms : List MD) (k : Int) (w : World) (h : InT w A n js B m ms) (_hk : -9223372036854775808 ≤ k ∧ k ≤ 9223372036854775807) :
    Calls Try.prog 42 #[.agg #[.slice A n c, .slice B m d], .int .i64 k] w fun e w' => ∃ r, e = .returned (.int .i64 r) ∧ SquareOfIs js ms k r ∧ Below w.heap.size w w' := by
  obtain ⟨W1, hW⟩ : ∃ W, W = w.alloc (.cells #[.slice A n c, .slice B m d] 48) := ⟨_, rfl⟩
  have B0 : Hid (Below w.heap.size w W1) := by rw [hW]; exact (Below.refl _ _).alloc (Nat.le_refl _) _
  have HI := Lib.hid h
  clear h
  go_enter Try.func42, Try.ntmps42
  go_wp2_with fail
  rw [← hW]
  clear hW
  refine (spec_vectorOf0 A n c js B m d ms k _ (HI.out.below B0.out)).mono ?_
  rintro e w1 ⟨x, y, rfl, hq, hb⟩
  have HF : Hid (∃ r, (Ending.returned (.int .i64 (x * x + y * y)) = .returned (.int .i64 r)) ∧ SquareOfIs js ms k r ∧ Below w.heap.size w w1) := ⟨_, rfl, ⟨x, y, hq, rfl⟩, B0.out.trans (hb.mono B0.out.size)⟩
  have hbx := sq_bound (vec_bound hq).1
  have hby := sq_bound (vec_bound hq).2
  have hw1 : IntKind.i64.wrap (x * x) = x * x := by rw [IntKind.wrap_i64]; omega
  have hw2 : IntKind.i64.wrap (y * y) = y * y := by rw [IntKind.wrap_i64]; omega
  have hw3 : IntKind.i64.wrap (x * x + y * y) = x * x + y * y := by rw [IntKind.wrap_i64]; omega
  clear hq hb hbx hby
  go_wp2_with fail
  go_ret
  exact HF.out
theorem impl_vectorOf (A : Option Addr) (n c : Nat) (js : List JD) (B : Option Addr) (m d : Nat) (ms : List MD) (k : Int) (w : World) (h : InT w A n js B m ms) (_hk : -9223372036854775808 ≤ k ∧ k ≤ 9223372036854775807) :
    Calls Try.prog 41 #[.agg #[.slice A n c, .slice B m d], .int .i64 k] w fun e w' => ∃ x y, e = .returned (.tuple #[.int .i64 x, .int .i64 y]) ∧ VectorOfIs js ms k x y ∧ Below w.heap.size w w' := impl_vectorOf0 A n c js B m d ms k w h
set_option maxHeartbeats 1600000 in
theorem impl_squareOf (A : Option Addr) (n c : Nat) (js : List JD) (B : Option Addr) (m d : Nat) (ms : List MD) (k : Int) (w : World) (h : InT w A n js B m ms) (_hk : -9223372036854775808 ≤ k ∧ k ≤ 9223372036854775807) :
    Calls Try.prog 43 #[.agg #[.slice A n c, .slice B m d], .int .i64 k] w fun e w' => ∃ r, e = .returned (.int .i64 r) ∧ SquareOfIs js ms k r ∧ Below w.heap.size w w' := by
  obtain ⟨W1, hW⟩ : ∃ W, W = w.alloc (.cells #[.slice A n c, .slice B m d] 48) := ⟨_, rfl⟩
  have B0 : Hid (Below w.heap.size w W1) := by rw [hW]; exact (Below.refl _ _).alloc (Nat.le_refl _) _
  have HI := Lib.hid h
  clear h
  go_enter Try.func43, Try.ntmps43
  go_wp2_with fail
  rw [← hW]
  clear hW
  refine (impl_vectorOf0 A n c js B m d ms k _ (HI.out.below B0.out)).mono ?_
  rintro e w1 ⟨x, y, rfl, hq, hb⟩
  have HF : Hid (∃ r, (Ending.returned (.int .i64 (x * x + y * y)) = .returned (.int .i64 r)) ∧ SquareOfIs js ms k r ∧ Below w.heap.size w w1) := ⟨_, rfl, ⟨x, y, hq, rfl⟩, B0.out.trans (hb.mono B0.out.size)⟩
  have hbx := sq_bound (vec_bound hq).1
  have hby := sq_bound (vec_bound hq).2
  have hw1 : IntKind.i64.wrap (x * x) = x * x := by rw [IntKind.wrap_i64]; omega
  have hw2 : IntKind.i64.wrap (y * y) = y * y := by rw [IntKind.wrap_i64]; omega
  have hw3 : IntKind.i64.wrap (x * x + y * y) = x * x + y * y := by rw [IntKind.wrap_i64]; omega
  clear hq hb hbx hby
  go_wp2_with fail
  go_ret
  exact HF.out
end Go.Proofs.Ytcmbfgaojlnjcaa
