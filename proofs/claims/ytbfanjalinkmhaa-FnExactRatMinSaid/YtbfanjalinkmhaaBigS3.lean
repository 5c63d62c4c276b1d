/- Contracts of the model's big integers: comparison, floor division. -/
import Derived.Test.YtbfanjalinkmhaaBigS2
namespace Go.Proofs.Ytbfanjalinkmhaa
set_option maxRecDepth 100000
open Go.RowKit

set_option maxHeartbeats 1600000 in
theorem spec_bigCmp (g1 : Bool) (A1 : Option Addr) (n1 c1 : Nat) (xs : List Int) (g2 : Bool) (A2 : Option Addr) (n2 c2 : Nat) (ys : List Int) (w : World) (h1 : InI w A1 n1 xs) (h2 : InI w A2 n2 ys) (k1 : BOk g1 xs) (k2 : BOk g2 ys) :
    Calls Try.prog 120 #[.agg #[.bool g1, .slice A1 n1 c1], .agg #[.bool g2, .slice A2 n2 c2]] w fun e w' => e = .returned (.int .i64 (cmpV (bval g1 xs) (bval g2 ys))) ∧ Below w.heap.size w w' := by
  have HI1 := h1
  have HI2 := h2
  cases g1 <;> cases g2
  · clear HI1 HI2
    have hx0_0 := Lib.hid ((by have := Box.new w 29 #[.bool false, .slice A1 n1 c1]; simpa using this : Box (w.alloc (.cells #[.bool false, .slice A1 n1 c1] 29)) (w.heap.size) 29 #[.bool false, .slice A1 n1 c1]).alloc (.cells #[.bool false, .slice A2 n2 c2] 29))
    have hx1_0 := Lib.hid (by have := Box.new (w.alloc (.cells #[.bool false, .slice A1 n1 c1] 29)) 29 #[.bool false, .slice A2 n2 c2]; simpa using this : Box ((w.alloc (.cells #[.bool false, .slice A1 n1 c1] 29)).alloc (.cells #[.bool false, .slice A2 n2 c2] 29)) (w.heap.size + 1) 29 #[.bool false, .slice A2 n2 c2])
    have BW_0 := Lib.hid (((Below.refl w.heap.size w).alloc (by simp) (.cells #[.bool false, .slice A1 n1 c1] 29)).alloc (by simp) (.cells #[.bool false, .slice A2 n2 c2] 29))
    have HI1 := Lib.hid (h1.below BW_0.out)
    have HI2 := Lib.hid (h2.below BW_0.out)
    have K1 := Lib.hid k1
    have K2 := Lib.hid k2
    clear h1 h2 k1 k2
    go_enter Try.func120, Try.ntmps120
    go_wp2_with fail
    refine (spec_cmp A1 n1 c1 xs A2 n2 c2 ys _ HI1.out.canon HI2.out.canon K1.out.1.1 K2.out.1.1).mono ?_
    rintro e w1 ⟨rfl, hb⟩
    have BW_1 := Lib.hid (BW_0.out.trans (hb.mono BW_0.out.size))
    clear hb
    go_wp2_with fail
    go_ret
    exact ⟨rfl, BW_1.out⟩
  · clear HI1 HI2
    have hx0_0 := Lib.hid ((by have := Box.new w 29 #[.bool false, .slice A1 n1 c1]; simpa using this : Box (w.alloc (.cells #[.bool false, .slice A1 n1 c1] 29)) (w.heap.size) 29 #[.bool false, .slice A1 n1 c1]).alloc (.cells #[.bool true, .slice A2 n2 c2] 29))
    have hx1_0 := Lib.hid (by have := Box.new (w.alloc (.cells #[.bool false, .slice A1 n1 c1] 29)) 29 #[.bool true, .slice A2 n2 c2]; simpa using this : Box ((w.alloc (.cells #[.bool false, .slice A1 n1 c1] 29)).alloc (.cells #[.bool true, .slice A2 n2 c2] 29)) (w.heap.size + 1) 29 #[.bool true, .slice A2 n2 c2])
    have BW_0 := Lib.hid (((Below.refl w.heap.size w).alloc (by simp) (.cells #[.bool false, .slice A1 n1 c1] 29)).alloc (by simp) (.cells #[.bool true, .slice A2 n2 c2] 29))
    have hfin : Hid (cmpV (bval false xs) (bval true ys) = 1) := cmpV_gt (by have := k1.nonneg; have := k2.pos; simp only [bval]; simp; omega)
    go_enter Try.func120, Try.ntmps120
    go_wp2_with fail
    go_ret
    exact ⟨ret_int hfin.out.symm, BW_0.out⟩
  · clear HI1 HI2
    have hx0_0 := Lib.hid ((by have := Box.new w 29 #[.bool true, .slice A1 n1 c1]; simpa using this : Box (w.alloc (.cells #[.bool true, .slice A1 n1 c1] 29)) (w.heap.size) 29 #[.bool true, .slice A1 n1 c1]).alloc (.cells #[.bool false, .slice A2 n2 c2] 29))
    have hx1_0 := Lib.hid (by have := Box.new (w.alloc (.cells #[.bool true, .slice A1 n1 c1] 29)) 29 #[.bool false, .slice A2 n2 c2]; simpa using this : Box ((w.alloc (.cells #[.bool true, .slice A1 n1 c1] 29)).alloc (.cells #[.bool false, .slice A2 n2 c2] 29)) (w.heap.size + 1) 29 #[.bool false, .slice A2 n2 c2])
    have BW_0 := Lib.hid (((Below.refl w.heap.size w).alloc (by simp) (.cells #[.bool true, .slice A1 n1 c1] 29)).alloc (by simp) (.cells #[.bool false, .slice A2 n2 c2] 29))
    have hfin : Hid (cmpV (bval true xs) (bval false ys) = -1) := cmpV_lt (by have := k1.pos; have := k2.nonneg; simp only [bval]; simp; omega)
    go_enter Try.func120, Try.ntmps120
    go_wp2_with fail
    go_ret
    exact ⟨ret_int hfin.out.symm, BW_0.out⟩
  · clear HI1 HI2
    have hx0_0 := Lib.hid ((by have := Box.new w 29 #[.bool true, .slice A1 n1 c1]; simpa using this : Box (w.alloc (.cells #[.bool true, .slice A1 n1 c1] 29)) (w.heap.size) 29 #[.bool true, .slice A1 n1 c1]).alloc (.cells #[.bool true, .slice A2 n2 c2] 29))
    have hx1_0 := Lib.hid (by have := Box.new (w.alloc (.cells #[.bool true, .slice A1 n1 c1] 29)) 29 #[.bool true, .slice A2 n2 c2]; simpa using this : Box ((w.alloc (.cells #[.bool true, .slice A1 n1 c1] 29)).alloc (.cells #[.bool true, .slice A2 n2 c2] 29)) (w.heap.size + 1) 29 #[.bool true, .slice A2 n2 c2])
    have BW_0 := Lib.hid (((Below.refl w.heap.size w).alloc (by simp) (.cells #[.bool true, .slice A1 n1 c1] 29)).alloc (by simp) (.cells #[.bool true, .slice A2 n2 c2] 29))
    have hfin : Hid (cmpV (bval true xs) (bval true ys) = cmpV (val ys) (val xs)) := cmp_neg _ _
    have HI1 := Lib.hid (h1.below BW_0.out)
    have HI2 := Lib.hid (h2.below BW_0.out)
    have K1 := Lib.hid k1
    have K2 := Lib.hid k2
    clear h1 h2 k1 k2
    go_enter Try.func120, Try.ntmps120
    go_wp2_with fail
    refine (spec_cmp A2 n2 c2 ys A1 n1 c1 xs _ HI2.out.canon HI1.out.canon K2.out.1.1 K1.out.1.1).mono ?_
    rintro e w1 ⟨rfl, hb⟩
    have BW_1 := Lib.hid (BW_0.out.trans (hb.mono BW_0.out.size))
    clear hb
    go_wp2_with fail
    go_ret
    exact ⟨ret_int hfin.out.symm, BW_1.out⟩

def BCmpEnd (g1 : Bool) (xs : List Int) (g2 : Bool) (ys : List Int) (w w' : World) (e : Ending) : Prop := ∃ r, e = .returned (.int .i64 r) ∧ BigIntCmpIs g1 xs g2 ys r ∧ Below w.heap.size w w'
theorem bcmp_no {g1 g2 : Bool} {xs ys : List Int} {w w' : World} (h : ¬ (BOk g1 xs ∧ BOk g2 ys)) (hb : Below w.heap.size w w') : BCmpEnd g1 xs g2 ys w w' (.returned (.int .i64 0)) := ⟨0, rfl, .inr ⟨h, rfl⟩, hb⟩
theorem bcmp_yes {g1 g2 : Bool} {xs ys : List Int} {w w' : World} {r : Int} (h1 : BOk g1 xs) (h2 : BOk g2 ys) (hr : r = cmpV (bval g1 xs) (bval g2 ys)) (hb : Below w.heap.size w w') : BCmpEnd g1 xs g2 ys w w' (.returned (.int .i64 r)) := ⟨r, rfl, .inl ⟨⟨h1, h2⟩, hr⟩, hb⟩
end Go.Proofs.Ytbfanjalinkmhaa
