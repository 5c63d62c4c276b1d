/- Contracts of the model's big integers: comparison, floor division. -/
import Derived.Test.YtjjbgpgpacopjaaBigS2
namespace Go.Proofs.Ytjjbgpgpacopjaa
open Go.RowKit

set_option maxHeartbeats 1600000 in
theorem spec_bigCmp (g1 : Bool) (A1 : Option Addr) (n1 c1 : Nat) (xs : List Int) (g2 : Bool) (A2 : Option Addr) (n2 c2 : Nat) (ys : List Int) (w : World) (h1 : InI w A1 n1 xs) (h2 : InI w A2 n2 ys) (k1 : BOk g1 xs) (k2 : BOk g2 ys) :
    Calls Try.prog 58 #[.agg #[.bool g1, .slice A1 n1 c1], .agg #[.bool g2, .slice A2 n2 c2]] w fun e w' => e = .returned (.int .i64 (cmpV (bval g1 xs) (bval g2 ys))) ∧ Below w.heap.size w w' := by
  have HI1 := h1
  have HI2 := h2
  cases g1 <;> cases g2
  · clear HI1 HI2
    have hx0_0 := Lib.hid ((by have := Box.new w 27 #[.bool false, .slice A1 n1 c1]; simpa using this : Box (w.alloc (.cells #[.bool false, .slice A1 n1 c1] 27)) (w.heap.size) 27 #[.bool false, .slice A1 n1 c1]).alloc (.cells #[.bool false, .slice A2 n2 c2] 27))
    have hx1_0 := Lib.hid (by have := Box.new (w.alloc (.cells #[.bool false, .slice A1 n1 c1] 27)) 27 #[.bool false, .slice A2 n2 c2]; simpa using this : Box ((w.alloc (.cells #[.bool false, .slice A1 n1 c1] 27)).alloc (.cells #[.bool false, .slice A2 n2 c2] 27)) (w.heap.size + 1) 27 #[.bool false, .slice A2 n2 c2])
    have BW_0 := Lib.hid (((Below.refl w.heap.size w).alloc (by simp) (.cells #[.bool false, .slice A1 n1 c1] 27)).alloc (by simp) (.cells #[.bool false, .slice A2 n2 c2] 27))
    have HI1 := Lib.hid (h1.below BW_0.out)
    have HI2 := Lib.hid (h2.below BW_0.out)
    have K1 := Lib.hid k1
    have K2 := Lib.hid k2
    clear h1 h2 k1 k2
    go_enter Try.func58, Try.ntmps58
    go_wp2_with fail
    refine (spec_cmp A1 n1 c1 xs A2 n2 c2 ys _ HI1.out.canon HI2.out.canon K1.out.1.1 K2.out.1.1).mono ?_
    rintro e w1 ⟨rfl, hb⟩
    have BW_1 := Lib.hid (BW_0.out.trans (hb.mono BW_0.out.size))
    clear hb
    go_wp2_with fail
    go_ret
    exact ⟨rfl, BW_1.out⟩
  · clear HI1 HI2
    have hx0_0 := Lib.hid ((by have := Box.new w 27 #[.bool false, .slice A1 n1 c1]; simpa using this : Box (w.alloc (.cells #[.bool false, .slice A1 n1 c1] 27)) (w.heap.size) 27 #[.bool false, .slice A1 n1 c1]).alloc (.cells #[.bool true, .slice A2 n2 c2] 27))
    have hx1_0 := Lib.hid (by have := Box.new (w.alloc (.cells #[.bool false, .slice A1 n1 c1] 27)) 27 #[.bool true, .slice A2 n2 c2]; simpa using this : Box ((w.alloc (.cells #[.bool false, .slice A1 n1 c1] 27)).alloc (.cells #[.bool true, .slice A2 n2 c2] 27)) (w.heap.size + 1) 27 #[.bool true, .slice A2 n2 c2])
    have BW_0 := Lib.hid (((Below.refl w.heap.size w).alloc (by simp) (.cells #[.bool false, .slice A1 n1 c1] 27)).alloc (by simp) (.cells #[.bool true, .slice A2 n2 c2] 27))
    have hfin : Hid (cmpV (bval false xs) (bval true ys) = 1) := cmpV_gt (by have := k1.nonneg; have := k2.pos; simp only [bval]; simp; omega)
    go_enter Try.func58, Try.ntmps58
    go_wp2_with fail
    go_ret
    exact ⟨ret_int hfin.out.symm, BW_0.out⟩
  · clear HI1 HI2
    have hx0_0 := Lib.hid ((by have := Box.new w 27 #[.bool true, .slice A1 n1 c1]; simpa using this : Box (w.alloc (.cells #[.bool true, .slice A1 n1 c1] 27)) (w.heap.size) 27 #[.bool true, .slice A1 n1 c1]).alloc (.cells #[.bool false, .slice A2 n2 c2] 27))
    have hx1_0 := Lib.hid (by have := Box.new (w.alloc (.cells #[.bool true, .slice A1 n1 c1] 27)) 27 #[.bool false, .slice A2 n2 c2]; simpa using this : Box ((w.alloc (.cells #[.bool true, .slice A1 n1 c1] 27)).alloc (.cells #[.bool false, .slice A2 n2 c2] 27)) (w.heap.size + 1) 27 #[.bool false, .slice A2 n2 c2])
    have BW_0 := Lib.hid (((Below.refl w.heap.size w).alloc (by simp) (.cells #[.bool true, .slice A1 n1 c1] 27)).alloc (by simp) (.cells #[.bool false, .slice A2 n2 c2] 27))
    have hfin : Hid (cmpV (bval true xs) (bval false ys) = -1) := cmpV_lt (by have := k1.pos; have := k2.nonneg; simp only [bval]; simp; omega)
    go_enter Try.func58, Try.ntmps58
    go_wp2_with fail
    go_ret
    exact ⟨ret_int hfin.out.symm, BW_0.out⟩
  · clear HI1 HI2
    have hx0_0 := Lib.hid ((by have := Box.new w 27 #[.bool true, .slice A1 n1 c1]; simpa using this : Box (w.alloc (.cells #[.bool true, .slice A1 n1 c1] 27)) (w.heap.size) 27 #[.bool true, .slice A1 n1 c1]).alloc (.cells #[.bool true, .slice A2 n2 c2] 27))
    have hx1_0 := Lib.hid (by have := Box.new (w.alloc (.cells #[.bool true, .slice A1 n1 c1] 27)) 27 #[.bool true, .slice A2 n2 c2]; simpa using this : Box ((w.alloc (.cells #[.bool true, .slice A1 n1 c1] 27)).alloc (.cells #[.bool true, .slice A2 n2 c2] 27)) (w.heap.size + 1) 27 #[.bool true, .slice A2 n2 c2])
    have BW_0 := Lib.hid (((Below.refl w.heap.size w).alloc (by simp) (.cells #[.bool true, .slice A1 n1 c1] 27)).alloc (by simp) (.cells #[.bool true, .slice A2 n2 c2] 27))
    have hfin : Hid (cmpV (bval true xs) (bval true ys) = cmpV (val ys) (val xs)) := cmp_neg _ _
    have HI1 := Lib.hid (h1.below BW_0.out)
    have HI2 := Lib.hid (h2.below BW_0.out)
    have K1 := Lib.hid k1
    have K2 := Lib.hid k2
    clear h1 h2 k1 k2
    go_enter Try.func58, Try.ntmps58
    go_wp2_with fail
    refine (spec_cmp A2 n2 c2 ys A1 n1 c1 xs _ HI2.out.canon HI1.out.canon K2.out.1.1 K1.out.1.1).mono ?_
    rintro e w1 ⟨rfl, hb⟩
    have BW_1 := Lib.hid (BW_0.out.trans (hb.mono BW_0.out.size))
    clear hb
    go_wp2_with fail
    go_ret
    exact ⟨ret_int hfin.out.symm, BW_1.out⟩

def BCmpEnd (g1 : Bool) (xs : List Int) (g2 : Bool) (ys : List Int) (w w' : World) (e : Ending) : Prop := ∃ r, e = .returned (.int .i64 r) ∧ BigIntCmpIs g1 xs g2 ys r ∧ Below w.heap.size w w'
theorem bcmp_no {g1 g2 : Bool} {xs ys : List Int} {w w' : World} (h : ¬ (BOk g1 xs ∧ BOk g2 ys)) (hb : Below w.heap.size w w') : BCmpEnd g1 xs g2 ys w w' (.returned (.int .i64 0)) := ⟨0, rfl, .inr ⟨h, rfl⟩, hb⟩
theorem bcmp_yes {g1 g2 : Bool} {xs ys : List Int} {w w' : World} {r : Int} (h1 : BOk g1 xs) (h2 : BOk g2 ys) (hr : r = cmpV (bval g1 xs) (bval g2 ys)) (hb : Below w.heap.size w w') : BCmpEnd g1 xs g2 ys w w' (.returned (.int .i64 r)) := ⟨r, rfl, .inl ⟨⟨h1, h2⟩, hr⟩, hb⟩
set_option maxHeartbeats 1600000 in
theorem spec_bigIntCmp' (g1 : Bool) (A1 : Option Addr) (n1 c1 : Nat) (xs : List Int) (g2 : Bool) (A2 : Option Addr) (n2 c2 : Nat) (ys : List Int) (w : World) (h1 : InI w A1 n1 xs) (h2 : InI w A2 n2 ys) :
    Calls Try.prog 32 #[.agg #[.bool g1, .slice A1 n1 c1], .agg #[.bool g2, .slice A2 n2 c2]] w fun e w' => BCmpEnd g1 xs g2 ys w w' e := by
  have hx0_0 := Lib.hid ((by have := Box.new w 27 #[.bool g1, .slice A1 n1 c1]; simpa using this : Box (w.alloc (.cells #[.bool g1, .slice A1 n1 c1] 27)) (w.heap.size) 27 #[.bool g1, .slice A1 n1 c1]).alloc (.cells #[.bool g2, .slice A2 n2 c2] 27))
  have hx1_0 := Lib.hid (by have := Box.new (w.alloc (.cells #[.bool g1, .slice A1 n1 c1] 27)) 27 #[.bool g2, .slice A2 n2 c2]; simpa using this : Box ((w.alloc (.cells #[.bool g1, .slice A1 n1 c1] 27)).alloc (.cells #[.bool g2, .slice A2 n2 c2] 27)) (w.heap.size + 1) 27 #[.bool g2, .slice A2 n2 c2])
  have BW_0 := Lib.hid (((Below.refl w.heap.size w).alloc (by simp) (.cells #[.bool g1, .slice A1 n1 c1] 27)).alloc (by simp) (.cells #[.bool g2, .slice A2 n2 c2] 27))
  have hn1 := h1.2.1
  have hn2 := h2.2.1
  have HI1 := Lib.hid (h1.below BW_0.out)
  have HI2 := Lib.hid (h2.below BW_0.out)
  clear h1 h2
  go_enter Try.func32, Try.ntmps32
  go_wp2_with fail
  refine (spec_bigOk' g1 A1 n1 c1 xs _ HI1.out).mono ?_
  rintro e wa ⟨⟨b, rfl, hi1⟩, hb⟩
  have hx0_1 := Lib.hid (hx0_0.out.below hb hx0_0.out.lt)
  have hx1_1 := Lib.hid (hx1_0.out.below hb hx1_0.out.lt)
  have BW_1 := Lib.hid (BW_0.out.trans (hb.mono BW_0.out.size))
  replace HI1 := Lib.hid (HI1.out.below hb)
  replace HI2 := Lib.hid (HI2.out.below hb)
  clear hb
  have ehx00 := hx0_1.out.cell 0
  have ehx01 := hx0_1.out.cell 1
  have ehx10 := hx1_1.out.cell 0
  have ehx11 := hx1_1.out.cell 1
  simp at ehx00 ehx01 ehx10 ehx11
  cases b
  · have HF := Lib.hid (bcmp_no (g1 := g1) (g2 := g2) (xs := xs) (ys := ys) (fun h => by have := hi1.2 h.1; cases this) BW_1.out)
    clear hi1
    go_wp2_with fail
    go_ret
    exact HF.out
  have K1 := Lib.hid (hi1.1 rfl)
  clear hi1
  go_wp2_with fail
  refine (spec_bigOk' g2 A2 n2 c2 ys _ HI2.out).mono ?_
  rintro e wb ⟨⟨b, rfl, hi2⟩, hb⟩
  have hx0_2 := Lib.hid (hx0_1.out.below hb hx0_1.out.lt)
  have hx1_2 := Lib.hid (hx1_1.out.below hb hx1_1.out.lt)
  have BW_2 := Lib.hid (BW_1.out.trans (hb.mono BW_1.out.size))
  replace HI1 := Lib.hid (HI1.out.below hb)
  replace HI2 := Lib.hid (HI2.out.below hb)
  clear hb
  cases b
  · have HF := Lib.hid (bcmp_no (g1 := g1) (g2 := g2) (xs := xs) (ys := ys) (fun h => by have := hi2.2 h.2; cases this) BW_2.out)
    clear hi2
    clear ehx00 ehx01 ehx10 ehx11
    have ehx00 := hx0_2.out.cell 0
    have ehx01 := hx0_2.out.cell 1
    have ehx10 := hx1_2.out.cell 0
    have ehx11 := hx1_2.out.cell 1
    simp at ehx00 ehx01 ehx10 ehx11
    go_wp2_with fail
    go_ret
    exact HF.out
  have K2 := Lib.hid (hi2.1 rfl)
  clear hi2
  clear ehx00 ehx01 ehx10 ehx11
  have ehx00 := hx0_2.out.cell 0
  have ehx01 := hx0_2.out.cell 1
  have ehx10 := hx1_2.out.cell 0
  have ehx11 := hx1_2.out.cell 1
  simp at ehx00 ehx01 ehx10 ehx11
  go_wp2_with fail
  refine (spec_bigCmp g1 A1 n1 c1 xs g2 A2 n2 c2 ys _ HI1.out HI2.out K1.out K2.out).mono ?_
  rintro e w3 ⟨rfl, hb⟩
  have HF := Lib.hid (bcmp_yes K1.out K2.out rfl (BW_2.out.trans (hb.mono BW_2.out.size)))
  clear hb
  go_wp2_with fail
  go_ret
  exact HF.out
theorem spec_bigIntCmp (g1 : Bool) (A1 : Option Addr) (n1 c1 : Nat) (xs : List Int) (g2 : Bool) (A2 : Option Addr) (n2 c2 : Nat) (ys : List Int) (w : World) (h1 : InI w A1 n1 xs) (_r1 : Room A1 n1 c1) (h2 : InI w A2 n2 ys) (_r2 : Room A2 n2 c2) :
    Calls Try.prog 32 #[.agg #[.bool g1, .slice A1 n1 c1], .agg #[.bool g2, .slice A2 n2 c2]] w fun e w' => ∃ r, e = .returned (.int .i64 r) ∧ BigIntCmpIs g1 xs g2 ys r ∧ Below w.heap.size w w' :=
  (spec_bigIntCmp' g1 A1 n1 c1 xs g2 A2 n2 c2 ys w h1 h2).mono fun _ _ h => h
end Go.Proofs.Ytjjbgpgpacopjaa
