/- Contracts of fractions: RatMake, by the model. -/
import Derived.Test.YtbfanjalinkmhaaRatS2
namespace Go.Proofs.Ytbfanjalinkmhaa
set_option maxRecDepth 100000
open Go.RowKit

theorem make_of_low {g1 g2 : Bool} {xs ys : List Int} {g : Bool} {l d : List Int} (k1 : BOk g1 xs) (k2 : BOk g2 ys) (h : RIs True (bval (g1 != g2) xs) (val ys) g l d) : RatMakeIs g1 xs g2 ys g l d := by
  by_cases hz : val ys = 0
  · rcases h with ⟨_, ⟨hD, _⟩, _⟩ | ⟨_, rfl, rfl, rfl⟩
    · exact absurd hz hD
    · exact rIs_zero (by cases g2 <;> simp [bval, hz])
  · refine rIs_prop (rIs_eq h hz (by cases g2 <;> simp [bval, hz]) ?_) trivial ⟨k1, k2⟩
    cases g1 <;> cases g2 <;> simp [bval, Int.neg_mul, Int.mul_neg]
set_option maxHeartbeats 1600000 in
theorem spec_ratMake' (g1 : Bool) (A1 : Option Addr) (n1 c1 : Nat) (xs : List Int) (g2 : Bool) (A2 : Option Addr) (n2 c2 : Nat) (ys : List Int) (w : World) (h1 : InI w A1 n1 xs) (r1 : Room A1 n1 c1) (h2 : InI w A2 n2 ys) (r2 : Room A2 n2 c2) :
    Calls Try.prog 24 #[.agg #[.bool g1, .slice A1 n1 c1], .agg #[.bool g2, .slice A2 n2 c2]] w fun e w' => RatEnd (RatMakeIs g1 xs g2 ys) w w' e := by
  have hn1 := h1.2.1
  have hn2 := h2.2.1
  obtain ⟨W0, hW0⟩ : ∃ W, W = (((w.alloc (.cells #[.bool g1, .slice A1 n1 c1] 29)).alloc (.cells #[.bool g2, .slice A2 n2 c2] 29)).alloc (.cells #[.bool false, .slice none 0 0, .slice none 0 0] 31)) := ⟨_, rfl⟩
  have hx0_0 : Hid (Box W0 (w.heap.size) 29 #[.bool g1, .slice A1 n1 c1]) := by rw [hW0]; exact (((Box.at' (by simp)).alloc _).alloc _)
  have hx1_0 : Hid (Box W0 (w.heap.size + 1) 29 #[.bool g2, .slice A2 n2 c2]) := by rw [hW0]; exact ((Box.at' (by simp)).alloc _)
  have hs_0 : Hid (Box W0 (w.heap.size + 1 + 1) 31 #[.bool false, .slice none 0 0, .slice none 0 0]) := by rw [hW0]; exact (Box.at' (by simp))
  have BW_0 : Hid (Below w.heap.size w W0) := by rw [hW0]; exact ((((Below.refl w.heap.size w).alloc (by simp) _).alloc (by simp) _).alloc (by simp; omega) _)
  have hsz0 : w.heap.size + 1 + 1 + 1 ≤ W0.heap.size := by rw [hW0]; simp
  have HI1 := Lib.hid (h1.below BW_0.out)
  have HI2 := Lib.hid (h2.below BW_0.out)
  have R1 := Lib.hid r1
  have R2 := Lib.hid r2
  clear h1 h2 r1 r2
  go_enter Try.func24, Try.ntmps24
  go_wp2_with fail
  rw [← hW0]
  clear hW0
  refine (spec_bigOk' g1 A1 n1 c1 xs _ HI1.out).mono ?_
  rintro e wa ⟨⟨b, rfl, hi⟩, hb⟩
  have hx0_1 := Lib.hid (hx0_0.out.below hb hx0_0.out.lt)
  have hx1_1 := Lib.hid (hx1_0.out.below hb hx1_0.out.lt)
  have hs_1 := Lib.hid (hs_0.out.below hb hs_0.out.lt)
  have BW_1 := Lib.hid (BW_0.out.trans (hb.mono BW_0.out.size))
  replace HI1 := Lib.hid (HI1.out.below hb)
  replace HI2 := Lib.hid (HI2.out.below hb)
  clear hb
  have ehx00 := hx0_1.out.cell 0
  have ehx01 := hx0_1.out.cell 1
  have ehx10 := hx1_1.out.cell 0
  have ehx11 := hx1_1.out.cell 1
  have ehs0 := hs_1.out.cell 0
  have ehs1 := hs_1.out.cell 1
  have ehs2 := hs_1.out.cell 2
  have fhs0 := hs_1.out.free 0
  have fhs1 := hs_1.out.free 1
  have fhs2 := hs_1.out.free 2
  simp at ehx00 ehx01 ehx10 ehx11 ehs0 ehs1 ehs2
  cases b
  · have hno : ¬ (BOk g1 xs ∧ BOk g2 ys) := fun h => by have := hi.2 h.1; cases this
    clear hi
    have HZ : Hid (RatMakeIs g1 xs g2 ys false [] []) := rIs_no hno
    go_wp2_with fail
    refine bodyPost_ret (v := .agg #[.bool false, .slice none 0 0, .slice none 0 0]) (by simp [results, Try.results24, ehs0, ehs1, ehs2, go_sem]) rfl ?_
    exact ratEnd_zero HZ.out (below_store3 BW_1.out (by omega) _ _ _)
  have K1 := Lib.hid (hi.1 rfl)
  clear hi
  go_wp2_with fail
  refine (spec_bigOk' g2 A2 n2 c2 ys _ HI2.out).mono ?_
  rintro e wb ⟨⟨b, rfl, hi⟩, hb⟩
  have hx0_2 := Lib.hid (hx0_1.out.below hb hx0_1.out.lt)
  have hx1_2 := Lib.hid (hx1_1.out.below hb hx1_1.out.lt)
  have hs_2 := Lib.hid (hs_1.out.below hb hs_1.out.lt)
  have BW_2 := Lib.hid (BW_1.out.trans (hb.mono BW_1.out.size))
  replace HI1 := Lib.hid (HI1.out.below hb)
  replace HI2 := Lib.hid (HI2.out.below hb)
  clear hb
  clear ehx00 ehx01 ehx10 ehx11 ehs0 fhs0 ehs1 fhs1 ehs2 fhs2
  have ehx00 := hx0_2.out.cell 0
  have ehx01 := hx0_2.out.cell 1
  have ehx10 := hx1_2.out.cell 0
  have ehx11 := hx1_2.out.cell 1
  have ehs0 := hs_2.out.cell 0
  have ehs1 := hs_2.out.cell 1
  have ehs2 := hs_2.out.cell 2
  have fhs0 := hs_2.out.free 0
  have fhs1 := hs_2.out.free 1
  have fhs2 := hs_2.out.free 2
  simp at ehx00 ehx01 ehx10 ehx11 ehs0 ehs1 ehs2
  cases b
  · have hno : ¬ (BOk g1 xs ∧ BOk g2 ys) := fun h => by have := hi.2 h.2; cases this
    clear hi
    have HZ : Hid (RatMakeIs g1 xs g2 ys false [] []) := rIs_no hno
    go_wp2_with fail
    refine bodyPost_ret (v := .agg #[.bool false, .slice none 0 0, .slice none 0 0]) (by simp [results, Try.results24, ehs0, ehs1, ehs2, go_sem]) rfl ?_
    exact ratEnd_zero HZ.out (below_store3 BW_2.out (by omega) _ _ _)
  have K2 := Lib.hid (hi.1 rfl)
  clear hi
  obtain ⟨t, ht⟩ : ∃ t, (g1 == g2) = t := ⟨_, rfl⟩
  have HT : Hid ((g1 != g2) = !t) := by rw [← ht]; rfl
  go_wp2_with fail
  clear ehx00 ehx01 ehx10 ehx11 ehs0 fhs0 ehs1 fhs1 ehs2 fhs2
  refine (spec_low (!t) A1 n1 c1 xs A2 n2 c2 ys _ HI1.out R1.out HI2.out R2.out K1.out.1 K2.out.1).mono ?_
  rintro e wc ⟨s, r, v, dd, u, rfl, hq, ⟨hl1, ho1⟩, ⟨hl2, ho2⟩, hap, hb⟩
  have HQ : Hid (RatMakeIs g1 xs g2 ys s r dd) := make_of_low K1.out K2.out (by rw [HT.out]; exact hq)
  have HAP := Lib.hid hap
  clear hq hap
  have hsz2 := BW_2.out.size
  have hs_3 := Lib.hid (hs_2.out.below hb hs_2.out.lt)
  have BW_3 := Lib.hid (BW_2.out.trans (hb.mono BW_2.out.size))
  clear hb
  obtain ⟨A9, c9, rfl⟩ := own_slice ho1
  obtain ⟨B9, d9, rfl⟩ := own_slice ho2
  obtain ⟨N9, hN9⟩ : ∃ N, N = r.length := ⟨_, rfl⟩
  obtain ⟨M9, hM9⟩ : ∃ N, N = dd.length := ⟨_, rfl⟩
  rw [← hN9] at hl1 ho1 HAP ⊢
  rw [← hM9] at hl2 ho2 HAP ⊢
  have HN := Lib.hid hN9.symm
  have HM := Lib.hid hM9.symm
  have HO := Lib.hid ho1
  have HU := Lib.hid ho2
  clear ho1 ho2 hN9 hM9
  have ehs0 := hs_3.out.cell 0
  have ehs1 := hs_3.out.cell 1
  have ehs2 := hs_3.out.cell 2
  have fhs0 := hs_3.out.free 0
  have fhs1 := hs_3.out.free 1
  have fhs2 := hs_3.out.free 2
  simp at ehs0 ehs1 ehs2
  go_wp2_with fail
  refine bodyPost_ret (v := .agg #[.bool s, .slice A9 N9 c9, .slice B9 M9 d9]) (by simp [results, Try.results24, ehs0, ehs1, ehs2, go_sem]) rfl ?_
  exact ratEnd_store hs_3.out (by omega) BW_3.out HQ.out HN.out HM.out (by omega) (by omega) HO.out (by omega) HU.out (by omega) HAP.out
theorem spec_ratMake (g1 : Bool) (A1 : Option Addr) (n1 c1 : Nat) (xs : List Int) (g2 : Bool) (A2 : Option Addr) (n2 c2 : Nat) (ys : List Int) (w : World) (h1 : InI w A1 n1 xs) (r1 : Room A1 n1 c1) (h2 : InI w A2 n2 ys) (r2 : Room A2 n2 c2) :
    Calls Try.prog 24 #[.agg #[.bool g1, .slice A1 n1 c1], .agg #[.bool g2, .slice A2 n2 c2]] w fun e w' => ∃ g r v d u, e = .returned (.agg #[.bool g, v, u]) ∧ RatMakeIs g1 xs g2 ys g r d ∧ ResI w w' v r ∧ ResI w w' u d ∧ Apart u v ∧ Below w.heap.size w w' :=
  (spec_ratMake' g1 A1 n1 c1 xs g2 A2 n2 c2 ys w h1 r1 h2 r2).mono fun _ _ h => h
end Go.Proofs.Ytbfanjalinkmhaa
