/- Contracts of the program's big integers: comparison, floor division. -/
import Derived.Test.YtbfanjalinkmhaaBigI3
import Derived.Test.YtbfanjalinkmhaaIm9
namespace Go.Proofs.Ytbfanjalinkmhaa
set_option maxRecDepth 100000
open Go.RowKit

theorem cmpV_anti (a b : Int) : cmpV b a = - cmpV a b := by
  unfold cmpV
  by_cases h : a < b
  · rw [if_neg (by omega), if_neg (by omega), if_pos h]; rfl
  · by_cases e : a = b
    · subst e; simp
    · rw [if_pos (by omega), if_neg h, if_neg e]
theorem cmp_s_lt {s t : Int} {a b : List Int} (k1 : SOk s a) (k2 : SOk t b) (h : s < t) : s * val a < t * val b := by
  rcases k1.2 with ⟨rfl, h1⟩ | ⟨rfl, h1⟩ | ⟨rfl, h1⟩ <;> rcases k2.2 with ⟨rfl, h2⟩ | ⟨rfl, h2⟩ | ⟨rfl, h2⟩ <;> omega
theorem cmp_s_eq {s : Int} {a b : List Int} (k1 : SOk s a) : s * cmpV (val a) (val b) = cmpV (s * val a) (s * val b) := by
  rcases k1.2 with ⟨rfl, h1⟩ | ⟨rfl, h1⟩ | ⟨rfl, h1⟩
  · rw [show (-1 : Int) * val a = - val a by omega, show (-1 : Int) * val b = - val b by omega, cmp_neg, cmpV_anti]; omega
  · rw [Int.zero_mul, Int.zero_mul, Int.zero_mul, cmpV_eq rfl]
  · rw [Int.one_mul, Int.one_mul, Int.one_mul]
theorem isNaNS_any (x : Int) (w : World) : Calls Try.prog 143 #[.int .i64 x] w fun e w' => e = .returned (.bool false) ∧ w = w' := by
  have h : (x == x) = true := by simp
  go_enter Try.func143, Try.ntmps143
  go_wp2
  go_ret
  exact ⟨rfl, rfl⟩
theorem compareS_any (x y : Int) (w : World) : Calls Try.prog 121 #[.int .i64 x, .int .i64 y] w fun e w' => e = .returned (.int .i64 (cmpV x y)) ∧ w = w' := by
  by_cases h : x < y
  · have hf := Lib.hid (cmpV_lt h)
    go_enter Try.func121, Try.ntmps121
    go_wp2_with ((with_reducible refine (isNaNS_any _ _).mono ?_); rintro e w' ⟨rfl, rfl⟩)
    go_ret
    exact ⟨ret_int hf.out.symm, rfl⟩
  · by_cases h2 : y < x
    · have hf := Lib.hid (cmpV_gt h2)
      go_enter Try.func121, Try.ntmps121
      go_wp2_with ((with_reducible refine (isNaNS_any _ _).mono ?_); rintro e w' ⟨rfl, rfl⟩)
      go_ret
      exact ⟨ret_int hf.out.symm, rfl⟩
    · have hf := Lib.hid (cmpV_eq (show x = y by omega))
      go_enter Try.func121, Try.ntmps121
      go_wp2_with ((with_reducible refine (isNaNS_any _ _).mono ?_); rintro e w' ⟨rfl, rfl⟩)
      go_ret
      exact ⟨ret_int hf.out.symm, rfl⟩
set_option maxHeartbeats 1600000 in
theorem impl_bigIntCmp' (g1 : Bool) (A1 : Option Addr) (n1 c1 : Nat) (xs : List Int) (g2 : Bool) (A2 : Option Addr) (n2 c2 : Nat) (ys : List Int) (w : World) (h1 : InI w A1 n1 xs) (h2 : InI w A2 n2 ys) :
    Calls Try.prog 89 #[.agg #[.bool g1, .slice A1 n1 c1], .agg #[.bool g2, .slice A2 n2 c2]] w fun e w' => BCmpEnd g1 xs g2 ys w w' e := by
  have hx0_0 := Lib.hid ((by have := Box.new w 29 #[.bool g1, .slice A1 n1 c1]; simpa using this : Box (w.alloc (.cells #[.bool g1, .slice A1 n1 c1] 29)) (w.heap.size) 29 #[.bool g1, .slice A1 n1 c1]).alloc (.cells #[.bool g2, .slice A2 n2 c2] 29))
  have hx1_0 := Lib.hid (by have := Box.new (w.alloc (.cells #[.bool g1, .slice A1 n1 c1] 29)) 29 #[.bool g2, .slice A2 n2 c2]; simpa using this : Box ((w.alloc (.cells #[.bool g1, .slice A1 n1 c1] 29)).alloc (.cells #[.bool g2, .slice A2 n2 c2] 29)) (w.heap.size + 1) 29 #[.bool g2, .slice A2 n2 c2])
  have BW_0 := Lib.hid (((Below.refl w.heap.size w).alloc (by simp) (.cells #[.bool g1, .slice A1 n1 c1] 29)).alloc (by simp) (.cells #[.bool g2, .slice A2 n2 c2] 29))
  have hn1 := h1.2.1
  have hn2 := h2.2.1
  have HI1 := Lib.hid (h1.below BW_0.out)
  have HI2 := Lib.hid (h2.below BW_0.out)
  clear h1 h2
  go_enter Try.func89, Try.ntmps89
  go_wp2_with fail
  refine (impl_bigOk' g1 A1 n1 c1 xs _ HI1.out).mono ?_
  rintro e wa ⟨⟨b, rfl, hi1⟩, hb⟩
  have hx0_1 := Lib.hid (hx0_0.out.below hb hx0_0.out.lt)
  have hx1_1 := Lib.hid (hx1_0.out.below hb hx1_0.out.lt)
  have BW_1 := Lib.hid (BW_0.out.trans (hb.mono BW_0.out.size))
  replace HI1 := Lib.hid (HI1.out.below hb)
  replace HI2 := Lib.hid (HI2.out.below hb)
  clear hb
  have ehx00 := hx0_1.out.cell 0
  have ehx01 := hx0_1.out.cell 1
  have ehx10 := hx1_1.out.cell 0
  have ehx11 := hx1_1.out.cell 1
  simp at ehx00 ehx01 ehx10 ehx11
  cases b
  · have HF := Lib.hid (bcmp_no (g1 := g1) (g2 := g2) (xs := xs) (ys := ys) (fun h => by have := hi1.2 h.1; cases this) BW_1.out)
    clear hi1
    go_wp2_with fail
    go_ret
    exact HF.out
  have K1 := Lib.hid (hi1.1 rfl)
  clear hi1
  go_wp2_with fail
  refine (impl_bigOk' g2 A2 n2 c2 ys _ HI2.out).mono ?_
  rintro e wb ⟨⟨b, rfl, hi2⟩, hb⟩
  have hx0_2 := Lib.hid (hx0_1.out.below hb hx0_1.out.lt)
  have hx1_2 := Lib.hid (hx1_1.out.below hb hx1_1.out.lt)
  have BW_2 := Lib.hid (BW_1.out.trans (hb.mono BW_1.out.size))
  replace HI1 := Lib.hid (HI1.out.below hb)
  replace HI2 := Lib.hid (HI2.out.below hb)
  clear hb
  cases b
  · have HF := Lib.hid (bcmp_no (g1 := g1) (g2 := g2) (xs := xs) (ys := ys) (fun h => by have := hi2.2 h.2; cases this) BW_2.out)
    clear hi2
    clear ehx00 ehx01 ehx10 ehx11
    have ehx00 := hx0_2.out.cell 0
    have ehx01 := hx0_2.out.cell 1
    have ehx10 := hx1_2.out.cell 0
    have ehx11 := hx1_2.out.cell 1
    simp at ehx00 ehx01 ehx10 ehx11
    go_wp2_with fail
    go_ret
    exact HF.out
  have K2 := Lib.hid (hi2.1 rfl)
  clear hi2
  clear ehx00 ehx01 ehx10 ehx11
  have ehx00 := hx0_2.out.cell 0
  have ehx01 := hx0_2.out.cell 1
  have ehx10 := hx1_2.out.cell 0
  have ehx11 := hx1_2.out.cell 1
  simp at ehx00 ehx01 ehx10 ehx11
  have sk1 := sok_sg K1.out HI1.out.1
  have hbd1 := sg_bd g1 n1
  obtain ⟨s1, hs1⟩ : ∃ s, sg g1 n1 = s := ⟨_, rfl⟩
  rw [hs1] at sk1 hbd1
  have SK1 := Lib.hid sk1.1
  have E1 := Lib.hid sk1.2
  have Hs1 := Lib.hid hs1
  clear sk1 hs1
  have sk2 := sok_sg K2.out HI2.out.1
  have hbd2 := sg_bd g2 n2
  obtain ⟨s2, hs2⟩ : ∃ s, sg g2 n2 = s := ⟨_, rfl⟩
  rw [hs2] at sk2 hbd2
  have SK2 := Lib.hid sk2.1
  have E2 := Lib.hid sk2.2
  have Hs2 := Lib.hid hs2
  clear sk2 hs2
  go_wp2_with fail
  refine (impl_signOf g1 A1 n1 c1 s1 _ Hs1.out (by omega)).mono ?_
  rintro e wc ⟨rfl, hb⟩
  have hx0_3 := Lib.hid (hx0_2.out.below hb hx0_2.out.lt)
  have hx1_3 := Lib.hid (hx1_2.out.below hb hx1_2.out.lt)
  have BW_3 := Lib.hid (BW_2.out.trans (hb.mono BW_2.out.size))
  replace HI1 := Lib.hid (HI1.out.below hb)
  replace HI2 := Lib.hid (HI2.out.below hb)
  clear hb
  clear ehx00 ehx01 ehx10 ehx11
  have ehx00 := hx0_3.out.cell 0
  have ehx01 := hx0_3.out.cell 1
  have ehx10 := hx1_3.out.cell 0
  have ehx11 := hx1_3.out.cell 1
  simp at ehx00 ehx01 ehx10 ehx11
  go_wp2_with fail
  refine (impl_signOf g2 A2 n2 c2 s2 _ Hs2.out (by omega)).mono ?_
  rintro e wd ⟨rfl, hb⟩
  have hx0_4 := Lib.hid (hx0_3.out.below hb hx0_3.out.lt)
  have hx1_4 := Lib.hid (hx1_3.out.below hb hx1_3.out.lt)
  have BW_4 := Lib.hid (BW_3.out.trans (hb.mono BW_3.out.size))
  replace HI1 := Lib.hid (HI1.out.below hb)
  replace HI2 := Lib.hid (HI2.out.below hb)
  clear hb
  clear ehx00 ehx01 ehx10 ehx11
  have ehx00 := hx0_4.out.cell 0
  have ehx01 := hx0_4.out.cell 1
  have ehx10 := hx1_4.out.cell 0
  have ehx11 := hx1_4.out.cell 1
  simp at ehx00 ehx01 ehx10 ehx11
  go_wp2_with fail
  refine (compareS_any s1 s2 _).mono ?_
  rintro e we ⟨rfl, rfl⟩
  by_cases hlt : s1 < s2
  · have HF := Lib.hid (bcmp_yes K1.out K2.out (show (-1 : Int) = cmpV (bval g1 xs) (bval g2 ys) by rw [E1.out, E2.out, cmpV_lt (cmp_s_lt SK1.out SK2.out hlt)]) BW_4.out)
    rw [cmpV_lt hlt]
    clear hlt
    go_wp2_with fail
    go_ret
    exact HF.out
  by_cases hgt : s2 < s1
  · have HF := Lib.hid (bcmp_yes K1.out K2.out (show (1 : Int) = cmpV (bval g1 xs) (bval g2 ys) by rw [E1.out, E2.out, cmpV_gt (cmp_s_lt SK2.out SK1.out hgt)]) BW_4.out)
    rw [cmpV_gt hgt]
    clear hlt hgt
    go_wp2_with fail
    go_ret
    exact HF.out
  have he : s1 = s2 := by omega
  rw [cmpV_eq he]
  have HE := Lib.hid he
  clear he hlt hgt
  go_wp2_with fail
  refine (impl_cmp A1 n1 c1 xs A2 n2 c2 ys _ HI1.out.canon HI2.out.canon K1.out.1.1 K2.out.1.1).mono ?_
  rintro e wf ⟨rfl, hb⟩
  have BW_5 := Lib.hid (BW_4.out.trans (hb.mono BW_4.out.size))
  have HR : Hid (s1 * cmpV (val xs) (val ys) = cmpV (bval g1 xs) (bval g2 ys)) := by
    unfold Hid; rw [E1.out, E2.out, ← HE.out]; exact cmp_s_eq SK1.out
  have hcb := cmpV_bd (val xs) (val ys)
  obtain ⟨cm, hcm⟩ : ∃ cm, cm = cmpV (val xs) (val ys) := ⟨_, rfl⟩
  rw [← hcm] at HR hcb ⊢
  have HF := Lib.hid (bcmp_yes K1.out K2.out HR.out BW_5.out)
  clear hb hcm HR
  have hs : s1 = -1 ∨ s1 = 0 ∨ s1 = 1 := by omega
  clear HE
  rcases hs with rfl | rfl | rfl
  · rw [show (-1 : Int) * cm = -cm by omega] at HF
    go_wp2_with fail
    go_ret
    exact HF.out
  · rw [Int.zero_mul] at HF
    go_wp2_with fail
    go_ret
    exact HF.out
  · rw [Int.one_mul] at HF
    go_wp2_with fail
    go_ret
    exact HF.out
theorem impl_bigIntCmp (g1 : Bool) (A1 : Option Addr) (n1 c1 : Nat) (xs : List Int) (g2 : Bool) (A2 : Option Addr) (n2 c2 : Nat) (ys : List Int) (w : World) (h1 : InI w A1 n1 xs) (_r1 : Room A1 n1 c1) (h2 : InI w A2 n2 ys) (_r2 : Room A2 n2 c2) :
    Calls Try.prog 89 #[.agg #[.bool g1, .slice A1 n1 c1], .agg #[.bool g2, .slice A2 n2 c2]] w fun e w' => ∃ r, e = .returned (.int .i64 r) ∧ BigIntCmpIs g1 xs g2 ys r ∧ Below w.heap.size w w' :=
  (impl_bigIntCmp' g1 A1 n1 c1 xs g2 A2 n2 c2 ys w h1 h2).mono fun _ _ h => h

theorem apart_with {u v : Value} {A : Option Addr} {n c : Nat} (h : Apart u (.slice A n c)) (hv : v = .slice A n c ∨ v = .slice none 0 0) : Apart u v := by
  rcases hv with rfl | rfl
  · exact h
  · intro k _ hk; simp [Value.ownBlock] at hk
end Go.Proofs.Ytbfanjalinkmhaa
