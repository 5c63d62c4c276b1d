/- Contracts of the program's big integers: comparison, floor division. -/
import Derived.Test.YtjjbgpgpacopjaaBigI3
import Derived.Test.YtjjbgpgpacopjaaIm9
namespace Go.Proofs.Ytjjbgpgpacopjaa
open Go.RowKit

theorem cmpV_anti (a b : Int) : cmpV b a = - cmpV a b := by
  unfold cmpV
  by_cases h : a < b
  · rw [if_neg (by omega), if_neg (by omega), if_pos h]; rfl
  · by_cases e : a = b
    · subst e; simp
    · rw [if_pos (by omega), if_neg h, if_neg e]
theorem cmp_s_lt {s t : Int} {a b : List Int} (k1 : SOk s a) (k2 : SOk t b) (h : s < t) : s * val a < t * val b := by
  rcases k1.2 with ⟨rfl, h1⟩ | ⟨rfl, h1⟩ | ⟨rfl, h1⟩ <;> rcases k2.2 with ⟨rfl, h2⟩ | ⟨rfl, h2⟩ | ⟨rfl, h2⟩ <;> omega
theorem cmp_s_eq {s : Int} {a b : List Int} (k1 : SOk s a) : s * cmpV (val a) (val b) = cmpV (s * val a) (s * val b) := by
  rcases k1.2 with ⟨rfl, h1⟩ | ⟨rfl, h1⟩ | ⟨rfl, h1⟩
  · rw [show (-1 : Int) * val a = - val a by omega, show (-1 : Int) * val b = - val b by omega, cmp_neg, cmpV_anti]; omega
  · rw [Int.zero_mul, Int.zero_mul, Int.zero_mul, cmpV_eq rfl]
  · rw [Int.one_mul, Int.one_mul, Int.one_mul]
theorem isNaNS_any (x : Int) (w : World) : Calls Try.prog 77 #[.int .i64 x] w fun e w' => e = .returned (.bool false) ∧ w = w' := by
  have h : (x == x) = true := by simp
  go_enter Try.func77, Try.ntmps77
  go_wp2
  go_ret
  exact ⟨rfl, rfl⟩
theorem compareS_any (x y : Int) (w : World) : Calls Try.prog 59 #[.int .i64 x, .int .i64 y] w fun e w' => e = .returned (.int .i64 (cmpV x y)) ∧ w = w' := by
  by_cases h : x < y
  · have hf := Lib.hid (cmpV_lt h)
    go_enter Try.func59, Try.ntmps59
    go_wp2_with ((with_reducible refine (isNaNS_any _ _).mono ?_); rintro e w' ⟨rfl, rfl⟩)
    go_ret
    exact ⟨ret_int hf.out.symm, rfl⟩
  · by_cases h2 : y < x
    · have hf := Lib.hid (cmpV_gt h2)
      go_enter Try.func59, Try.ntmps59
      go_wp2_with ((with_reducible refine (isNaNS_any _ _).mono ?_); rintro e w' ⟨rfl, rfl⟩)
      go_ret
      exact ⟨ret_int hf.out.symm, rfl⟩
    · have hf := Lib.hid (cmpV_eq (show x = y by omega))
      go_enter Try.func59, Try.ntmps59
      go_wp2_with ((with_reducible refine (isNaNS_any _ _).mono ?_); rintro e w' ⟨rfl, rfl⟩)
      go_ret
      exact ⟨ret_int hf.out.symm, rfl⟩
set_option maxHeartbeats 1600000 in
theorem impl_bigIntCmp' (g1 : Bool) (A1 : Option Addr) (n1 c1 : Nat) (xs : List Int) (g2 : Bool) (A2 : Option Addr) (n2 c2 : Nat) (ys : List Int) (w : World) (h1 : InI w A1 n1 xs) (h2 : InI w A2 n2 ys) :
    Calls Try.prog 33 #[.agg #[.bool g1, .slice A1 n1 c1], .agg #[.bool g2, .slice A2 n2 c2]] w fun e w' => BCmpEnd g1 xs g2 ys w w' e := by
  have hx0_0 := Lib.hid ((by have := Box.new w 27 #[.bool g1, .slice A1 n1 c1]; simpa using this : Box (w.alloc (.cells #[.bool g1, .slice A1 n1 c1] 27)) (w.heap.size) 27 #[.bool g1, .slice A1 n1 c1]).alloc (.cells #[.bool g2, .slice A2 n2 c2] 27))
  have hx1_0 := Lib.hid (by have := Box.new (w.alloc (.cells #[.bool g1, .slice A1 n1 c1] 27)) 27 #[.bool g2, .slice A2 n2 c2]; simpa using this : Box ((w.alloc (.cells #[.bool g1, .slice A1 n1 c1] 27)).alloc (.cells #[.bool g2, .slice A2 n2 c2] 27)) (w.heap.size + 1) 27 #[.bool g2, .slice A2 n2 c2])
  have BW_0 := Lib.hid (((Below.refl w.heap.size w).alloc (by simp) (.cells #[.bool g1, .slice A1 n1 c1] 27)).alloc (by simp) (.cells #[.bool g2, .slice A2 n2 c2] 27))
  have hn1 := h1.2.1
  have hn2 := h2.2.1
  have HI1 := Lib.hid (h1.below BW_0.out)
  have HI2 := Lib.hid (h2.below BW_0.out)
  clear h1 h2
  go_enter Try.func33, Try.ntmps33
  go_wp2_with fail
  refine (impl_bigOk' g1 A1 n1 c1 xs _ HI1.out).mono ?_
  rintro e wa ⟨⟨b, rfl, hi1⟩, hb⟩
  have hx0_1 := Lib.hid (hx0_0.out.below hb hx0_0.out.lt)
  have hx1_1 := Lib.hid (hx1_0.out.below hb hx1_0.out.lt)
  have BW_1 := Lib.hid (BW_0.out.trans (hb.mono BW_0.out.size))
  replace HI1 := Lib.hid (HI1.out.below hb)
  replace HI2 := Lib.hid (HI2.out.below hb)
  clear hb
  have ehx00 := hx0_1.out.cell 0
  have ehx01 := hx0_1.out.cell 1
  have ehx10 := hx1_1.out.cell 0
  have ehx11 := hx1_1.out.cell 1
  simp at ehx00 ehx01 ehx10 ehx11
  cases b
  · have HF := Lib.hid (bcmp_no (g1 := g1) (g2 := g2) (xs := xs) (ys := ys) (fun h => by have := hi1.2 h.1; cases this) BW_1.out)
    clear hi1
    go_wp2_with fail
    go_ret
    exact HF.out
  have K1 := Lib.hid (hi1.1 rfl)
  clear hi1
  go_wp2_with fail
  refine (impl_bigOk' g2 A2 n2 c2 ys _ HI2.out).mono ?_
  rintro e wb ⟨⟨b, rfl, hi2⟩, hb⟩
  have hx0_2 := Lib.hid (hx0_1.out.below hb hx0_1.out.lt)
  have hx1_2 := Lib.hid (hx1_1.out.below hb hx1_1.out.lt)
  have BW_2 := Lib.hid (BW_1.out.trans (hb.mono BW_1.out.size))
  replace HI1 := Lib.hid (HI1.out.below hb)
  replace HI2 := Lib.hid (HI2.out.below hb)
  clear hb
  cases b
  · have HF := Lib.hid (bcmp_no (g1 := g1) (g2 := g2) (xs := xs) (ys := ys) (fun h => by have := hi2.2 h.2; cases this) BW_2.out)
    clear hi2
    clear ehx00 ehx01 ehx10 ehx11
    have ehx00 := hx0_2.out.cell 0
    have ehx01 := hx0_2.out.cell 1
    have ehx10 := hx1_2.out.cell 0
    have ehx11 := hx1_2.out.cell 1
    simp at ehx00 ehx01 ehx10 ehx11
    go_wp2_with fail
    go_ret
    exact HF.out
  have K2 := Lib.hid (hi2.1 rfl)
  clear hi2
  clear ehx00 ehx01 ehx10 ehx11
  have ehx00 := hx0_2.out.cell 0
  have ehx01 := hx0_2.out.cell 1
  have ehx10 := hx1_2.out.cell 0
  have ehx11 := hx1_2.out.cell 1
  simp at ehx00 ehx01 ehx10 ehx11
  have sk1 := sok_sg K1.out HI1.out.1
  have hbd1 := sg_bd g1 n1
  obtain ⟨s1, hs1⟩ : ∃ s, sg g1 n1 = s := ⟨_, rfl⟩
  rw [hs1] at sk1 hbd1
  have SK1 := Lib.hid sk1.1
  have E1 := Lib.hid sk1.2
  have Hs1 := Lib.hid hs1
  clear sk1 hs1
  have sk2 := sok_sg K2.out HI2.out.1
  have hbd2 := sg_bd g2 n2
  obtain ⟨s2, hs2⟩ : ∃ s, sg g2 n2 = s := ⟨_, rfl⟩
  rw [hs2] at sk2 hbd2
  have SK2 := Lib.hid sk2.1
  have E2 := Lib.hid sk2.2
  have Hs2 := Lib.hid hs2
  clear sk2 hs2
  go_wp2_with fail
  refine (impl_signOf g1 A1 n1 c1 s1 _ Hs1.out (by omega)).mono ?_
  rintro e wc ⟨rfl, hb⟩
  have hx0_3 := Lib.hid (hx0_2.out.below hb hx0_2.out.lt)
  have hx1_3 := Lib.hid (hx1_2.out.below hb hx1_2.out.lt)
  have BW_3 := Lib.hid (BW_2.out.trans (hb.mono BW_2.out.size))
  replace HI1 := Lib.hid (HI1.out.below hb)
  replace HI2 := Lib.hid (HI2.out.below hb)
  clear hb
  clear ehx00 ehx01 ehx10 ehx11
  have ehx00 := hx0_3.out.cell 0
  have ehx01 := hx0_3.out.cell 1
  have ehx10 := hx1_3.out.cell 0
  have ehx11 := hx1_3.out.cell 1
  simp at ehx00 ehx01 ehx10 ehx11
  go_wp2_with fail
  refine (impl_signOf g2 A2 n2 c2 s2 _ Hs2.out (by omega)).mono ?_
  rintro e wd ⟨rfl, hb⟩
  have hx0_4 := Lib.hid (hx0_3.out.below hb hx0_3.out.lt)
  have hx1_4 := Lib.hid (hx1_3.out.below hb hx1_3.out.lt)
  have BW_4 := Lib.hid (BW_3.out.trans (hb.mono BW_3.out.size))
  replace HI1 := Lib.hid (HI1.out.below hb)
  replace HI2 := Lib.hid (HI2.out.below hb)
  clear hb
  clear ehx00 ehx01 ehx10 ehx11
  have ehx00 := hx0_4.out.cell 0
  have ehx01 := hx0_4.out.cell 1
  have ehx10 := hx1_4.out.cell 0
  have ehx11 := hx1_4.out.cell 1
  simp at ehx00 ehx01 ehx10 ehx11
  go_wp2_with fail
  refine (compareS_any s1 s2 _).mono ?_
  rintro e we ⟨rfl, rfl⟩
  by_cases hlt : s1 < s2
  · have HF := Lib.hid (bcmp_yes K1.out K2.out (show (-1 : Int) = cmpV (bval g1 xs) (bval g2 ys) by rw [E1.out, E2.out, cmpV_lt (cmp_s_lt SK1.out SK2.out hlt)]) BW_4.out)
    rw [cmpV_lt hlt]
    clear hlt
    go_wp2_with fail
    go_ret
    exact HF.out
  by_cases hgt : s2 < s1
  · have HF := Lib.hid (bcmp_yes K1.out K2.out (show (1 : Int) = cmpV (bval g1 xs) (bval g2 ys) by rw [E1.out, E2.out, cmpV_gt (cmp_s_lt SK2.out SK1.out hgt)]) BW_4.out)
    rw [cmpV_gt hgt]
    clear hlt hgt
    go_wp2_with fail
    go_ret
    exact HF.out
  have he : s1 = s2 := by omega
  rw [cmpV_eq he]
  have HE := Lib.hid he
  clear he hlt hgt
  go_wp2_with fail
  refine (impl_cmp A1 n1 c1 xs A2 n2 c2 ys _ HI1.out.canon HI2.out.canon K1.out.1.1 K2.out.1.1).mono ?_
  rintro e wf ⟨rfl, hb⟩
  have BW_5 := Lib.hid (BW_4.out.trans (hb.mono BW_4.out.size))
  have HR : Hid (s1 * cmpV (val xs) (val ys) = cmpV (bval g1 xs) (bval g2 ys)) := by
    unfold Hid; rw [E1.out, E2.out, ← HE.out]; exact cmp_s_eq SK1.out
  have hcb := cmpV_bd (val xs) (val ys)
  obtain ⟨cm, hcm⟩ : ∃ cm, cm = cmpV (val xs) (val ys) := ⟨_, rfl⟩
  rw [← hcm] at HR hcb ⊢
  have HF := Lib.hid (bcmp_yes K1.out K2.out HR.out BW_5.out)
  clear hb hcm HR
  have hs : s1 = -1 ∨ s1 = 0 ∨ s1 = 1 := by omega
  clear HE
  rcases hs with rfl | rfl | rfl
  · rw [show (-1 : Int) * cm = -cm by omega] at HF
    go_wp2_with fail
    go_ret
    exact HF.out
  · rw [Int.zero_mul] at HF
    go_wp2_with fail
    go_ret
    exact HF.out
  · rw [Int.one_mul] at HF
    go_wp2_with fail
    go_ret
    exact HF.out
theorem impl_bigIntCmp (g1 : Bool) (A1 : Option Addr) (n1 c1 : Nat) (xs : List Int) (g2 : Bool) (A2 : Option Addr) (n2 c2 : Nat) (ys : List Int) (w : World) (h1 : InI w A1 n1 xs) (_r1 : Room A1 n1 c1) (h2 : InI w A2 n2 ys) (_r2 : Room A2 n2 c2) :
    Calls Try.prog 33 #[.agg #[.bool g1, .slice A1 n1 c1], .agg #[.bool g2, .slice A2 n2 c2]] w fun e w' => ∃ r, e = .returned (.int .i64 r) ∧ BigIntCmpIs g1 xs g2 ys r ∧ Below w.heap.size w w' :=
  (impl_bigIntCmp' g1 A1 n1 c1 xs g2 A2 n2 c2 ys w h1 h2).mono fun _ _ h => h

theorem apart_with {u v : Value} {A : Option Addr} {n c : Nat} (h : Apart u (.slice A n c)) (hv : v = .slice A n c ∨ v = .slice none 0 0) : Apart u v := by
  rcases hv with rfl | rfl
  · exact h
  · intro k _ hk; simp [Value.ownBlock] at hk
theorem floor_i {g : Bool} {s : Int} {q0 : Bool} {xs ms q r : List Int} (k : BOk g xs) (km : Ok ms) (hp : 0 < val ms) (hd : DivIs (val xs) (val ms) q r) (hl : q.length ≤ 60) (hg : g = true → val r = 0) (hs : sg g xs.length = s) (hq : decide (s = -1) = q0) : BigIntFloorDivIs g xs ms (sgn q0 q) q r := by
  have hk : ∃ m, Canon m ∧ val m = val q ∧ q = cap m := ok_cap ⟨hd.1, hl⟩
  have e : q0 = g := by
    rw [← hq, ← hs]; unfold sg
    cases g
    · simp; split <;> simp
    · simp
  rw [e]
  exact floor_mk k km hp hd hg hk
theorem floor_i_neg {s : Int} {q0 : Bool} {xs ms q r rb rq r2 : List Int} {n : Nat} (k : BOk true xs) (km : Ok ms) (hp : 0 < val ms) (hd : DivIs (val xs) (val ms) q r) (hlq : q.length ≤ 60) (hlr : r.length ≤ 60) (hr0 : 0 < val r)
    (hb : NatOfIs 1 rb) (ha : NatAddIs q rb rq) (hsub : NatSubIs ms r r2) (hs : sg true n = s) (hq : decide (s = -1) = q0) : BigIntFloorDivIs true xs ms (sgn q0 rq) rq r2 := by
  have e : q0 = true := by rw [← hq, ← hs]; rfl
  rw [e]
  have hb1 : val rb = 1 := by have := hb.2; rw [if_neg (by omega)] at this; exact this
  have hadd := bin_cap ha ⟨⟨hd.1, hlq⟩, natOf_ok hb (by omega)⟩
  obtain ⟨l, hc, hv, hl⟩ := bin_cap hsub ⟨km, ⟨hd.2.1, hlr⟩, Int.le_of_lt hd.2.2.2⟩
  have h60 : l.length ≤ 60 := short_of hc (by
    have h1 := val_lt km.1.1
    have h2 := pw_mono km.2
    rw [hv]; omega)
  have hl2 : r2 = l := hl.trans (hc.ok h60).2
  exact floor_mk_neg k km hp hd hr0 (by rw [hb1]) hadd (by rw [hl2]; exact hc) (by rw [hl2]; exact hv)
set_option maxRecDepth 100000 in
set_option maxHeartbeats 3200000 in
theorem impl_bigIntFloorDiv' (g : Bool) (A1 : Option Addr) (n1 c1 : Nat) (xs : List Int) (A2 : Option Addr) (n2 c2 : Nat) (ms : List Int) (w : World) (h1 : InI w A1 n1 xs) (h2 : InI w A2 n2 ms) :
    Calls Try.prog 38 #[.agg #[.bool g, .slice A1 n1 c1], .slice A2 n2 c2] w fun e w' => FDivEnd g xs ms w w' e := by
  have hx0_0 := Lib.hid ((by have := Box.new w 27 #[.bool g, .slice A1 n1 c1]; simpa using this : Box (w.alloc (.cells #[.bool g, .slice A1 n1 c1] 27)) (w.heap.size) 27 #[.bool g, .slice A1 n1 c1]).alloc (.cells #[.bool false, .slice none 0 0] 27))
  have hr_0 := Lib.hid (by have := Box.new (w.alloc (.cells #[.bool g, .slice A1 n1 c1] 27)) 27 #[.bool false, .slice none 0 0]; simpa using this : Box ((w.alloc (.cells #[.bool g, .slice A1 n1 c1] 27)).alloc (.cells #[.bool false, .slice none 0 0] 27)) (w.heap.size + 1) 27 #[.bool false, .slice none 0 0])
  have BW_0 := Lib.hid (((Below.refl w.heap.size w).alloc (by simp) (.cells #[.bool g, .slice A1 n1 c1] 27)).alloc (by simp) (.cells #[.bool false, .slice none 0 0] 27))
  have hn1 := h1.2.1
  have hn2 := h2.2.1
  have HI1 := Lib.hid (h1.below BW_0.out)
  have HI2 := Lib.hid (h2.below BW_0.out)
  clear h1 h2
  go_enter Try.func38, Try.ntmps38
  go_wp2_with fail
  refine (impl_bigOk' g A1 n1 c1 xs _ HI1.out).mono ?_
  rintro e wa ⟨⟨b, rfl, hi1⟩, hb⟩
  have hx0_1 := Lib.hid (hx0_0.out.below hb hx0_0.out.lt)
  have hr_1 := Lib.hid (hr_0.out.below hb hr_0.out.lt)
  have BW_1 := Lib.hid (BW_0.out.trans (hb.mono BW_0.out.size))
  replace HI1 := Lib.hid (HI1.out.below hb)
  replace HI2 := Lib.hid (HI2.out.below hb)
  clear hb
  have ehx00 := hx0_1.out.cell 0
  have ehx01 := hx0_1.out.cell 1
  have ehr0 := hr_1.out.cell 0
  have ehr1 := hr_1.out.cell 1
  have fhr0 := hr_1.out.free 0
  have fhr1 := hr_1.out.free 1
  simp at ehx00 ehx01 ehr0 ehr1
  cases b
  · have hno : ¬ (BOk g xs ∧ Ok ms ∧ 0 < val ms) := fun h => by have := hi1.2 h.1; cases this
    clear hi1
    have HF := Lib.hid (fdiv_no (w := w) hno (below_two (g := w.heap.size + 1) BW_1.out (by omega) (.bool false) (.slice none 0 0)))
    go_wp2_with fail
    refine bodyPost_ret (v := .tuple #[.agg #[.bool false, .slice none 0 0], .slice none 0 0]) (by simp [results, Try.results38, ehr0, ehr1, go_sem]) rfl ?_
    exact HF.out
  have K1 := Lib.hid (hi1.1 rfl)
  clear hi1
  go_wp2_with fail
  refine (impl_natOk' A2 n2 c2 ms _ HI2.out).mono ?_
  rintro e wb ⟨⟨b, rfl, hi2⟩, rfl⟩
  cases b
  · have hno : ¬ (BOk g xs ∧ Ok ms ∧ 0 < val ms) := fun h => by have := hi2.2 h.2.1; cases this
    clear hi2
    have HF := Lib.hid (fdiv_no (w := w) hno (below_two (g := w.heap.size + 1) BW_1.out (by omega) (.bool false) (.slice none 0 0)))
    go_wp2_with fail
    refine bodyPost_ret (v := .tuple #[.agg #[.bool false, .slice none 0 0], .slice none 0 0]) (by simp [results, Try.results38, ehr0, ehr1, go_sem]) rfl ?_
    exact HF.out
  have K2 := Lib.hid (hi2.1 rfl)
  clear hi2
  by_cases hz2 : n2 = 0
  · have hno : ¬ (BOk g xs ∧ Ok ms ∧ 0 < val ms) := fun h => by have h3 := h.2.2; rw [List.eq_nil_of_length_eq_zero (HI2.out.1.trans hz2)] at h3; simp [val] at h3
    have ht2 : ((n2 : Int) == 0) = true := by simp [hz2]
    clear hz2
    have HF := Lib.hid (fdiv_no (w := w) hno (below_two (g := w.heap.size + 1) BW_1.out (by omega) (.bool false) (.slice none 0 0)))
    go_wp2_with fail
    refine bodyPost_ret (v := .tuple #[.agg #[.bool false, .slice none 0 0], .slice none 0 0]) (by simp [results, Try.results38, ehr0, ehr1, go_sem]) rfl ?_
    exact HF.out
  have ht2 : ((n2 : Int) == 0) = false := by simp [hz2]
  have HP := Lib.hid (canon_pos K2.out.1 (by rw [HI2.out.1]; omega))
  have hm1 : n1 ≤ 60 := by have := K1.out.1.2; rwa [HI1.out.1] at this
  have hm2 : n2 ≤ 60 := by have := K2.out.2; rwa [HI2.out.1] at this
  clear hz2
  go_wp2_with fail
  refine (impl_divide A1 n1 c1 xs A2 n2 c2 ms _ ⟨HI1.out.1, by omega, HI1.out.2.2.1⟩ ⟨HI2.out.1, by omega, HI2.out.2.2.1⟩ K1.out.1.1 K2.out.1 HP.out).mono ?_
  rintro e wc hend
  obtain ⟨q, vq, r, u, rfl, hd, hlq, hlr, hoq, hor, hap, hb⟩ := hend
  obtain ⟨Aq, cq, rfl⟩ := own_slice hoq
  obtain ⟨Ar, cr, rfl⟩ := own_slice hor
  have HGV := Lib.hid hr_1.out.lt
  have hx0_2 := Lib.hid (hx0_1.out.below hb hx0_1.out.lt)
  have hr_2 := Lib.hid (hr_1.out.below hb hr_1.out.lt)
  have BW_2 := Lib.hid (BW_1.out.trans (hb.mono BW_1.out.size))
  replace HI2 := Lib.hid (HI2.out.below hb)
  have HD := Lib.hid hd
  have HL60 : Hid (q.length ≤ 60) := Nat.le_trans hlq hm1
  obtain ⟨Nq, hNq⟩ : ∃ N, N = q.length := ⟨_, rfl⟩
  obtain ⟨Nr, hNr⟩ : ∃ N, N = r.length := ⟨_, rfl⟩
  rw [← hNq] at hoq hlq hap ⊢
  rw [← hNr] at hor hlr hap ⊢
  have HOQ := Lib.hid hoq
  have HOR := Lib.hid hor
  have HNQ := Lib.hid hNq
  have HNR := Lib.hid hNr
  have HAP0 := Lib.hid hap
  obtain ⟨s1, hs1⟩ : ∃ s, sg g n1 = s := ⟨_, rfl⟩
  obtain ⟨q1, hq1⟩ : ∃ q, decide (s1 = -1) = q := ⟨_, rfl⟩
  have Hs1 := Lib.hid hs1
  have HQ1 := Lib.hid hq1
  clear hd hoq hor hap hb hNq hNr hs1 hq1
  clear ehx00 ehx01 ehr0 fhr0 ehr1 fhr1
  have ehx00 := hx0_2.out.cell 0
  have ehx01 := hx0_2.out.cell 1
  have ehr0 := hr_2.out.cell 0
  have ehr1 := hr_2.out.cell 1
  have fhr0 := hr_2.out.free 0
  have fhr1 := hr_2.out.free 1
  simp at ehx00 ehx01 ehr0 ehr1
  by_cases hneg : g = true ∧ 0 < Nr
  · obtain ⟨rfl, hpos⟩ := hneg
    have hr0 : Hid (0 < val r) := canon_pos HD.out.2.1 (by rw [← HNR.out]; exact hpos)
    go_wp2_with fail
    refine (impl_natOf 1 _ ⟨by omega, by omega⟩).mono ?_
    rintro e wd ⟨rb, v1, rfl, hof, hres, hb⟩
    have hx0_3 := Lib.hid (hx0_2.out.below hb hx0_2.out.lt)
    have hr_3 := Lib.hid (hr_2.out.below hb hr_2.out.lt)
    have BW_3 := Lib.hid (BW_2.out.trans (hb.mono BW_2.out.size))
    replace HI2 := Lib.hid (HI2.out.below hb)
    have HOQ2 := Lib.hid (own_below HOQ.out hb)
    have HOR2 := Lib.hid (own_below HOR.out hb)
    obtain ⟨Ab, cb, rfl, hlb, hob⟩ := own_rows hres
    have HIb := Lib.hid (in_own (natOf_ok hof (by omega)) hob)
    have HB := Lib.hid hof
    obtain ⟨Nb, hNb⟩ : ∃ N, N = rb.length := ⟨_, rfl⟩
    rw [← hNb] at HIb ⊢
    clear hof hres hb hob hlb hNb
    have HIq : Hid (InI wd Aq Nq q) := ⟨HNQ.out.symm, by omega, Reads.of_own HOQ2.out, limbs_bd HD.out.1.1⟩
    clear ehx00 ehx01 ehr0 fhr0 ehr1 fhr1
    have ehx00 := hx0_3.out.cell 0
    have ehx01 := hx0_3.out.cell 1
    have ehr0 := hr_3.out.cell 0
    have ehr1 := hr_3.out.cell 1
    have fhr0 := hr_3.out.free 0
    have fhr1 := hr_3.out.free 1
    simp at ehx00 ehx01 ehr0 ehr1
    go_wp2_with fail
    refine (impl_natAdd Aq Nq cq q Ab Nb cb rb _ HIq.out HIb.out).mono ?_
    rintro e we ⟨rq, v, rfl, hadd, hres, hb⟩
    have HG := Lib.hid hr_3.out.lt
    have hx0_4 := Lib.hid (hx0_3.out.below hb hx0_3.out.lt)
    have hr_4 := Lib.hid (hr_3.out.below hb hr_3.out.lt)
    have BW_4 := Lib.hid (BW_3.out.trans (hb.mono BW_3.out.size))
    replace HI2 := Lib.hid (HI2.out.below hb)
    have HOR3 := Lib.hid (own_below HOR2.out hb)
    obtain ⟨A8, c8, rfl, hl8, ho8⟩ := own_rows hres
    obtain ⟨N8, hN8⟩ : ∃ N, N = rq.length := ⟨_, rfl⟩
    rw [← hN8] at ho8 hl8 ⊢
    have HO8 := Lib.hid ho8
    have HN8 := Lib.hid hN8
    have HADD := Lib.hid hadd
    have HIr : Hid (InI we Ar Nr r) := ⟨HNR.out.symm, by omega, Reads.of_own HOR3.out, limbs_bd HD.out.2.1.1⟩
    clear hadd hres hb ho8 hN8
    clear ehx00 ehx01 ehr0 fhr0 ehr1 fhr1
    have ehx00 := hx0_4.out.cell 0
    have ehx01 := hx0_4.out.cell 1
    have ehr0 := hr_4.out.cell 0
    have ehr1 := hr_4.out.cell 1
    have fhr0 := hr_4.out.free 0
    have fhr1 := hr_4.out.free 1
    simp at ehx00 ehx01 ehr0 ehr1
    go_wp2_with fail
    refine (impl_natSub A2 n2 c2 ms Ar Nr cr r _ HI2.out HIr.out).mono ?_
    rintro e wf ⟨r2, u, rfl, hsub, hres, hb⟩
    have HG4 := Lib.hid hr_4.out.lt
    have hx0_5 := Lib.hid (hx0_4.out.below hb hx0_4.out.lt)
    have hr_5 := Lib.hid (hr_4.out.below hb hr_4.out.lt)
    have BW_5 := Lib.hid (BW_4.out.trans (hb.mono BW_4.out.size))
    have HAP8 := Lib.hid (apart_older HO8.out hres.2)
    have HO9 := Lib.hid (own_below HO8.out hb)
    obtain ⟨A5, c5, rfl, hl5, ho5⟩ := own_rows hres
    have HQF := Lib.hid (floor_i_neg K1.out K2.out HP.out HD.out HL60.out (by rw [← HNR.out]; omega) hr0.out HB.out HADD.out hsub Hs1.out HQ1.out)
    obtain ⟨N5, hN5⟩ : ∃ N, N = r2.length := ⟨_, rfl⟩
    rw [← hN5] at ho5 hl5 HAP8 ⊢
    have HO5 := Lib.hid ho5
    have HN5 := Lib.hid hN5
    clear hsub hres hb ho5 hN5
    clear ehx00 ehx01 ehr0 fhr0 ehr1 fhr1
    have ehx00 := hx0_5.out.cell 0
    have ehx01 := hx0_5.out.cell 1
    have ehr0 := hr_5.out.cell 0
    have ehr1 := hr_5.out.cell 1
    have fhr0 := hr_5.out.free 0
    have fhr1 := hr_5.out.free 1
    simp at ehx00 ehx01 ehr0 ehr1
    go_wp2_with fail
    refine (impl_signOf true A1 n1 c1 s1 _ Hs1.out (by omega)).mono ?_
    rintro e wg ⟨rfl, hb⟩
    have hx0_6 := Lib.hid (hx0_5.out.below hb hx0_5.out.lt)
    have hr_6 := Lib.hid (hr_5.out.below hb hr_5.out.lt)
    have BW_6 := Lib.hid (BW_5.out.trans (hb.mono BW_5.out.size))
    have HO9b := Lib.hid (own_below HO9.out hb)
    have HO5b := Lib.hid (own_below HO5.out hb)
    clear hb
    clear ehx00 ehx01 ehr0 fhr0 ehr1 fhr1
    have ehx00 := hx0_6.out.cell 0
    have ehx01 := hx0_6.out.cell 1
    have ehr0 := hr_6.out.cell 0
    have ehr1 := hr_6.out.cell 1
    have fhr0 := hr_6.out.free 0
    have fhr1 := hr_6.out.free 1
    simp at ehx00 ehx01 ehr0 ehr1
    go_wp2_with fail
    refine (impl_withSign s1 q1 HQ1.out _ A8 N8 c8 rq _ HN8.out.symm (by omega) HO9b.out).mono ?_
    rintro e wh ⟨v, rfl, hv, ho, hb⟩
    have hx0_7 := Lib.hid (hx0_6.out.below hb hx0_6.out.lt)
    have hr_7 := Lib.hid (hr_6.out.below hb hr_6.out.lt)
    have BW_7 := Lib.hid (BW_6.out.trans (hb.mono BW_6.out.size))
    obtain ⟨A9, c9, rfl⟩ : ∃ A c, v = .slice A N8 c := own_slice ho
    have HAP : Hid (Apart (.slice A5 N5 c5) (.slice A9 N8 c9)) := apart_with HAP8.out hv
    have HOV := Lib.hid ho
    have HOU := Lib.hid (own_below HO5b.out hb)
    obtain ⟨s, hs⟩ : ∃ s, s = sgn q1 rq := ⟨_, rfl⟩
    have HQ := Lib.hid HQF.out
    rw [← hs] at HQ ⊢
    clear hv ho hb hs
    clear ehx00 ehx01 ehr0 fhr0 ehr1 fhr1
    have ehx00 := hx0_7.out.cell 0
    have ehx01 := hx0_7.out.cell 1
    have ehr0 := hr_7.out.cell 0
    have ehr1 := hr_7.out.cell 1
    have fhr0 := hr_7.out.free 0
    have fhr1 := hr_7.out.free 1
    simp at ehx00 ehx01 ehr0 ehr1
    have HV2 := Lib.hid (tail2 (g := w.heap.size + 1) HOV.out (by have := HG.out; omega) BW_7.out (by omega) (.bool s) (.slice A9 N8 c9))
    have HU2 := Lib.hid (tail2 (g := w.heap.size + 1) HOU.out (by have := HG4.out; omega) BW_7.out (by omega) (.bool s) (.slice A9 N8 c9))
    go_wp2_with fail
    refine bodyPost_ret (v := .tuple #[.agg #[.bool s, .slice A9 N8 c9], .slice A5 N5 c5]) (by simp [results, Try.results38, ehr0, ehr1, go_sem]) rfl ?_
    exact ⟨s, rq, _, r2, _, rfl, HQ.out, ⟨by rw [← HN8.out]; omega, by rw [← HN8.out]; exact HV2.out.1⟩, ⟨by rw [← HN5.out]; omega, by rw [← HN5.out]; exact HU2.out.1⟩, HAP.out, HV2.out.2⟩
  · have hg0 : Hid (∀ b : Bool, g = b → b = true → val r = 0) := fun b hb hg => by
      subst hb
      have : Nr = 0 := Nat.eq_zero_of_not_pos (fun h => hneg ⟨hg, h⟩)
      rw [List.eq_nil_of_length_eq_zero (HNR.out.symm.trans this)]; rfl
    have HQF : Hid (BigIntFloorDivIs g xs ms (sgn q1 q) q r) := floor_i K1.out K2.out HP.out HD.out HL60.out (fun h => hg0.out g rfl h) (by rw [HI1.out.1]; exact Hs1.out) HQ1.out
    have hcase : g = false ∨ (g = true ∧ (Nr : Int) < 1) := by cases g <;> simp at hneg ⊢; omega
    clear hneg hg0
    rcases hcase with rfl | ⟨rfl, hN0⟩
    · have htok := trivial
      clear htok
      go_wp2_with fail
      refine (impl_signOf false A1 n1 c1 s1 _ Hs1.out (by omega)).mono ?_
      rintro e we ⟨rfl, hb⟩
      have hx0_3 := Lib.hid (hx0_2.out.below hb hx0_2.out.lt)
      have hr_3 := Lib.hid (hr_2.out.below hb hr_2.out.lt)
      have BW_3 := Lib.hid (BW_2.out.trans (hb.mono BW_2.out.size))
      have HOQ2 := Lib.hid (own_below HOQ.out hb)
      have HOR2 := Lib.hid (own_below HOR.out hb)
      clear hb
      clear ehx00 ehx01 ehr0 fhr0 ehr1 fhr1
      have ehx00 := hx0_3.out.cell 0
      have ehx01 := hx0_3.out.cell 1
      have ehr0 := hr_3.out.cell 0
      have ehr1 := hr_3.out.cell 1
      have fhr0 := hr_3.out.free 0
      have fhr1 := hr_3.out.free 1
      simp at ehx00 ehx01 ehr0 ehr1
      go_wp2_with fail
      refine (impl_withSign s1 q1 HQ1.out _ Aq Nq cq q _ HNQ.out.symm (by omega) HOQ2.out).mono ?_
      rintro e wf ⟨v, rfl, hv, ho, hb⟩
      have hx0_4 := Lib.hid (hx0_3.out.below hb hx0_3.out.lt)
      have hr_4 := Lib.hid (hr_3.out.below hb hr_3.out.lt)
      have BW_4 := Lib.hid (BW_3.out.trans (hb.mono BW_3.out.size))
      obtain ⟨A9, c9, rfl⟩ : ∃ A c, v = .slice A Nq c := own_slice ho
      have HAP : Hid (Apart (.slice Ar Nr cr) (.slice A9 Nq c9)) := apart_with HAP0.out hv
      have HOV := Lib.hid ho
      have HOU := Lib.hid (own_below HOR2.out hb)
      obtain ⟨s, hs⟩ : ∃ s, s = sgn q1 q := ⟨_, rfl⟩
      have HQ := Lib.hid HQF.out
      rw [← hs] at HQ ⊢
      clear hv ho hb hs
      clear ehx00 ehx01 ehr0 fhr0 ehr1 fhr1
      have ehx00 := hx0_4.out.cell 0
      have ehx01 := hx0_4.out.cell 1
      have ehr0 := hr_4.out.cell 0
      have ehr1 := hr_4.out.cell 1
      have fhr0 := hr_4.out.free 0
      have fhr1 := hr_4.out.free 1
      simp at ehx00 ehx01 ehr0 ehr1
      have HV2 := Lib.hid (tail2 (g := w.heap.size + 1) HOV.out (by have := HGV.out; omega) BW_4.out (by omega) (.bool s) (.slice A9 Nq c9))
      have HU2 := Lib.hid (tail2 (g := w.heap.size + 1) HOU.out (by have := HGV.out; omega) BW_4.out (by omega) (.bool s) (.slice A9 Nq c9))
      go_wp2_with fail
      refine bodyPost_ret (v := .tuple #[.agg #[.bool s, .slice A9 Nq c9], .slice Ar Nr cr]) (by simp [results, Try.results38, ehr0, ehr1, go_sem]) rfl ?_
      exact ⟨s, q, _, r, _, rfl, HQ.out, ⟨by rw [← HNQ.out]; omega, by rw [← HNQ.out]; exact HV2.out.1⟩, ⟨by rw [← HNR.out]; omega, by rw [← HNR.out]; exact HU2.out.1⟩, HAP.out, HV2.out.2⟩
    · have htok := trivial
      clear htok
      go_wp2_with fail
      refine (impl_signOf true A1 n1 c1 s1 _ Hs1.out (by omega)).mono ?_
      rintro e we ⟨rfl, hb⟩
      have hx0_3 := Lib.hid (hx0_2.out.below hb hx0_2.out.lt)
      have hr_3 := Lib.hid (hr_2.out.below hb hr_2.out.lt)
      have BW_3 := Lib.hid (BW_2.out.trans (hb.mono BW_2.out.size))
      have HOQ2 := Lib.hid (own_below HOQ.out hb)
      have HOR2 := Lib.hid (own_below HOR.out hb)
      clear hb
      clear ehx00 ehx01 ehr0 fhr0 ehr1 fhr1
      have ehx00 := hx0_3.out.cell 0
      have ehx01 := hx0_3.out.cell 1
      have ehr0 := hr_3.out.cell 0
      have ehr1 := hr_3.out.cell 1
      have fhr0 := hr_3.out.free 0
      have fhr1 := hr_3.out.free 1
      simp at ehx00 ehx01 ehr0 ehr1
      go_wp2_with fail
      refine (impl_withSign s1 q1 HQ1.out _ Aq Nq cq q _ HNQ.out.symm (by omega) HOQ2.out).mono ?_
      rintro e wf ⟨v, rfl, hv, ho, hb⟩
      have hx0_4 := Lib.hid (hx0_3.out.below hb hx0_3.out.lt)
      have hr_4 := Lib.hid (hr_3.out.below hb hr_3.out.lt)
      have BW_4 := Lib.hid (BW_3.out.trans (hb.mono BW_3.out.size))
      obtain ⟨A9, c9, rfl⟩ : ∃ A c, v = .slice A Nq c := own_slice ho
      have HAP : Hid (Apart (.slice Ar Nr cr) (.slice A9 Nq c9)) := apart_with HAP0.out hv
      have HOV := Lib.hid ho
      have HOU := Lib.hid (own_below HOR2.out hb)
      obtain ⟨s, hs⟩ : ∃ s, s = sgn q1 q := ⟨_, rfl⟩
      have HQ := Lib.hid HQF.out
      rw [← hs] at HQ ⊢
      clear hv ho hb hs
      clear ehx00 ehx01 ehr0 fhr0 ehr1 fhr1
      have ehx00 := hx0_4.out.cell 0
      have ehx01 := hx0_4.out.cell 1
      have ehr0 := hr_4.out.cell 0
      have ehr1 := hr_4.out.cell 1
      have fhr0 := hr_4.out.free 0
      have fhr1 := hr_4.out.free 1
      simp at ehx00 ehx01 ehr0 ehr1
      have HV2 := Lib.hid (tail2 (g := w.heap.size + 1) HOV.out (by have := HGV.out; omega) BW_4.out (by omega) (.bool s) (.slice A9 Nq c9))
      have HU2 := Lib.hid (tail2 (g := w.heap.size + 1) HOU.out (by have := HGV.out; omega) BW_4.out (by omega) (.bool s) (.slice A9 Nq c9))
      go_wp2_with fail
      refine bodyPost_ret (v := .tuple #[.agg #[.bool s, .slice A9 Nq c9], .slice Ar Nr cr]) (by simp [results, Try.results38, ehr0, ehr1, go_sem]) rfl ?_
      exact ⟨s, q, _, r, _, rfl, HQ.out, ⟨by rw [← HNQ.out]; omega, by rw [← HNQ.out]; exact HV2.out.1⟩, ⟨by rw [← HNR.out]; omega, by rw [← HNR.out]; exact HU2.out.1⟩, HAP.out, HV2.out.2⟩
theorem impl_bigIntFloorDiv (g : Bool) (A1 : Option Addr) (n1 c1 : Nat) (xs : List Int) (A2 : Option Addr) (n2 c2 : Nat) (ms : List Int) (w : World) (h1 : InI w A1 n1 xs) (_r1 : Room A1 n1 c1) (h2 : InI w A2 n2 ms) :
    Calls Try.prog 38 #[.agg #[.bool g, .slice A1 n1 c1], .slice A2 n2 c2] w fun e w' => ∃ h q v r u, e = .returned (.tuple #[.agg #[.bool h, v], u]) ∧ BigIntFloorDivIs g xs ms h q r ∧ ResI w w' v q ∧ ResI w w' u r ∧ Apart u v ∧ Below w.heap.size w w' :=
  (impl_bigIntFloorDiv' g A1 n1 c1 xs A2 n2 c2 ms w h1 h2).mono fun _ _ h => h
end Go.Proofs.Ytjjbgpgpacopjaa
