/- Contracts of the program's big integers: sums, differences, products. -/
import Derived.Test.YtjggdbakbhacjaaBigI2
namespace Go.Proofs.Ytjggdbakbhacjaa
set_option maxRecDepth 100000
open Go.RowKit

theorem add_i {g1 g2 h : Bool} {xs ys r : List Int} {s1 s2 : Int} (k1 : BOk g1 xs) (k2 : BOk g2 ys) (e1 : bval g1 xs = s1 * val xs) (e2 : bval g2 ys = s2 * val ys) (q : BRep (s1 * val xs + s2 * val ys) h r) : BigIntAddIs g1 xs g2 ys h r :=
  .inl ⟨⟨k1, k2⟩, by rwa [e1, e2]⟩
theorem sub_i {g1 g2 h : Bool} {xs ys r : List Int} {s1 s2 : Int} (k1 : BOk g1 xs) (k2 : BOk g2 ys) (e1 : bval g1 xs = s1 * val xs) (e2 : bval g2 ys = s2 * val ys) (q : BRep (s1 * val xs + -s2 * val ys) h r) : BigIntSubIs g1 xs g2 ys h r :=
  .inl ⟨⟨k1, k2⟩, by rw [e1, e2]; rwa [Int.neg_mul, ← Int.sub_eq_add_neg] at q⟩
theorem mul_i {g1 g2 q : Bool} {xs ys r : List Int} {s1 s2 p : Int} (k1 : BOk g1 xs) (k2 : BOk g2 ys) (s1k : SOk s1 xs) (s2k : SOk s2 ys) (e1 : bval g1 xs = s1 * val xs) (e2 : bval g2 ys = s2 * val ys) (hp : s1 * s2 = p) (hq : decide (p = -1) = q) (h : NatMulIs xs ys r) : BigIntMulIs g1 xs g2 ys (sgn q r) r := by
  subst hq hp
  exact .inl ⟨⟨k1, k2⟩, by rw [e1, e2]; exact mul_s s1k s2k (bin_cap h ⟨k1.1, k2.1⟩)⟩
set_option maxRecDepth 100000 in
set_option maxHeartbeats 1600000 in
theorem impl_bigIntAdd' (g1 : Bool) (A1 : Option Addr) (n1 c1 : Nat) (xs : List Int) (g2 : Bool) (A2 : Option Addr) (n2 c2 : Nat) (ys : List Int) (w : World) (h1 : InI w A1 n1 xs) (h2 : InI w A2 n2 ys) (r1 : Room A1 n1 c1) (r2 : Room A2 n2 c2) :
    Calls Try.prog 116 #[.agg #[.bool g1, .slice A1 n1 c1], .agg #[.bool g2, .slice A2 n2 c2]] w fun e w' => BigEnd (BigIntAddIs g1 xs g2 ys) w w' e := by
  have hx0_0 := Lib.hid (((by have := Box.new w 24 #[.bool g1, .slice A1 n1 c1]; simpa using this : Box (w.alloc (.cells #[.bool g1, .slice A1 n1 c1] 24)) (w.heap.size) 24 #[.bool g1, .slice A1 n1 c1]).alloc (.cells #[.bool g2, .slice A2 n2 c2] 24)).alloc (.cells #[.bool false, .slice none 0 0] 24))
  have hx1_0 := Lib.hid ((by have := Box.new (w.alloc (.cells #[.bool g1, .slice A1 n1 c1] 24)) 24 #[.bool g2, .slice A2 n2 c2]; simpa using this : Box ((w.alloc (.cells #[.bool g1, .slice A1 n1 c1] 24)).alloc (.cells #[.bool g2, .slice A2 n2 c2] 24)) (w.heap.size + 1) 24 #[.bool g2, .slice A2 n2 c2]).alloc (.cells #[.bool false, .slice none 0 0] 24))
  have hr_0 := Lib.hid (by have := Box.new ((w.alloc (.cells #[.bool g1, .slice A1 n1 c1] 24)).alloc (.cells #[.bool g2, .slice A2 n2 c2] 24)) 24 #[.bool false, .slice none 0 0]; simpa using this : Box (((w.alloc (.cells #[.bool g1, .slice A1 n1 c1] 24)).alloc (.cells #[.bool g2, .slice A2 n2 c2] 24)).alloc (.cells #[.bool false, .slice none 0 0] 24)) (w.heap.size + 1 + 1) 24 #[.bool false, .slice none 0 0])
  have BW_0 := Lib.hid ((((Below.refl w.heap.size w).alloc (by simp) (.cells #[.bool g1, .slice A1 n1 c1] 24)).alloc (by simp) (.cells #[.bool g2, .slice A2 n2 c2] 24)).alloc (by simp; omega) (.cells #[.bool false, .slice none 0 0] 24))
  have hn1 := h1.2.1
  have hn2 := h2.2.1
  have HI1 := Lib.hid (h1.below BW_0.out)
  have HI2 := Lib.hid (h2.below BW_0.out)
  have R1 := Lib.hid r1
  have R2 := Lib.hid r2
  clear h1 h2 r1 r2
  go_enter Try.func116, Try.ntmps116
  go_wp2_with fail
  refine (impl_bigOk' g1 A1 n1 c1 xs _ HI1.out).mono ?_
  rintro e wa ⟨⟨b, rfl, hi1⟩, hb⟩
  have hx0_1 := Lib.hid (hx0_0.out.below hb hx0_0.out.lt)
  have hx1_1 := Lib.hid (hx1_0.out.below hb hx1_0.out.lt)
  have hr_1 := Lib.hid (hr_0.out.below hb hr_0.out.lt)
  have BW_1 := Lib.hid (BW_0.out.trans (hb.mono BW_0.out.size))
  replace HI1 := Lib.hid (HI1.out.below hb)
  replace HI2 := Lib.hid (HI2.out.below hb)
  clear hb
  have ehx00 := hx0_1.out.cell 0
  have ehx01 := hx0_1.out.cell 1
  have ehx10 := hx1_1.out.cell 0
  have ehx11 := hx1_1.out.cell 1
  have ehr0 := hr_1.out.cell 0
  have ehr1 := hr_1.out.cell 1
  have fhr0 := hr_1.out.free 0
  have fhr1 := hr_1.out.free 1
  simp at ehx00 ehx01 ehx10 ehx11 ehr0 ehr1
  cases b
  · have hno : ¬ (BOk g1 xs ∧ BOk g2 ys) := fun h => by have := hi1.2 h.1; cases this
    clear hi1
    have HZ : Hid (BigIntAddIs g1 xs g2 ys false []) := .inr ⟨hno, rfl, rfl⟩
    go_wp2_with fail
    refine bodyPost_ret (v := .agg #[.bool false, .slice none 0 0]) (by simp [results, Try.results116, ehr0, ehr1, go_sem]) rfl ?_
    exact bigEnd_zero HZ.out ((BW_1.out.setCell (by dsimp only; omega) _).setCell (by dsimp only; omega) _)
  have K1 := Lib.hid (hi1.1 rfl)
  clear hi1
  go_wp2_with fail
  refine (impl_bigOk' g2 A2 n2 c2 ys _ HI2.out).mono ?_
  rintro e wb ⟨⟨b, rfl, hi2⟩, hb⟩
  have hx0_2 := Lib.hid (hx0_1.out.below hb hx0_1.out.lt)
  have hx1_2 := Lib.hid (hx1_1.out.below hb hx1_1.out.lt)
  have hr_2 := Lib.hid (hr_1.out.below hb hr_1.out.lt)
  have BW_2 := Lib.hid (BW_1.out.trans (hb.mono BW_1.out.size))
  replace HI1 := Lib.hid (HI1.out.below hb)
  replace HI2 := Lib.hid (HI2.out.below hb)
  clear hb
  clear ehx00 ehx01 ehx10 ehx11 ehr0 fhr0 ehr1 fhr1
  have ehx00 := hx0_2.out.cell 0
  have ehx01 := hx0_2.out.cell 1
  have ehx10 := hx1_2.out.cell 0
  have ehx11 := hx1_2.out.cell 1
  have ehr0 := hr_2.out.cell 0
  have ehr1 := hr_2.out.cell 1
  have fhr0 := hr_2.out.free 0
  have fhr1 := hr_2.out.free 1
  simp at ehx00 ehx01 ehx10 ehx11 ehr0 ehr1
  cases b
  · have hno : ¬ (BOk g1 xs ∧ BOk g2 ys) := fun h => by have := hi2.2 h.2; cases this
    clear hi2
    have HZ : Hid (BigIntAddIs g1 xs g2 ys false []) := .inr ⟨hno, rfl, rfl⟩
    go_wp2_with fail
    refine bodyPost_ret (v := .agg #[.bool false, .slice none 0 0]) (by simp [results, Try.results116, ehr0, ehr1, go_sem]) rfl ?_
    exact bigEnd_zero HZ.out ((BW_2.out.setCell (by dsimp only; omega) _).setCell (by dsimp only; omega) _)
  have K2 := Lib.hid (hi2.1 rfl)
  clear hi2
  go_wp2_with fail
  clear ehx00 ehx01 ehx10 ehx11 ehr0 fhr0 ehr1 fhr1
  have sk1 := sok_sg K1.out HI1.out.1
  have hbd1 := sg_bd g1 n1
  obtain ⟨s1, hs1⟩ : ∃ s, sg g1 n1 = s := ⟨_, rfl⟩
  rw [hs1] at sk1 hbd1
  have SK1 := Lib.hid sk1.1
  have E1 := Lib.hid sk1.2
  have Hs1 := Lib.hid hs1
  clear sk1 hs1
  have sk2 := sok_sg K2.out HI2.out.1
  have hbd2 := sg_bd g2 n2
  obtain ⟨s2, hs2⟩ : ∃ s, sg g2 n2 = s := ⟨_, rfl⟩
  rw [hs2] at sk2 hbd2
  have SK2 := Lib.hid sk2.1
  have E2 := Lib.hid sk2.2
  have Hs2 := Lib.hid hs2
  clear sk2 hs2
  have hx0_3 := Lib.hid hx0_2.out.drew
  have hx1_3 := Lib.hid hx1_2.out.drew
  have hr_3 := Lib.hid hr_2.out.drew
  have BW_3 := Lib.hid BW_2.out.drew
  replace HI1 := Lib.hid HI1.out.drew
  replace HI2 := Lib.hid HI2.out.drew
  go_region_held3 (fun w' => w'.cell? ⟨w.heap.size, 0, none⟩ = some (.bool g1) ∧ w'.cell? ⟨w.heap.size, 1, none⟩ = some (.slice A1 n1 c1) ∧ w'.cell? ⟨w.heap.size + 1, 0, none⟩ = some (.bool g2) ∧ w'.cell? ⟨w.heap.size + 1, 1, none⟩ = some (.slice A2 n2 c2)) (first | exact two_boxes hx0_3.out hx1_3.out | exact two_boxes hx0_4.out hx1_4.out | exact two_boxes hx0_5.out hx1_5.out | exact two_boxes hx0_6.out hx1_6.out | exact two_boxes ((hx0_6.out.far (by dsimp only; omega) _).far (by dsimp only; omega) _) ((hx1_6.out.far (by dsimp only; omega) _).far (by dsimp only; omega) _)) (first | (go_at_call 149; refine (impl_addSigned s1 A1 n1 c1 xs s2 A2 n2 c2 ys _ HI1.out HI2.out SK1.out SK2.out).mono ?_; rintro e wz ⟨s, r, v, rfl, hq, hres, hb⟩; obtain ⟨A9, c9, rfl, hl, ho⟩ := own_rows hres; obtain ⟨N, hN⟩ : ∃ N, N = r.length := ⟨_, rfl⟩; rw [← hN] at ho hl ⊢; obtain ⟨bx, e0, e1, f0, f1⟩ := box_facts (hr_5.out.below hb hr_5.out.lt); simp at e0 e1; have HQ := Lib.hid (add_i K1.out K2.out E1.out E2.out hq); have HV := Lib.hid (tail2 (g := w.heap.size + 1 + 1) ho hr_5.out.lt (BW_5.out.trans (hb.mono BW_5.out.size)) (by omega) (.bool s) (.slice A9 N c9)); have HN := Lib.hid hN; have HL := Lib.hid hl; have hx0_6 := Lib.hid (hx0_5.out.below hb hx0_5.out.lt); have hx1_6 := Lib.hid (hx1_5.out.below hb hx1_5.out.lt); have BW_6 := Lib.hid (BW_5.out.trans (hb.mono BW_5.out.size)); clear hq hres ho hl hb bx hN) | (go_at_call 148; (with_reducible refine (impl_signOf g1 A1 n1 c1 s1 _ Hs1.out (by omega)).mono ?_); rintro e w4 ⟨rfl, hb⟩; have hx0_4 := Lib.hid (hx0_3.out.below hb hx0_3.out.lt); have hx1_4 := Lib.hid (hx1_3.out.below hb hx1_3.out.lt); have hr_4 := Lib.hid (hr_3.out.below hb hr_3.out.lt); have BW_4 := Lib.hid (BW_3.out.trans (hb.mono BW_3.out.size)); replace HI1 := Lib.hid (HI1.out.below hb); replace HI2 := Lib.hid (HI2.out.below hb); clear hb) | (go_at_call 148; (with_reducible refine (impl_signOf g2 A2 n2 c2 s2 _ Hs2.out (by omega)).mono ?_); rintro e w5 ⟨rfl, hb⟩; have hx0_5 := Lib.hid (hx0_4.out.below hb hx0_4.out.lt); have hx1_5 := Lib.hid (hx1_4.out.below hb hx1_4.out.lt); have hr_5 := Lib.hid (hr_4.out.below hb hr_4.out.lt); have BW_5 := Lib.hid (BW_4.out.trans (hb.mono BW_4.out.size)); replace HI1 := Lib.hid (HI1.out.below hb); replace HI2 := Lib.hid (HI2.out.below hb); clear hb))
  go_wp2_with fail
  refine bodyPost_ret (v := .agg #[.bool s, .slice A9 N c9]) (by simp [results, Try.results116, e0, e1, go_sem]) rfl ?_
  exact ⟨s, r, _, rfl, HQ.out, ⟨by rw [← HN.out]; exact HL.out, by rw [← HN.out]; exact HV.out.1⟩, HV.out.2⟩
theorem impl_bigIntAdd (g1 : Bool) (A1 : Option Addr) (n1 c1 : Nat) (xs : List Int) (g2 : Bool) (A2 : Option Addr) (n2 c2 : Nat) (ys : List Int) (w : World) (h1 : InI w A1 n1 xs) (r1 : Room A1 n1 c1) (h2 : InI w A2 n2 ys) (r2 : Room A2 n2 c2) :
    Calls Try.prog 116 #[.agg #[.bool g1, .slice A1 n1 c1], .agg #[.bool g2, .slice A2 n2 c2]] w fun e w' => ∃ g r v, e = .returned (.agg #[.bool g, v]) ∧ BigIntAddIs g1 xs g2 ys g r ∧ ResI w w' v r ∧ Below w.heap.size w w' :=
  (impl_bigIntAdd' g1 A1 n1 c1 xs g2 A2 n2 c2 ys w h1 h2 r1 r2).mono fun _ _ ⟨g, r, v, he, hi, hr, hb⟩ => ⟨g, r, v, he, hi, hr, hb⟩
set_option maxRecDepth 100000 in
set_option maxHeartbeats 1600000 in
theorem impl_bigIntSub' (g1 : Bool) (A1 : Option Addr) (n1 c1 : Nat) (xs : List Int) (g2 : Bool) (A2 : Option Addr) (n2 c2 : Nat) (ys : List Int) (w : World) (h1 : InI w A1 n1 xs) (h2 : InI w A2 n2 ys) (r1 : Room A1 n1 c1) (r2 : Room A2 n2 c2) :
    Calls Try.prog 120 #[.agg #[.bool g1, .slice A1 n1 c1], .agg #[.bool g2, .slice A2 n2 c2]] w fun e w' => BigEnd (BigIntSubIs g1 xs g2 ys) w w' e := by
  have hx0_0 := Lib.hid (((by have := Box.new w 24 #[.bool g1, .slice A1 n1 c1]; simpa using this : Box (w.alloc (.cells #[.bool g1, .slice A1 n1 c1] 24)) (w.heap.size) 24 #[.bool g1, .slice A1 n1 c1]).alloc (.cells #[.bool g2, .slice A2 n2 c2] 24)).alloc (.cells #[.bool false, .slice none 0 0] 24))
  have hx1_0 := Lib.hid ((by have := Box.new (w.alloc (.cells #[.bool g1, .slice A1 n1 c1] 24)) 24 #[.bool g2, .slice A2 n2 c2]; simpa using this : Box ((w.alloc (.cells #[.bool g1, .slice A1 n1 c1] 24)).alloc (.cells #[.bool g2, .slice A2 n2 c2] 24)) (w.heap.size + 1) 24 #[.bool g2, .slice A2 n2 c2]).alloc (.cells #[.bool false, .slice none 0 0] 24))
  have hr_0 := Lib.hid (by have := Box.new ((w.alloc (.cells #[.bool g1, .slice A1 n1 c1] 24)).alloc (.cells #[.bool g2, .slice A2 n2 c2] 24)) 24 #[.bool false, .slice none 0 0]; simpa using this : Box (((w.alloc (.cells #[.bool g1, .slice A1 n1 c1] 24)).alloc (.cells #[.bool g2, .slice A2 n2 c2] 24)).alloc (.cells #[.bool false, .slice none 0 0] 24)) (w.heap.size + 1 + 1) 24 #[.bool false, .slice none 0 0])
  have BW_0 := Lib.hid ((((Below.refl w.heap.size w).alloc (by simp) (.cells #[.bool g1, .slice A1 n1 c1] 24)).alloc (by simp) (.cells #[.bool g2, .slice A2 n2 c2] 24)).alloc (by simp; omega) (.cells #[.bool false, .slice none 0 0] 24))
  have hn1 := h1.2.1
  have hn2 := h2.2.1
  have HI1 := Lib.hid (h1.below BW_0.out)
  have HI2 := Lib.hid (h2.below BW_0.out)
  have R1 := Lib.hid r1
  have R2 := Lib.hid r2
  clear h1 h2 r1 r2
  go_enter Try.func120, Try.ntmps120
  go_wp2_with fail
  refine (impl_bigOk' g1 A1 n1 c1 xs _ HI1.out).mono ?_
  rintro e wa ⟨⟨b, rfl, hi1⟩, hb⟩
  have hx0_1 := Lib.hid (hx0_0.out.below hb hx0_0.out.lt)
  have hx1_1 := Lib.hid (hx1_0.out.below hb hx1_0.out.lt)
  have hr_1 := Lib.hid (hr_0.out.below hb hr_0.out.lt)
  have BW_1 := Lib.hid (BW_0.out.trans (hb.mono BW_0.out.size))
  replace HI1 := Lib.hid (HI1.out.below hb)
  replace HI2 := Lib.hid (HI2.out.below hb)
  clear hb
  have ehx00 := hx0_1.out.cell 0
  have ehx01 := hx0_1.out.cell 1
  have ehx10 := hx1_1.out.cell 0
  have ehx11 := hx1_1.out.cell 1
  have ehr0 := hr_1.out.cell 0
  have ehr1 := hr_1.out.cell 1
  have fhr0 := hr_1.out.free 0
  have fhr1 := hr_1.out.free 1
  simp at ehx00 ehx01 ehx10 ehx11 ehr0 ehr1
  cases b
  · have hno : ¬ (BOk g1 xs ∧ BOk g2 ys) := fun h => by have := hi1.2 h.1; cases this
    clear hi1
    have HZ : Hid (BigIntSubIs g1 xs g2 ys false []) := .inr ⟨hno, rfl, rfl⟩
    go_wp2_with fail
    refine bodyPost_ret (v := .agg #[.bool false, .slice none 0 0]) (by simp [results, Try.results120, ehr0, ehr1, go_sem]) rfl ?_
    exact bigEnd_zero HZ.out ((BW_1.out.setCell (by dsimp only; omega) _).setCell (by dsimp only; omega) _)
  have K1 := Lib.hid (hi1.1 rfl)
  clear hi1
  go_wp2_with fail
  refine (impl_bigOk' g2 A2 n2 c2 ys _ HI2.out).mono ?_
  rintro e wb ⟨⟨b, rfl, hi2⟩, hb⟩
  have hx0_2 := Lib.hid (hx0_1.out.below hb hx0_1.out.lt)
  have hx1_2 := Lib.hid (hx1_1.out.below hb hx1_1.out.lt)
  have hr_2 := Lib.hid (hr_1.out.below hb hr_1.out.lt)
  have BW_2 := Lib.hid (BW_1.out.trans (hb.mono BW_1.out.size))
  replace HI1 := Lib.hid (HI1.out.below hb)
  replace HI2 := Lib.hid (HI2.out.below hb)
  clear hb
  clear ehx00 ehx01 ehx10 ehx11 ehr0 fhr0 ehr1 fhr1
  have ehx00 := hx0_2.out.cell 0
  have ehx01 := hx0_2.out.cell 1
  have ehx10 := hx1_2.out.cell 0
  have ehx11 := hx1_2.out.cell 1
  have ehr0 := hr_2.out.cell 0
  have ehr1 := hr_2.out.cell 1
  have fhr0 := hr_2.out.free 0
  have fhr1 := hr_2.out.free 1
  simp at ehx00 ehx01 ehx10 ehx11 ehr0 ehr1
  cases b
  · have hno : ¬ (BOk g1 xs ∧ BOk g2 ys) := fun h => by have := hi2.2 h.2; cases this
    clear hi2
    have HZ : Hid (BigIntSubIs g1 xs g2 ys false []) := .inr ⟨hno, rfl, rfl⟩
    go_wp2_with fail
    refine bodyPost_ret (v := .agg #[.bool false, .slice none 0 0]) (by simp [results, Try.results120, ehr0, ehr1, go_sem]) rfl ?_
    exact bigEnd_zero HZ.out ((BW_2.out.setCell (by dsimp only; omega) _).setCell (by dsimp only; omega) _)
  have K2 := Lib.hid (hi2.1 rfl)
  clear hi2
  go_wp2_with fail
  clear ehx00 ehx01 ehx10 ehx11 ehr0 fhr0 ehr1 fhr1
  have sk1 := sok_sg K1.out HI1.out.1
  have hbd1 := sg_bd g1 n1
  obtain ⟨s1, hs1⟩ : ∃ s, sg g1 n1 = s := ⟨_, rfl⟩
  rw [hs1] at sk1 hbd1
  have SK1 := Lib.hid sk1.1
  have E1 := Lib.hid sk1.2
  have Hs1 := Lib.hid hs1
  clear sk1 hs1
  have sk2 := sok_sg K2.out HI2.out.1
  have hbd2 := sg_bd g2 n2
  obtain ⟨s2, hs2⟩ : ∃ s, sg g2 n2 = s := ⟨_, rfl⟩
  rw [hs2] at sk2 hbd2
  have SK2 := Lib.hid sk2.1
  have E2 := Lib.hid sk2.2
  have Hs2 := Lib.hid hs2
  clear sk2 hs2
  have hwr : IntKind.i64.wrap (-s2) = -s2 := IntWalk.i64_in _ (by omega)
  have hx0_3 := Lib.hid hx0_2.out.drew
  have hx1_3 := Lib.hid hx1_2.out.drew
  have hr_3 := Lib.hid hr_2.out.drew
  have BW_3 := Lib.hid BW_2.out.drew
  replace HI1 := Lib.hid HI1.out.drew
  replace HI2 := Lib.hid HI2.out.drew
  go_region_held3 (fun w' => w'.cell? ⟨w.heap.size, 0, none⟩ = some (.bool g1) ∧ w'.cell? ⟨w.heap.size, 1, none⟩ = some (.slice A1 n1 c1) ∧ w'.cell? ⟨w.heap.size + 1, 0, none⟩ = some (.bool g2) ∧ w'.cell? ⟨w.heap.size + 1, 1, none⟩ = some (.slice A2 n2 c2)) (first | exact two_boxes hx0_3.out hx1_3.out | exact two_boxes hx0_4.out hx1_4.out | exact two_boxes hx0_5.out hx1_5.out | exact two_boxes hx0_6.out hx1_6.out | exact two_boxes ((hx0_6.out.far (by dsimp only; omega) _).far (by dsimp only; omega) _) ((hx1_6.out.far (by dsimp only; omega) _).far (by dsimp only; omega) _)) (first | (go_at_call 149; refine (impl_addSigned s1 A1 n1 c1 xs (-s2) A2 n2 c2 ys _ HI1.out HI2.out SK1.out (sok_neg SK2.out)).mono ?_; rintro e wz ⟨s, r, v, rfl, hq, hres, hb⟩; obtain ⟨A9, c9, rfl, hl, ho⟩ := own_rows hres; obtain ⟨N, hN⟩ : ∃ N, N = r.length := ⟨_, rfl⟩; rw [← hN] at ho hl ⊢; obtain ⟨bx, e0, e1, f0, f1⟩ := box_facts (hr_5.out.below hb hr_5.out.lt); simp at e0 e1; have HQ := Lib.hid (sub_i K1.out K2.out E1.out E2.out hq); have HV := Lib.hid (tail2 (g := w.heap.size + 1 + 1) ho hr_5.out.lt (BW_5.out.trans (hb.mono BW_5.out.size)) (by omega) (.bool s) (.slice A9 N c9)); have HN := Lib.hid hN; have HL := Lib.hid hl; have hx0_6 := Lib.hid (hx0_5.out.below hb hx0_5.out.lt); have hx1_6 := Lib.hid (hx1_5.out.below hb hx1_5.out.lt); have BW_6 := Lib.hid (BW_5.out.trans (hb.mono BW_5.out.size)); clear hq hres ho hl hb bx hN) | (go_at_call 148; (with_reducible refine (impl_signOf g1 A1 n1 c1 s1 _ Hs1.out (by omega)).mono ?_); rintro e w4 ⟨rfl, hb⟩; have hx0_4 := Lib.hid (hx0_3.out.below hb hx0_3.out.lt); have hx1_4 := Lib.hid (hx1_3.out.below hb hx1_3.out.lt); have hr_4 := Lib.hid (hr_3.out.below hb hr_3.out.lt); have BW_4 := Lib.hid (BW_3.out.trans (hb.mono BW_3.out.size)); replace HI1 := Lib.hid (HI1.out.below hb); replace HI2 := Lib.hid (HI2.out.below hb); clear hb) | (go_at_call 148; (with_reducible refine (impl_signOf g2 A2 n2 c2 s2 _ Hs2.out (by omega)).mono ?_); rintro e w5 ⟨rfl, hb⟩; have hx0_5 := Lib.hid (hx0_4.out.below hb hx0_4.out.lt); have hx1_5 := Lib.hid (hx1_4.out.below hb hx1_4.out.lt); have hr_5 := Lib.hid (hr_4.out.below hb hr_4.out.lt); have BW_5 := Lib.hid (BW_4.out.trans (hb.mono BW_4.out.size)); replace HI1 := Lib.hid (HI1.out.below hb); replace HI2 := Lib.hid (HI2.out.below hb); clear hb))
  go_wp2_with fail
  refine bodyPost_ret (v := .agg #[.bool s, .slice A9 N c9]) (by simp [results, Try.results120, e0, e1, go_sem]) rfl ?_
  exact ⟨s, r, _, rfl, HQ.out, ⟨by rw [← HN.out]; exact HL.out, by rw [← HN.out]; exact HV.out.1⟩, HV.out.2⟩
theorem impl_bigIntSub (g1 : Bool) (A1 : Option Addr) (n1 c1 : Nat) (xs : List Int) (g2 : Bool) (A2 : Option Addr) (n2 c2 : Nat) (ys : List Int) (w : World) (h1 : InI w A1 n1 xs) (r1 : Room A1 n1 c1) (h2 : InI w A2 n2 ys) (r2 : Room A2 n2 c2) :
    Calls Try.prog 120 #[.agg #[.bool g1, .slice A1 n1 c1], .agg #[.bool g2, .slice A2 n2 c2]] w fun e w' => ∃ g r v, e = .returned (.agg #[.bool g, v]) ∧ BigIntSubIs g1 xs g2 ys g r ∧ ResI w w' v r ∧ Below w.heap.size w w' :=
  (impl_bigIntSub' g1 A1 n1 c1 xs g2 A2 n2 c2 ys w h1 h2 r1 r2).mono fun _ _ ⟨g, r, v, he, hi, hr, hb⟩ => ⟨g, r, v, he, hi, hr, hb⟩
set_option maxRecDepth 100000 in
set_option maxHeartbeats 1600000 in
theorem impl_bigIntMul' (g1 : Bool) (A1 : Option Addr) (n1 c1 : Nat) (xs : List Int) (g2 : Bool) (A2 : Option Addr) (n2 c2 : Nat) (ys : List Int) (w : World) (h1 : InI w A1 n1 xs) (h2 : InI w A2 n2 ys) (r1 : Room A1 n1 c1) (r2 : Room A2 n2 c2) :
    Calls Try.prog 121 #[.agg #[.bool g1, .slice A1 n1 c1], .agg #[.bool g2, .slice A2 n2 c2]] w fun e w' => BigEnd (BigIntMulIs g1 xs g2 ys) w w' e := by
  have hx0_0 := Lib.hid (((by have := Box.new w 24 #[.bool g1, .slice A1 n1 c1]; simpa using this : Box (w.alloc (.cells #[.bool g1, .slice A1 n1 c1] 24)) (w.heap.size) 24 #[.bool g1, .slice A1 n1 c1]).alloc (.cells #[.bool g2, .slice A2 n2 c2] 24)).alloc (.cells #[.bool false, .slice none 0 0] 24))
  have hx1_0 := Lib.hid ((by have := Box.new (w.alloc (.cells #[.bool g1, .slice A1 n1 c1] 24)) 24 #[.bool g2, .slice A2 n2 c2]; simpa using this : Box ((w.alloc (.cells #[.bool g1, .slice A1 n1 c1] 24)).alloc (.cells #[.bool g2, .slice A2 n2 c2] 24)) (w.heap.size + 1) 24 #[.bool g2, .slice A2 n2 c2]).alloc (.cells #[.bool false, .slice none 0 0] 24))
  have hr_0 := Lib.hid (by have := Box.new ((w.alloc (.cells #[.bool g1, .slice A1 n1 c1] 24)).alloc (.cells #[.bool g2, .slice A2 n2 c2] 24)) 24 #[.bool false, .slice none 0 0]; simpa using this : Box (((w.alloc (.cells #[.bool g1, .slice A1 n1 c1] 24)).alloc (.cells #[.bool g2, .slice A2 n2 c2] 24)).alloc (.cells #[.bool false, .slice none 0 0] 24)) (w.heap.size + 1 + 1) 24 #[.bool false, .slice none 0 0])
  have BW_0 := Lib.hid ((((Below.refl w.heap.size w).alloc (by simp) (.cells #[.bool g1, .slice A1 n1 c1] 24)).alloc (by simp) (.cells #[.bool g2, .slice A2 n2 c2] 24)).alloc (by simp; omega) (.cells #[.bool false, .slice none 0 0] 24))
  have hn1 := h1.2.1
  have hn2 := h2.2.1
  have HI1 := Lib.hid (h1.below BW_0.out)
  have HI2 := Lib.hid (h2.below BW_0.out)
  have R1 := Lib.hid r1
  have R2 := Lib.hid r2
  clear h1 h2 r1 r2
  go_enter Try.func121, Try.ntmps121
  go_wp2_with fail
  refine (impl_bigOk' g1 A1 n1 c1 xs _ HI1.out).mono ?_
  rintro e wa ⟨⟨b, rfl, hi1⟩, hb⟩
  have hx0_1 := Lib.hid (hx0_0.out.below hb hx0_0.out.lt)
  have hx1_1 := Lib.hid (hx1_0.out.below hb hx1_0.out.lt)
  have hr_1 := Lib.hid (hr_0.out.below hb hr_0.out.lt)
  have BW_1 := Lib.hid (BW_0.out.trans (hb.mono BW_0.out.size))
  replace HI1 := Lib.hid (HI1.out.below hb)
  replace HI2 := Lib.hid (HI2.out.below hb)
  clear hb
  have ehx00 := hx0_1.out.cell 0
  have ehx01 := hx0_1.out.cell 1
  have ehx10 := hx1_1.out.cell 0
  have ehx11 := hx1_1.out.cell 1
  have ehr0 := hr_1.out.cell 0
  have ehr1 := hr_1.out.cell 1
  have fhr0 := hr_1.out.free 0
  have fhr1 := hr_1.out.free 1
  simp at ehx00 ehx01 ehx10 ehx11 ehr0 ehr1
  cases b
  · have hno : ¬ (BOk g1 xs ∧ BOk g2 ys) := fun h => by have := hi1.2 h.1; cases this
    clear hi1
    have HZ : Hid (BigIntMulIs g1 xs g2 ys false []) := .inr ⟨hno, rfl, rfl⟩
    go_wp2_with fail
    refine bodyPost_ret (v := .agg #[.bool false, .slice none 0 0]) (by simp [results, Try.results121, ehr0, ehr1, go_sem]) rfl ?_
    exact bigEnd_zero HZ.out ((BW_1.out.setCell (by dsimp only; omega) _).setCell (by dsimp only; omega) _)
  have K1 := Lib.hid (hi1.1 rfl)
  clear hi1
  go_wp2_with fail
  refine (impl_bigOk' g2 A2 n2 c2 ys _ HI2.out).mono ?_
  rintro e wb ⟨⟨b, rfl, hi2⟩, hb⟩
  have hx0_2 := Lib.hid (hx0_1.out.below hb hx0_1.out.lt)
  have hx1_2 := Lib.hid (hx1_1.out.below hb hx1_1.out.lt)
  have hr_2 := Lib.hid (hr_1.out.below hb hr_1.out.lt)
  have BW_2 := Lib.hid (BW_1.out.trans (hb.mono BW_1.out.size))
  replace HI1 := Lib.hid (HI1.out.below hb)
  replace HI2 := Lib.hid (HI2.out.below hb)
  clear hb
  clear ehx00 ehx01 ehx10 ehx11 ehr0 fhr0 ehr1 fhr1
  have ehx00 := hx0_2.out.cell 0
  have ehx01 := hx0_2.out.cell 1
  have ehx10 := hx1_2.out.cell 0
  have ehx11 := hx1_2.out.cell 1
  have ehr0 := hr_2.out.cell 0
  have ehr1 := hr_2.out.cell 1
  have fhr0 := hr_2.out.free 0
  have fhr1 := hr_2.out.free 1
  simp at ehx00 ehx01 ehx10 ehx11 ehr0 ehr1
  cases b
  · have hno : ¬ (BOk g1 xs ∧ BOk g2 ys) := fun h => by have := hi2.2 h.2; cases this
    clear hi2
    have HZ : Hid (BigIntMulIs g1 xs g2 ys false []) := .inr ⟨hno, rfl, rfl⟩
    go_wp2_with fail
    refine bodyPost_ret (v := .agg #[.bool false, .slice none 0 0]) (by simp [results, Try.results121, ehr0, ehr1, go_sem]) rfl ?_
    exact bigEnd_zero HZ.out ((BW_2.out.setCell (by dsimp only; omega) _).setCell (by dsimp only; omega) _)
  have K2 := Lib.hid (hi2.1 rfl)
  clear hi2
  go_wp2_with fail
  clear ehx00 ehx01 ehx10 ehx11 ehr0 fhr0 ehr1 fhr1
  have sk1 := sok_sg K1.out HI1.out.1
  have hbd1 := sg_bd g1 n1
  obtain ⟨s1, hs1⟩ : ∃ s, sg g1 n1 = s := ⟨_, rfl⟩
  rw [hs1] at sk1 hbd1
  have SK1 := Lib.hid sk1.1
  have E1 := Lib.hid sk1.2
  have Hs1 := Lib.hid hs1
  clear sk1 hs1
  have sk2 := sok_sg K2.out HI2.out.1
  have hbd2 := sg_bd g2 n2
  obtain ⟨s2, hs2⟩ : ∃ s, sg g2 n2 = s := ⟨_, rfl⟩
  rw [hs2] at sk2 hbd2
  have SK2 := Lib.hid sk2.1
  have E2 := Lib.hid sk2.2
  have Hs2 := Lib.hid hs2
  clear sk2 hs2
  obtain ⟨p, hp⟩ : ∃ p, s1 * s2 = p := ⟨_, rfl⟩
  obtain ⟨q3, hq3⟩ : ∃ q, decide (p = -1) = q := ⟨_, rfl⟩
  have HP3 := Lib.hid hp
  have HQ3 := Lib.hid hq3
  have hwr : IntKind.i64.wrap (s1 * s2) = p := by
    rw [hp]
    refine IntWalk.i64_in _ ?_
    rw [← hp]
    rcases SK1.out.2 with ⟨e, _⟩ | ⟨e, _⟩ | ⟨e, _⟩ <;> rw [e] <;> omega
  clear hp hq3
  have hx0_3 := Lib.hid hx0_2.out.drew
  have hx1_3 := Lib.hid hx1_2.out.drew
  have hr_3 := Lib.hid hr_2.out.drew
  have BW_3 := Lib.hid BW_2.out.drew
  replace HI1 := Lib.hid HI1.out.drew
  replace HI2 := Lib.hid HI2.out.drew
  go_region_held3 (fun w' => w'.cell? ⟨w.heap.size, 0, none⟩ = some (.bool g1) ∧ w'.cell? ⟨w.heap.size, 1, none⟩ = some (.slice A1 n1 c1) ∧ w'.cell? ⟨w.heap.size + 1, 0, none⟩ = some (.bool g2) ∧ w'.cell? ⟨w.heap.size + 1, 1, none⟩ = some (.slice A2 n2 c2)) (first | exact two_boxes hx0_3.out hx1_3.out | exact two_boxes hx0_4.out hx1_4.out | exact two_boxes hx0_5.out hx1_5.out | exact two_boxes hx0_6.out hx1_6.out | exact two_boxes hx0_7.out hx1_7.out | exact two_boxes ((hx0_7.out.far (by dsimp only; omega) _).far (by dsimp only; omega) _) ((hx1_7.out.far (by dsimp only; omega) _).far (by dsimp only; omega) _)) (first | (go_at_call 94; refine (impl_withSign p q3 HQ3.out _ A2m N c2m r _ HN.out.symm HL.out HO.out).mono ?_; rintro e wz ⟨v, rfl, hv, ho, hb⟩; obtain ⟨A9, c9, rfl⟩ : ∃ A c, v = .slice A N c := own_slice ho; obtain ⟨bx, e0, e1, f0, f1⟩ := box_facts (hr_6.out.below hb hr_6.out.lt); simp at e0 e1; have HV2 := Lib.hid (tail2 (g := w.heap.size + 1 + 1) ho HG.out (BW_6.out.trans (hb.mono BW_6.out.size)) (by omega)); obtain ⟨s, hs⟩ : ∃ s, s = sgn q3 r := ⟨_, rfl⟩; have HQ := Lib.hid (HQ0.out); rw [← hs] at HQ ⊢; have HV := Lib.hid (HV2.out (.bool s) (.slice A9 N c9)); have hx0_7 := Lib.hid (hx0_6.out.below hb hx0_6.out.lt); have hx1_7 := Lib.hid (hx1_6.out.below hb hx1_6.out.lt); have BW_7 := Lib.hid (BW_6.out.trans (hb.mono BW_6.out.size)); clear hs hv ho hb HV2 bx) | (go_at_call 150; refine (impl_natMul A1 n1 c1 xs A2 n2 c2 ys _ HI1.out HI2.out).mono ?_; rintro e wy ⟨r, v, rfl, hmul, hres, hb⟩; have HG := Lib.hid hr_5.out.lt; have hx0_6 := Lib.hid (hx0_5.out.below hb hx0_5.out.lt); have hx1_6 := Lib.hid (hx1_5.out.below hb hx1_5.out.lt); have hr_6 := Lib.hid (hr_5.out.below hb hr_5.out.lt); have BW_6 := Lib.hid (BW_5.out.trans (hb.mono BW_5.out.size)); obtain ⟨A2m, c2m, rfl, hl, ho⟩ := own_rows hres; obtain ⟨N, hN⟩ : ∃ N, N = r.length := ⟨_, rfl⟩; rw [← hN] at ho hl ⊢; have HO := Lib.hid ho; have HN := Lib.hid hN; have HL := Lib.hid hl; have HQ0 := Lib.hid (mul_i K1.out K2.out SK1.out SK2.out E1.out E2.out HP3.out HQ3.out hmul); clear hmul hres ho hl hb hN) | (go_at_call 148; (with_reducible refine (impl_signOf g1 A1 n1 c1 s1 _ Hs1.out (by omega)).mono ?_); rintro e w4 ⟨rfl, hb⟩; have hx0_4 := Lib.hid (hx0_3.out.below hb hx0_3.out.lt); have hx1_4 := Lib.hid (hx1_3.out.below hb hx1_3.out.lt); have hr_4 := Lib.hid (hr_3.out.below hb hr_3.out.lt); have BW_4 := Lib.hid (BW_3.out.trans (hb.mono BW_3.out.size)); replace HI1 := Lib.hid (HI1.out.below hb); replace HI2 := Lib.hid (HI2.out.below hb); clear hb) | (go_at_call 148; (with_reducible refine (impl_signOf g2 A2 n2 c2 s2 _ Hs2.out (by omega)).mono ?_); rintro e w5 ⟨rfl, hb⟩; have hx0_5 := Lib.hid (hx0_4.out.below hb hx0_4.out.lt); have hx1_5 := Lib.hid (hx1_4.out.below hb hx1_4.out.lt); have hr_5 := Lib.hid (hr_4.out.below hb hr_4.out.lt); have BW_5 := Lib.hid (BW_4.out.trans (hb.mono BW_4.out.size)); replace HI1 := Lib.hid (HI1.out.below hb); replace HI2 := Lib.hid (HI2.out.below hb); clear hb))
  go_wp2_with fail
  refine bodyPost_ret (v := .agg #[.bool s, .slice A9 N c9]) (by simp [results, Try.results121, e0, e1, go_sem]) rfl ?_
  exact ⟨s, r, _, rfl, HQ.out, ⟨by rw [← HN.out]; exact HL.out, by rw [← HN.out]; exact HV.out.1⟩, HV.out.2⟩
theorem impl_bigIntMul (g1 : Bool) (A1 : Option Addr) (n1 c1 : Nat) (xs : List Int) (g2 : Bool) (A2 : Option Addr) (n2 c2 : Nat) (ys : List Int) (w : World) (h1 : InI w A1 n1 xs) (r1 : Room A1 n1 c1) (h2 : InI w A2 n2 ys) (r2 : Room A2 n2 c2) :
    Calls Try.prog 121 #[.agg #[.bool g1, .slice A1 n1 c1], .agg #[.bool g2, .slice A2 n2 c2]] w fun e w' => ∃ g r v, e = .returned (.agg #[.bool g, v]) ∧ BigIntMulIs g1 xs g2 ys g r ∧ ResI w w' v r ∧ Below w.heap.size w w' :=
  (impl_bigIntMul' g1 A1 n1 c1 xs g2 A2 n2 c2 ys w h1 h2 r1 r2).mono fun _ _ ⟨g, r, v, he, hi, hr, hb⟩ => ⟨g, r, v, he, hi, hr, hb⟩
end Go.Proofs.Ytjggdbakbhacjaa
