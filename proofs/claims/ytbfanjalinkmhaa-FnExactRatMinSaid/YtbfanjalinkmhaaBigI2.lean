/- Contracts of the program's big integers: the negative, sums, differences, products. -/
import Derived.Test.YtbfanjalinkmhaaBigI
namespace Go.Proofs.Ytbfanjalinkmhaa
set_option maxRecDepth 100000
open Go.RowKit

set_option maxRecDepth 100000 in
set_option maxHeartbeats 1600000 in
theorem impl_bigNeg' (g : Bool) (A : Option Addr) (n c : Nat) (xs : List Int) (w : World) (h : InI w A n xs) :
    Calls Try.prog 82 #[.agg #[.bool g, .slice A n c]] w fun e w' => BigEnd (BigIntNegIs g xs) w w' e := by
  have hn := h.2.1
  have hx0_0 := Lib.hid ((by have := Box.new w 29 #[.bool g, .slice A n c]; simpa using this : Box (w.alloc (.cells #[.bool g, .slice A n c] 29)) (w.heap.size) 29 #[.bool g, .slice A n c]).alloc (.cells #[.bool false, .slice none 0 0] 29))
  have hr_0 := Lib.hid (by have := Box.new (w.alloc (.cells #[.bool g, .slice A n c] 29)) 29 #[.bool false, .slice none 0 0]; simpa using this : Box ((w.alloc (.cells #[.bool g, .slice A n c] 29)).alloc (.cells #[.bool false, .slice none 0 0] 29)) (w.heap.size + 1) 29 #[.bool false, .slice none 0 0])
  have BW_0 := Lib.hid (((Below.refl w.heap.size w).alloc (by simp) (.cells #[.bool g, .slice A n c] 29)).alloc (by simp) (.cells #[.bool false, .slice none 0 0] 29))
  have HI := Lib.hid (h.below BW_0.out)
  clear h
  go_enter Try.func82, Try.ntmps82
  go_wp2_with fail
  refine (impl_bigOk' g A n c xs _ HI.out).mono ?_
  rintro e w1 ⟨⟨b, rfl, hi⟩, hb⟩
  have hx0_1 := Lib.hid (hx0_0.out.below hb hx0_0.out.lt)
  have hr_1 := Lib.hid (hr_0.out.below hb hr_0.out.lt)
  have BW_1 := Lib.hid (BW_0.out.trans (hb.mono BW_0.out.size))
  replace HI := Lib.hid (HI.out.below hb)
  clear hb
  have ehx00 := hx0_1.out.cell 0
  have ehx01 := hx0_1.out.cell 1
  have ehr0 := hr_1.out.cell 0
  have ehr1 := hr_1.out.cell 1
  have fhr0 := hr_1.out.free 0
  have fhr1 := hr_1.out.free 1
  simp at ehx00 ehx01 ehr0 ehr1
  cases b
  · have hno : ¬ BOk g xs := fun h => by have := hi.2 h; cases this
    clear hi
    have HZ : Hid (BigIntNegIs g xs false []) := .inr ⟨hno, rfl, rfl⟩
    go_wp2_with fail
    refine bodyPost_ret (v := .agg #[.bool false, .slice none 0 0]) (by simp [results, Try.results82, ehr0, ehr1, go_sem]) rfl ?_
    exact bigEnd_zero HZ.out ((BW_1.out.setCell (by dsimp only; omega) _).setCell (by dsimp only; omega) _)
  · have HOK := Lib.hid (hi.1 rfl)
    have HNEG0 := Lib.hid (neg_sign HOK.out HI.out.1)
    obtain ⟨s1, hs1⟩ : ∃ s, sg g n = s := ⟨_, rfl⟩
    obtain ⟨q1, hq1⟩ : ∃ q, decide (-s1 = -1) = q := ⟨_, rfl⟩
    have hbd := sg_bd g n
    rw [hs1] at HNEG0 hbd
    have HNEG : Hid (BigIntNegIs g xs (sgn q1 xs) xs) := by unfold Hid; rw [← hq1]; exact HNEG0.out
    have HQ1 := Lib.hid hq1
    have Hs1 := Lib.hid hs1
    have hwr : IntKind.i64.wrap (-s1) = -s1 := IntWalk.i64_in _ (by omega)
    clear hi HNEG0 hq1 hs1
    go_wp2_with fail
    clear ehx00 ehx01 ehr0 fhr0 ehr1 fhr1
    have hx0_2 := Lib.hid hx0_1.out.drew
    have hr_2 := Lib.hid hr_1.out.drew
    have BW_2 := Lib.hid BW_1.out.drew
    replace HI := Lib.hid HI.out.drew
    go_region_held3 (fun w' => w'.cell? ⟨w.heap.size, 0, none⟩ = some (.bool g) ∧ w'.cell? ⟨w.heap.size, 1, none⟩ = some (.slice A n c)) (first | exact one_box hx0_2.out | exact one_box hx0_3.out | exact one_box hx0_4.out | exact one_box hx0_5.out | exact one_box ((hx0_5.out.far (by dsimp only; omega) _).far (by dsimp only; omega) _)) (first | (go_at_call 70; refine (impl_withSign (-s1) q1 HQ1.out _ A2 N c2 xs _ HN.out.symm HL.out HO.out).mono ?_; rintro e wz ⟨v, rfl, hv, ho, hb⟩; obtain ⟨A9, c9, rfl⟩ : ∃ A c, v = .slice A N c := own_slice ho; obtain ⟨bx, e0, e1, f0, f1⟩ := box_facts (hr_4.out.below hb hr_4.out.lt); simp at e0 e1; have HV2 := Lib.hid (tail2 (g := w.heap.size + 1) ho HG.out (BW_4.out.trans (hb.mono BW_4.out.size)) (by omega)); obtain ⟨s, hs⟩ : ∃ s, s = sgn q1 xs := ⟨_, rfl⟩; have HQ := Lib.hid (HNEG.out); rw [← hs] at HQ ⊢; have HV := Lib.hid (HV2.out (.bool s) (.slice A9 N c9)); have hx0_5 := Lib.hid (hx0_4.out.below hb hx0_4.out.lt); have BW_5 := Lib.hid (BW_4.out.trans (hb.mono BW_4.out.size)); clear hs hv ho hb HV2 bx) | (go_at_call 71; (with_reducible refine (impl_signOf g A n c s1 _ Hs1.out (by omega)).mono ?_); rintro e w3 ⟨rfl, hb⟩; have hx0_3 := Lib.hid (hx0_2.out.below hb hx0_2.out.lt); have hr_3 := Lib.hid (hr_2.out.below hb hr_2.out.lt); have BW_3 := Lib.hid (BW_2.out.trans (hb.mono BW_2.out.size)); have HI2 := Lib.hid (HI.out.below hb); clear hb) | (go_at_call 83; refine (clone_any A n c xs _ HI2.out.1 HI2.out.2.1 HI2.out.2.2.1).mono ?_; rintro e w4 ⟨v0, rfl, ho0, hb⟩; have HG := Lib.hid hr_3.out.lt; have hx0_4 := Lib.hid (hx0_3.out.below hb hx0_3.out.lt); have hr_4 := Lib.hid (hr_3.out.below hb hr_3.out.lt); have BW_4 := Lib.hid (BW_3.out.trans (hb.mono BW_3.out.size)); obtain ⟨A2, c2, rfl⟩ := own_slice ho0; obtain ⟨N, hN⟩ : ∃ N, N = xs.length := ⟨_, rfl⟩; rw [← hN] at ho0 ⊢; have HO := Lib.hid ho0; have HN := Lib.hid hN; have HL : Hid (N ≤ 4194304) := (by unfold Hid; rw [hN, HI2.out.1]; omega); clear ho0 hN hb))
    go_wp2_with fail
    refine bodyPost_ret (v := .agg #[.bool s, .slice A9 N c9]) (by simp [results, Try.results82, e0, e1, go_sem]) rfl ?_
    exact ⟨s, xs, _, rfl, HQ.out, ⟨by rw [← HN.out]; exact HL.out, by rw [← HN.out]; exact HV.out.1⟩, HV.out.2⟩
theorem impl_bigIntNeg (g : Bool) (A : Option Addr) (n c : Nat) (xs : List Int) (w : World) (h : InI w A n xs) (_hR : Room A n c) :
    Calls Try.prog 82 #[.agg #[.bool g, .slice A n c]] w fun e w' => ∃ h r v, e = .returned (.agg #[.bool h, v]) ∧ BigIntNegIs g xs h r ∧ ResI w w' v r ∧ Below w.heap.size w w' :=
  (impl_bigNeg' g A n c xs w h).mono fun _ _ ⟨g, r, v, he, hi, hr, hb⟩ => ⟨g, r, v, he, hi, hr, hb⟩

theorem add_q {s t : Int} {q : Bool} {a b r : List Int} (k1 : SOk s a) (k2 : SOk t b) (hst : s = t) (hq : decide (s = -1) = q) (h : NatAddIs a b r) : BRep (s * val a + t * val b) (sgn q r) r := by
  subst hst hq
  exact add_s k1 k2 (bin_cap h ⟨k1.1, k2.1⟩)
theorem sub_q {s t : Int} {q : Bool} {a b r : List Int} (k1 : SOk s a) (k2 : SOk t b) (hst : ¬ s = t) (hq : decide (s = -1) = q) (hle : val b ≤ val a) (h : NatSubIs a b r) : BRep (s * val a + t * val b) (sgn q r) r := by
  subst hq
  exact sub_s k1 k2 hst hle (bin_cap h ⟨k1.1, k2.1, hle⟩)
theorem sub_q' {s t : Int} {q : Bool} {a b r : List Int} (k1 : SOk s a) (k2 : SOk t b) (hst : ¬ s = t) (hq : decide (t = -1) = q) (hle : val a ≤ val b) (h : NatSubIs b a r) : BRep (s * val a + t * val b) (sgn q r) r := by
  rw [Int.add_comm]
  exact sub_q k2 k1 (fun e => hst e.symm) hq hle h
set_option maxHeartbeats 1600000 in
theorem impl_addSigned (s0 : Int) (A1 : Option Addr) (n1 c1 : Nat) (xs : List Int) (t0 : Int) (A2 : Option Addr) (n2 c2 : Nat) (ys : List Int) (w : World) (h1 : InI w A1 n1 xs) (h2 : InI w A2 n2 ys) (k1 : SOk s0 xs) (k2 : SOk t0 ys) :
    Calls Try.prog 118 #[.int .i64 s0, .slice A1 n1 c1, .int .i64 t0, .slice A2 n2 c2] w fun e w' => BigEnd (BRep (s0 * val xs + t0 * val ys)) w w' e := by
  have hr_0 := Lib.hid (by have := Box.new w 29 #[.bool false, .slice none 0 0]; simpa using this : Box (w.alloc (.cells #[.bool false, .slice none 0 0] 29)) (w.heap.size) 29 #[.bool false, .slice none 0 0])
  have BW_0 := Lib.hid ((Below.refl w.heap.size w).alloc (by simp) (.cells #[.bool false, .slice none 0 0] 29))
  have HI1 := Lib.hid (h1.below BW_0.out)
  have HI2 := Lib.hid (h2.below BW_0.out)
  have K1 := Lib.hid k1
  have K2 := Lib.hid k2
  have HS := Lib.hid (rfl : decide (s0 = -1) = decide (s0 = -1))
  obtain ⟨q1, hq1⟩ : ∃ q, decide (s0 = -1) = q := ⟨_, rfl⟩
  obtain ⟨q2, hq2⟩ : ∃ q, decide (t0 = -1) = q := ⟨_, rfl⟩
  have HQ1 := Lib.hid hq1
  have HQ2 := Lib.hid hq2
  clear h1 h2 k1 k2 hq1 hq2 HS
  by_cases hst : s0 = t0
  · have heq : (s0 == t0) = true := by simp [hst]
    have HST := Lib.hid hst
    clear hst
    go_enter Try.func118, Try.ntmps118
    go_wp2_with fail
    refine (impl_natAdd A1 n1 c1 xs A2 n2 c2 ys _ HI1.out HI2.out).mono ?_
    rintro e w3 ⟨r, v, rfl, hadd, hres, hb⟩
    have HG := Lib.hid hr_0.out.lt
    have hr_1 := Lib.hid (hr_0.out.below hb hr_0.out.lt)
    have BW_1 := Lib.hid (BW_0.out.trans (hb.mono BW_0.out.size))
    have HQ0 := Lib.hid (add_q K1.out K2.out HST.out HQ1.out hadd)
    clear hadd
    obtain ⟨A2, c2, rfl, hl, ho⟩ := own_rows hres
    have HO := Lib.hid ho
    obtain ⟨N, hN⟩ : ∃ N, N = r.length := ⟨_, rfl⟩
    rw [← hN] at HO hl ⊢
    have HN := Lib.hid hN
    have HL := Lib.hid hl
    clear hres ho hN hb
    go_wp2_with fail
    refine (impl_withSign (s0) q1 HQ1.out _ A2 N c2 r _ HN.out.symm HL.out HO.out).mono ?_
    rintro e w4 ⟨v, rfl, hv, ho, hb⟩
    obtain ⟨A9, c9, rfl⟩ : ∃ A c, v = .slice A N c := own_slice ho
    obtain ⟨bx, e0, e1, f0, f1⟩ := box_facts (hr_1.out.below hb hr_1.out.lt)
    simp at e0 e1
    have HV2 := Lib.hid (tail2 (g := w.heap.size) ho (HG.out) (BW_1.out.trans (hb.mono BW_1.out.size)) (by omega))
    obtain ⟨s, hs⟩ : ∃ s, s = sgn q1 r := ⟨_, rfl⟩
    have HQ := Lib.hid (HQ0.out)
    rw [← hs] at HQ ⊢
    have HV := Lib.hid (HV2.out (.bool s) (.slice A9 N c9))
    clear hs hv ho hb HV2 bx
    go_wp2_with fail
    refine bodyPost_ret (v := .agg #[.bool s, .slice A9 N c9]) (by simp [results, Try.results118, e0, e1, go_sem]) rfl ?_
    exact ⟨s, r, _, rfl, HQ.out, ⟨by rw [← HN.out]; exact HL.out, by rw [← HN.out]; exact HV.out.1⟩, HV.out.2⟩
  · have heq : (s0 == t0) = false := by simpa using hst
    have HST := Lib.hid hst
    clear hst
    go_enter Try.func118, Try.ntmps118
    go_wp2_with fail
    refine (impl_cmp A1 n1 c1 xs A2 n2 c2 ys _ HI1.out.canon HI2.out.canon K1.out.1.1 K2.out.1.1).mono ?_
    rintro e w2 ⟨rfl, hb⟩
    have hr_1 := Lib.hid (hr_0.out.below hb hr_0.out.lt)
    have BW_1 := Lib.hid (BW_0.out.trans (hb.mono BW_0.out.size))
    replace HI1 := Lib.hid (HI1.out.below hb)
    replace HI2 := Lib.hid (HI2.out.below hb)
    clear hb
    by_cases hlt : val xs < val ys
    · rw [cmpV_lt hlt]
      have Hlt := Lib.hid (Int.le_of_lt hlt)
      clear hlt
      go_wp2_with fail
      refine (impl_natSub A2 n2 c2 ys A1 n1 c1 xs _ HI2.out HI1.out).mono ?_
      rintro e w3 ⟨r, v, rfl, hadd, hres, hb⟩
      have HG := Lib.hid hr_1.out.lt
      have hr_2 := Lib.hid (hr_1.out.below hb hr_1.out.lt)
      have BW_2 := Lib.hid (BW_1.out.trans (hb.mono BW_1.out.size))
      have HQ0 := Lib.hid (sub_q' K1.out K2.out HST.out HQ2.out Hlt.out hadd)
      clear hadd
      obtain ⟨A2, c2, rfl, hl, ho⟩ := own_rows hres
      have HO := Lib.hid ho
      obtain ⟨N, hN⟩ : ∃ N, N = r.length := ⟨_, rfl⟩
      rw [← hN] at HO hl ⊢
      have HN := Lib.hid hN
      have HL := Lib.hid hl
      clear hres ho hN hb
      go_wp2_with fail
      refine (impl_withSign (t0) q2 HQ2.out _ A2 N c2 r _ HN.out.symm HL.out HO.out).mono ?_
      rintro e w4 ⟨v, rfl, hv, ho, hb⟩
      obtain ⟨A9, c9, rfl⟩ : ∃ A c, v = .slice A N c := own_slice ho
      obtain ⟨bx, e0, e1, f0, f1⟩ := box_facts (hr_2.out.below hb hr_2.out.lt)
      simp at e0 e1
      have HV2 := Lib.hid (tail2 (g := w.heap.size) ho (HG.out) (BW_2.out.trans (hb.mono BW_2.out.size)) (by omega))
      obtain ⟨s, hs⟩ : ∃ s, s = sgn q2 r := ⟨_, rfl⟩
      have HQ := Lib.hid (HQ0.out)
      rw [← hs] at HQ ⊢
      have HV := Lib.hid (HV2.out (.bool s) (.slice A9 N c9))
      clear hs hv ho hb HV2 bx
      go_wp2_with fail
      refine bodyPost_ret (v := .agg #[.bool s, .slice A9 N c9]) (by simp [results, Try.results118, e0, e1, go_sem]) rfl ?_
      exact ⟨s, r, _, rfl, HQ.out, ⟨by rw [← HN.out]; exact HL.out, by rw [← HN.out]; exact HV.out.1⟩, HV.out.2⟩
    · have hcm : 0 ≤ cmpV (val xs) (val ys) := by
        by_cases e : val xs = val ys
        · rw [cmpV_eq e]; omega
        · rw [cmpV_gt (by omega)]; omega
      obtain ⟨cm, hcm2⟩ : ∃ cm, cm = cmpV (val xs) (val ys) := ⟨_, rfl⟩
      have Hle := Lib.hid (Int.not_lt.1 hlt)
      rw [← hcm2] at hcm ⊢
      clear hcm2 hlt
      go_wp2_with fail
      refine (impl_natSub A1 n1 c1 xs A2 n2 c2 ys _ HI1.out HI2.out).mono ?_
      rintro e w3 ⟨r, v, rfl, hadd, hres, hb⟩
      have HG := Lib.hid hr_1.out.lt
      have hr_2 := Lib.hid (hr_1.out.below hb hr_1.out.lt)
      have BW_2 := Lib.hid (BW_1.out.trans (hb.mono BW_1.out.size))
      have HQ0 := Lib.hid (sub_q K1.out K2.out HST.out HQ1.out Hle.out hadd)
      clear hadd
      obtain ⟨A2, c2, rfl, hl, ho⟩ := own_rows hres
      have HO := Lib.hid ho
      obtain ⟨N, hN⟩ : ∃ N, N = r.length := ⟨_, rfl⟩
      rw [← hN] at HO hl ⊢
      have HN := Lib.hid hN
      have HL := Lib.hid hl
      clear hres ho hN hb
      go_wp2_with fail
      refine (impl_withSign (s0) q1 HQ1.out _ A2 N c2 r _ HN.out.symm HL.out HO.out).mono ?_
      rintro e w4 ⟨v, rfl, hv, ho, hb⟩
      obtain ⟨A9, c9, rfl⟩ : ∃ A c, v = .slice A N c := own_slice ho
      obtain ⟨bx, e0, e1, f0, f1⟩ := box_facts (hr_2.out.below hb hr_2.out.lt)
      simp at e0 e1
      have HV2 := Lib.hid (tail2 (g := w.heap.size) ho (HG.out) (BW_2.out.trans (hb.mono BW_2.out.size)) (by omega))
      obtain ⟨s, hs⟩ : ∃ s, s = sgn q1 r := ⟨_, rfl⟩
      have HQ := Lib.hid (HQ0.out)
      rw [← hs] at HQ ⊢
      have HV := Lib.hid (HV2.out (.bool s) (.slice A9 N c9))
      clear hs hv ho hb HV2 bx
      go_wp2_with fail
      refine bodyPost_ret (v := .agg #[.bool s, .slice A9 N c9]) (by simp [results, Try.results118, e0, e1, go_sem]) rfl ?_
      exact ⟨s, r, _, rfl, HQ.out, ⟨by rw [← HN.out]; exact HL.out, by rw [← HN.out]; exact HV.out.1⟩, HV.out.2⟩
end Go.Proofs.Ytbfanjalinkmhaa
