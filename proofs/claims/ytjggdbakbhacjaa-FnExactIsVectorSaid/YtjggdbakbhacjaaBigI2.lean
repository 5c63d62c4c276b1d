/- Contracts of the program's big integers: the negative, sums, differences, products. -/
import Derived.Test.YtjggdbakbhacjaaBigI
namespace Go.Proofs.Ytjggdbakbhacjaa
set_option maxRecDepth 100000
open Go.RowKit


theorem add_q {s t : Int} {q : Bool} {a b r : List Int} (k1 : SOk s a) (k2 : SOk t b) (hst : s = t) (hq : decide (s = -1) = q) (h : NatAddIs a b r) : BRep (s * val a + t * val b) (sgn q r) r := by
  subst hst hq
  exact add_s k1 k2 (bin_cap h ⟨k1.1, k2.1⟩)
theorem sub_q {s t : Int} {q : Bool} {a b r : List Int} (k1 : SOk s a) (k2 : SOk t b) (hst : ¬ s = t) (hq : decide (s = -1) = q) (hle : val b ≤ val a) (h : NatSubIs a b r) : BRep (s * val a + t * val b) (sgn q r) r := by
  subst hq
  exact sub_s k1 k2 hst hle (bin_cap h ⟨k1.1, k2.1, hle⟩)
theorem sub_q' {s t : Int} {q : Bool} {a b r : List Int} (k1 : SOk s a) (k2 : SOk t b) (hst : ¬ s = t) (hq : decide (t = -1) = q) (hle : val a ≤ val b) (h : NatSubIs b a r) : BRep (s * val a + t * val b) (sgn q r) r := by
  rw [Int.add_comm]
  exact sub_q k2 k1 (fun e => hst e.symm) hq hle h
set_option maxHeartbeats 1600000 in
theorem impl_addSigned (s0 : Int) (A1 : Option Addr) (n1 c1 : Nat) (xs : List Int) (t0 : Int) (A2 : Option Addr) (n2 c2 : Nat) (ys : List Int) (w : World) (h1 : InI w A1 n1 xs) (h2 : InI w A2 n2 ys) (k1 : SOk s0 xs) (k2 : SOk t0 ys) :
    Calls Try.prog 149 #[.int .i64 s0, .slice A1 n1 c1, .int .i64 t0, .slice A2 n2 c2] w fun e w' => BigEnd (BRep (s0 * val xs + t0 * val ys)) w w' e := by
  have hr_0 := Lib.hid (by have := Box.new w 24 #[.bool false, .slice none 0 0]; simpa using this : Box (w.alloc (.cells #[.bool false, .slice none 0 0] 24)) (w.heap.size) 24 #[.bool false, .slice none 0 0])
  have BW_0 := Lib.hid ((Below.refl w.heap.size w).alloc (by simp) (.cells #[.bool false, .slice none 0 0] 24))
  have HI1 := Lib.hid (h1.below BW_0.out)
  have HI2 := Lib.hid (h2.below BW_0.out)
  have K1 := Lib.hid k1
  have K2 := Lib.hid k2
  have HS := Lib.hid (rfl : decide (s0 = -1) = decide (s0 = -1))
  obtain ⟨q1, hq1⟩ : ∃ q, decide (s0 = -1) = q := ⟨_, rfl⟩
  obtain ⟨q2, hq2⟩ : ∃ q, decide (t0 = -1) = q := ⟨_, rfl⟩
  have HQ1 := Lib.hid hq1
  have HQ2 := Lib.hid hq2
  clear h1 h2 k1 k2 hq1 hq2 HS
  by_cases hst : s0 = t0
  · have heq : (s0 == t0) = true := by simp [hst]
    have HST := Lib.hid hst
    clear hst
    go_enter Try.func149, Try.ntmps149
    go_wp2_with fail
    refine (impl_natAdd A1 n1 c1 xs A2 n2 c2 ys _ HI1.out HI2.out).mono ?_
    rintro e w3 ⟨r, v, rfl, hadd, hres, hb⟩
    have HG := Lib.hid hr_0.out.lt
    have hr_1 := Lib.hid (hr_0.out.below hb hr_0.out.lt)
    have BW_1 := Lib.hid (BW_0.out.trans (hb.mono BW_0.out.size))
    have HQ0 := Lib.hid (add_q K1.out K2.out HST.out HQ1.out hadd)
    clear hadd
    obtain ⟨A2, c2, rfl, hl, ho⟩ := own_rows hres
    have HO := Lib.hid ho
    obtain ⟨N, hN⟩ : ∃ N, N = r.length := ⟨_, rfl⟩
    rw [← hN] at HO hl ⊢
    have HN := Lib.hid hN
    have HL := Lib.hid hl
    clear hres ho hN hb
    go_wp2_with fail
    refine (impl_withSign (s0) q1 HQ1.out _ A2 N c2 r _ HN.out.symm HL.out HO.out).mono ?_
    rintro e w4 ⟨v, rfl, hv, ho, hb⟩
    obtain ⟨A9, c9, rfl⟩ : ∃ A c, v = .slice A N c := own_slice ho
    obtain ⟨bx, e0, e1, f0, f1⟩ := box_facts (hr_1.out.below hb hr_1.out.lt)
    simp at e0 e1
    have HV2 := Lib.hid (tail2 (g := w.heap.size) ho (HG.out) (BW_1.out.trans (hb.mono BW_1.out.size)) (by omega))
    obtain ⟨s, hs⟩ : ∃ s, s = sgn q1 r := ⟨_, rfl⟩
    have HQ := Lib.hid (HQ0.out)
    rw [← hs] at HQ ⊢
    have HV := Lib.hid (HV2.out (.bool s) (.slice A9 N c9))
    clear hs hv ho hb HV2 bx
    go_wp2_with fail
    refine bodyPost_ret (v := .agg #[.bool s, .slice A9 N c9]) (by simp [results, Try.results149, e0, e1, go_sem]) rfl ?_
    exact ⟨s, r, _, rfl, HQ.out, ⟨by rw [← HN.out]; exact HL.out, by rw [← HN.out]; exact HV.out.1⟩, HV.out.2⟩
  · have heq : (s0 == t0) = false := by simpa using hst
    have HST := Lib.hid hst
    clear hst
    go_enter Try.func149, Try.ntmps149
    go_wp2_with fail
    refine (impl_cmp A1 n1 c1 xs A2 n2 c2 ys _ HI1.out.canon HI2.out.canon K1.out.1.1 K2.out.1.1).mono ?_
    rintro e w2 ⟨rfl, hb⟩
    have hr_1 := Lib.hid (hr_0.out.below hb hr_0.out.lt)
    have BW_1 := Lib.hid (BW_0.out.trans (hb.mono BW_0.out.size))
    replace HI1 := Lib.hid (HI1.out.below hb)
    replace HI2 := Lib.hid (HI2.out.below hb)
    clear hb
    by_cases hlt : val xs < val ys
    · rw [cmpV_lt hlt]
      have Hlt := Lib.hid (Int.le_of_lt hlt)
      clear hlt
      go_wp2_with fail
      refine (impl_natSub A2 n2 c2 ys A1 n1 c1 xs _ HI2.out HI1.out).mono ?_
      rintro e w3 ⟨r, v, rfl, hadd, hres, hb⟩
      have HG := Lib.hid hr_1.out.lt
      have hr_2 := Lib.hid (hr_1.out.below hb hr_1.out.lt)
      have BW_2 := Lib.hid (BW_1.out.trans (hb.mono BW_1.out.size))
      have HQ0 := Lib.hid (sub_q' K1.out K2.out HST.out HQ2.out Hlt.out hadd)
      clear hadd
      obtain ⟨A2, c2, rfl, hl, ho⟩ := own_rows hres
      have HO := Lib.hid ho
      obtain ⟨N, hN⟩ : ∃ N, N = r.length := ⟨_, rfl⟩
      rw [← hN] at HO hl ⊢
      have HN := Lib.hid hN
      have HL := Lib.hid hl
      clear hres ho hN hb
      go_wp2_with fail
      refine (impl_withSign (t0) q2 HQ2.out _ A2 N c2 r _ HN.out.symm HL.out HO.out).mono ?_
      rintro e w4 ⟨v, rfl, hv, ho, hb⟩
      obtain ⟨A9, c9, rfl⟩ : ∃ A c, v = .slice A N c := own_slice ho
      obtain ⟨bx, e0, e1, f0, f1⟩ := box_facts (hr_2.out.below hb hr_2.out.lt)
      simp at e0 e1
      have HV2 := Lib.hid (tail2 (g := w.heap.size) ho (HG.out) (BW_2.out.trans (hb.mono BW_2.out.size)) (by omega))
      obtain ⟨s, hs⟩ : ∃ s, s = sgn q2 r := ⟨_, rfl⟩
      have HQ := Lib.hid (HQ0.out)
      rw [← hs] at HQ ⊢
      have HV := Lib.hid (HV2.out (.bool s) (.slice A9 N c9))
      clear hs hv ho hb HV2 bx
      go_wp2_with fail
      refine bodyPost_ret (v := .agg #[.bool s, .slice A9 N c9]) (by simp [results, Try.results149, e0, e1, go_sem]) rfl ?_
      exact ⟨s, r, _, rfl, HQ.out, ⟨by rw [← HN.out]; exact HL.out, by rw [← HN.out]; exact HV.out.1⟩, HV.out.2⟩
    · have hcm : 0 ≤ cmpV (val xs) (val ys) := by
        by_cases e : val xs = val ys
        · rw [cmpV_eq e]; omega
        · rw [cmpV_gt (by omega)]; omega
      obtain ⟨cm, hcm2⟩ : ∃ cm, cm = cmpV (val xs) (val ys) := ⟨_, rfl⟩
      have Hle := Lib.hid (Int.not_lt.1 hlt)
      rw [← hcm2] at hcm ⊢
      clear hcm2 hlt
      go_wp2_with fail
      refine (impl_natSub A1 n1 c1 xs A2 n2 c2 ys _ HI1.out HI2.out).mono ?_
      rintro e w3 ⟨r, v, rfl, hadd, hres, hb⟩
      have HG := Lib.hid hr_1.out.lt
      have hr_2 := Lib.hid (hr_1.out.below hb hr_1.out.lt)
      have BW_2 := Lib.hid (BW_1.out.trans (hb.mono BW_1.out.size))
      have HQ0 := Lib.hid (sub_q K1.out K2.out HST.out HQ1.out Hle.out hadd)
      clear hadd
      obtain ⟨A2, c2, rfl, hl, ho⟩ := own_rows hres
      have HO := Lib.hid ho
      obtain ⟨N, hN⟩ : ∃ N, N = r.length := ⟨_, rfl⟩
      rw [← hN] at HO hl ⊢
      have HN := Lib.hid hN
      have HL := Lib.hid hl
      clear hres ho hN hb
      go_wp2_with fail
      refine (impl_withSign (s0) q1 HQ1.out _ A2 N c2 r _ HN.out.symm HL.out HO.out).mono ?_
      rintro e w4 ⟨v, rfl, hv, ho, hb⟩
      obtain ⟨A9, c9, rfl⟩ : ∃ A c, v = .slice A N c := own_slice ho
      obtain ⟨bx, e0, e1, f0, f1⟩ := box_facts (hr_2.out.below hb hr_2.out.lt)
      simp at e0 e1
      have HV2 := Lib.hid (tail2 (g := w.heap.size) ho (HG.out) (BW_2.out.trans (hb.mono BW_2.out.size)) (by omega))
      obtain ⟨s, hs⟩ : ∃ s, s = sgn q1 r := ⟨_, rfl⟩
      have HQ := Lib.hid (HQ0.out)
      rw [← hs] at HQ ⊢
      have HV := Lib.hid (HV2.out (.bool s) (.slice A9 N c9))
      clear hs hv ho hb HV2 bx
      go_wp2_with fail
      refine bodyPost_ret (v := .agg #[.bool s, .slice A9 N c9]) (by simp [results, Try.results149, e0, e1, go_sem]) rfl ?_
      exact ⟨s, r, _, rfl, HQ.out, ⟨by rw [← HN.out]; exact HL.out, by rw [← HN.out]; exact HV.out.1⟩, HV.out.2⟩
end Go.Proofs.Ytjggdbakbhacjaa
