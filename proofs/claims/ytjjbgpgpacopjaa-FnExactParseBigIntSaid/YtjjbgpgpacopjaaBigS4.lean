/- Contracts of the model's big integers: floor division. -/
import Derived.Test.YtjjbgpgpacopjaaBigS3
namespace Go.Proofs.Ytjjbgpgpacopjaa
open Go.RowKit

theorem below_two {w W : World} {g : Nat} (hb : Below w.heap.size w W) (hg : w.heap.size ≤ g) (u0 u1 : Value) : Below w.heap.size w ((W.setCell ⟨g, 0, none⟩ u0).setCell ⟨g, 1, none⟩ u1) := (hb.setCell hg _).setCell hg _
/-- What a floor division ends in. -/
def FDivEnd (g : Bool) (xs ms : List Int) (w w' : World) (e : Ending) : Prop := ∃ h q v r u, e = .returned (.tuple #[.agg #[.bool h, v], u]) ∧ BigIntFloorDivIs g xs ms h q r ∧ ResI w w' v q ∧ ResI w w' u r ∧ Apart u v ∧ Below w.heap.size w w'
theorem fdiv_no {g : Bool} {xs ms : List Int} {w w' : World} (h : ¬ (BOk g xs ∧ Ok ms ∧ 0 < val ms)) (hb : Below w.heap.size w w') : FDivEnd g xs ms w w' (.returned (.tuple #[.agg #[.bool false, .slice none 0 0], .slice none 0 0])) :=
  ⟨false, [], _, [], _, rfl, floor_no h, ⟨by simp, World.ownsRow_nil _ _ _ _⟩, ⟨by simp, World.ownsRow_nil _ _ _ _⟩, (fun k hk => by simp [Value.ownBlock] at hk), hb⟩
/-- A slice that was there before another was made lies elsewhere. -/
theorem apart_older {w w1 : World} {base : Nat} {E E' : TypeId} {s s' n n' : Nat} {v u : Value} {xs ys : List Value} (h : w.ownsRow base E s v n xs) (k : w1.ownsRow w.heap.size E' s' u n' ys) : Apart u v := fun j hj hv => by
  have h1 := (h.lt j hv).2
  have h2 := (k.lt j hj).1
  omega
set_option maxRecDepth 100000 in
set_option maxHeartbeats 3200000 in
theorem spec_bigIntFloorDiv' (g : Bool) (A1 : Option Addr) (n1 c1 : Nat) (xs : List Int) (A2 : Option Addr) (n2 c2 : Nat) (ms : List Int) (w : World) (h1 : InI w A1 n1 xs) (h2 : InI w A2 n2 ms) :
    Calls Try.prog 36 #[.agg #[.bool g, .slice A1 n1 c1], .slice A2 n2 c2] w fun e w' => FDivEnd g xs ms w w' e := by
  have hx0_0 := Lib.hid ((by have := Box.new w 27 #[.bool g, .slice A1 n1 c1]; simpa using this : Box (w.alloc (.cells #[.bool g, .slice A1 n1 c1] 27)) (w.heap.size) 27 #[.bool g, .slice A1 n1 c1]).alloc (.cells #[.bool false, .slice none 0 0] 27))
  have hr_0 := Lib.hid (by have := Box.new (w.alloc (.cells #[.bool g, .slice A1 n1 c1] 27)) 27 #[.bool false, .slice none 0 0]; simpa using this : Box ((w.alloc (.cells #[.bool g, .slice A1 n1 c1] 27)).alloc (.cells #[.bool false, .slice none 0 0] 27)) (w.heap.size + 1) 27 #[.bool false, .slice none 0 0])
  have BW_0 := Lib.hid (((Below.refl w.heap.size w).alloc (by simp) (.cells #[.bool g, .slice A1 n1 c1] 27)).alloc (by simp) (.cells #[.bool false, .slice none 0 0] 27))
  have hn1 := h1.2.1
  have hn2 := h2.2.1
  have HI1 := Lib.hid (h1.below BW_0.out)
  have HI2 := Lib.hid (h2.below BW_0.out)
  clear h1 h2
  go_enter Try.func36, Try.ntmps36
  go_wp2_with fail
  refine (spec_bigOk' g A1 n1 c1 xs _ HI1.out).mono ?_
  rintro e wa ⟨⟨b, rfl, hi1⟩, hb⟩
  have hx0_1 := Lib.hid (hx0_0.out.below hb hx0_0.out.lt)
  have hr_1 := Lib.hid (hr_0.out.below hb hr_0.out.lt)
  have BW_1 := Lib.hid (BW_0.out.trans (hb.mono BW_0.out.size))
  replace HI1 := Lib.hid (HI1.out.below hb)
  replace HI2 := Lib.hid (HI2.out.below hb)
  clear hb
  have ehx00 := hx0_1.out.cell 0
  have ehx01 := hx0_1.out.cell 1
  have ehr0 := hr_1.out.cell 0
  have ehr1 := hr_1.out.cell 1
  have fhr0 := hr_1.out.free 0
  have fhr1 := hr_1.out.free 1
  simp at ehx00 ehx01 ehr0 ehr1
  cases b
  · have hno : ¬ (BOk g xs ∧ Ok ms ∧ 0 < val ms) := fun h => by have := hi1.2 h.1; cases this
    clear hi1
    have HF := Lib.hid (fdiv_no (w := w) hno (below_two (g := w.heap.size + 1) BW_1.out (by omega) (.bool false) (.slice none 0 0)))
    go_wp2_with fail
    refine bodyPost_ret (v := .tuple #[.agg #[.bool false, .slice none 0 0], .slice none 0 0]) (by simp [results, Try.results36, ehr0, ehr1, go_sem]) rfl ?_
    exact HF.out
  have K1 := Lib.hid (hi1.1 rfl)
  clear hi1
  go_wp2_with fail
  refine (spec_natOk' A2 n2 c2 ms _ HI2.out).mono ?_
  rintro e wb ⟨⟨b, rfl, hi2⟩, rfl⟩
  cases b
  · have hno : ¬ (BOk g xs ∧ Ok ms ∧ 0 < val ms) := fun h => by have := hi2.2 h.2.1; cases this
    clear hi2
    have HF := Lib.hid (fdiv_no (w := w) hno (below_two (g := w.heap.size + 1) BW_1.out (by omega) (.bool false) (.slice none 0 0)))
    go_wp2_with fail
    refine bodyPost_ret (v := .tuple #[.agg #[.bool false, .slice none 0 0], .slice none 0 0]) (by simp [results, Try.results36, ehr0, ehr1, go_sem]) rfl ?_
    exact HF.out
  have K2 := Lib.hid (hi2.1 rfl)
  clear hi2
  by_cases hz2 : n2 = 0
  · have hno : ¬ (BOk g xs ∧ Ok ms ∧ 0 < val ms) := fun h => by have h3 := h.2.2; rw [List.eq_nil_of_length_eq_zero (HI2.out.1.trans hz2)] at h3; simp [val] at h3
    have ht2 : ((n2 : Int) == 0) = true := by simp [hz2]
    clear hz2
    have HF := Lib.hid (fdiv_no (w := w) hno (below_two (g := w.heap.size + 1) BW_1.out (by omega) (.bool false) (.slice none 0 0)))
    go_wp2_with fail
    refine bodyPost_ret (v := .tuple #[.agg #[.bool false, .slice none 0 0], .slice none 0 0]) (by simp [results, Try.results36, ehr0, ehr1, go_sem]) rfl ?_
    exact HF.out
  have ht2 : ((n2 : Int) == 0) = false := by simp [hz2]
  have HP := Lib.hid (canon_pos K2.out.1 (by rw [HI2.out.1]; omega))
  have hm1 : n1 ≤ 60 := by have := K1.out.1.2; rwa [HI1.out.1] at this
  have hm2 : n2 ≤ 60 := by have := K2.out.2; rwa [HI2.out.1] at this
  clear hz2
  go_wp2_with fail
  refine (spec_div A1 n1 c1 xs A2 n2 c2 ms _ ⟨HI1.out.1, by omega, HI1.out.2.2.1⟩ ⟨HI2.out.1, by omega, HI2.out.2.2.1⟩ K1.out.1.1 K2.out.1 HP.out).mono ?_
  rintro e wc hend
  obtain ⟨q, vq, r, u, rfl, hd, hlq, hlr, hoq, hor, hap, hb⟩ := hend
  obtain ⟨Aq, cq, rfl⟩ := own_slice hoq
  obtain ⟨Ar, cr, rfl⟩ := own_slice hor
  have hx0_2 := Lib.hid (hx0_1.out.below hb hx0_1.out.lt)
  have hr_2 := Lib.hid (hr_1.out.below hb hr_1.out.lt)
  have BW_2 := Lib.hid (BW_1.out.trans (hb.mono BW_1.out.size))
  replace HI2 := Lib.hid (HI2.out.below hb)
  have HD := Lib.hid hd
  obtain ⟨Nq, hNq⟩ : ∃ N, N = q.length := ⟨_, rfl⟩
  obtain ⟨Nr, hNr⟩ : ∃ N, N = r.length := ⟨_, rfl⟩
  rw [← hNq] at hoq hlq ⊢
  rw [← hNr] at hor hlr ⊢
  have HOQ := Lib.hid hoq
  have HOR := Lib.hid hor
  have HNQ := Lib.hid hNq
  have HNR := Lib.hid hNr
  clear hd hoq hor hap hb hNq hNr
  clear ehx00 ehx01 ehr0 fhr0 ehr1 fhr1
  have ehx00 := hx0_2.out.cell 0
  have ehx01 := hx0_2.out.cell 1
  have ehr0 := hr_2.out.cell 0
  have ehr1 := hr_2.out.cell 1
  have fhr0 := hr_2.out.free 0
  have fhr1 := hr_2.out.free 1
  simp at ehx00 ehx01 ehr0 ehr1
  by_cases hneg : g = true ∧ 0 < Nr
  · obtain ⟨rfl, hpos⟩ := hneg
    have hr0 : Hid (0 < val r) := canon_pos HD.out.2.1 (by rw [← HNR.out]; exact hpos)
    have hx0_3 := Lib.hid (hx0_2.out.alloc (.cells #[.int .i64 1] 3))
    have hr_3 := Lib.hid (hr_2.out.alloc (.cells #[.int .i64 1] 3))
    have BW_3 := Lib.hid (BW_2.out.alloc BW_2.out.size (.cells #[.int .i64 1] 3))
    have HI2a : Hid (InI (wc.alloc (.cells #[.int .i64 1] 3)) A2 n2 ms) := HI2.out.below ((Below.refl _ _).alloc (Nat.le_refl _) _)
    have HORa : Hid ((wc.alloc (.cells #[.int .i64 1] 3)).ownsRow wa.heap.size 3 1 (.slice Ar Nr cr) Nr (r.map (.int .i64))) := HOR.out.alloc _
    have HIq : Hid (InI (wc.alloc (.cells #[.int .i64 1] 3)) Aq Nq q) := ⟨HNQ.out.symm, by omega, (Reads.of_own HOQ.out).below ((Below.refl _ _).alloc (Nat.le_refl _) _), limbs_bd HD.out.1.1⟩
    have HI1' : Hid (InI (wc.alloc (.cells #[.int .i64 1] 3)) (some ⟨wc.heap.size, 0, none⟩) 1 [1]) := ⟨rfl, by omega, .inr ⟨wc.heap.size, 0, rfl, by simp, cells_new wc [.int .i64 1] 3⟩, limbs_bd (InR.one (by omega) (by omega))⟩
    go_wp2_with fail
    refine (spec_add Aq Nq cq q (some ⟨wc.heap.size, 0, none⟩) 1 1 [1] _ HIq.out HI1'.out HD.out.1.1 (InR.one (by omega) (by omega))).mono ?_
    rintro e wd ⟨r0, A0, c0, rfl, hrr, hv0, hl0, ho0, hb⟩
    have hx0_4 := Lib.hid (hx0_3.out.below hb hx0_3.out.lt)
    have hr_4 := Lib.hid (hr_3.out.below hb hr_3.out.lt)
    have BW_4 := Lib.hid (BW_3.out.trans (hb.mono BW_3.out.size))
    replace HI2 := Lib.hid (HI2a.out.below hb)
    replace HOR := Lib.hid (own_below HORa.out hb)
    have HRR := Lib.hid hrr
    have HV0 : Hid (val r0 = val q + 1) := by unfold Hid; rw [hv0]; simp [val]
    obtain ⟨M, hM⟩ : ∃ N, N = r0.length := ⟨_, rfl⟩
    rw [← hM] at hl0 ho0 ⊢
    have HO0 := Lib.hid ho0
    have HM := Lib.hid hM
    clear ho0 hM
    clear hb hrr hv0
    clear ehx00 ehx01 ehr0 fhr0 ehr1 fhr1
    have ehx00 := hx0_4.out.cell 0
    have ehx01 := hx0_4.out.cell 1
    have ehr0 := hr_4.out.cell 0
    have ehr1 := hr_4.out.cell 1
    have fhr0 := hr_4.out.free 0
    have fhr1 := hr_4.out.free 1
    simp at ehx00 ehx01 ehr0 ehr1
    go_wp2_with fail
    refine (spec_make true A0 M c0 r0 _ HM.out.symm (by omega) (room_own HO0.out) (Reads.of_own HO0.out) HRR.out).mono ?_
    rintro e we ⟨rq, v, rfl, hm, ⟨hl, ho⟩, hb⟩
    have HG := Lib.hid hr_4.out.lt
    have hx0_5 := Lib.hid (hx0_4.out.below hb hx0_4.out.lt)
    have hr_5 := Lib.hid (hr_4.out.below hb hr_4.out.lt)
    have BW_5 := Lib.hid (BW_4.out.trans (hb.mono BW_4.out.size))
    replace HI2 := Lib.hid (HI2.out.below hb)
    replace HOR := Lib.hid (own_below HOR.out hb)
    obtain ⟨N, hN⟩ : ∃ N, N = rq.length := ⟨_, rfl⟩
    rw [← hN] at hl ho
    obtain ⟨A9, c9, rfl⟩ := own_slice ho
    have HM9 := Lib.hid hm
    have HO9 := Lib.hid ho
    have HN9 := Lib.hid hN
    obtain ⟨s, hs⟩ : ∃ s, s = sgn true rq := ⟨_, rfl⟩
    rw [← hs]
    have HS := Lib.hid hs
    clear hm ho hb hN hs
    clear ehx00 ehx01 ehr0 fhr0 ehr1 fhr1
    have ehx00 := hx0_5.out.cell 0
    have ehx01 := hx0_5.out.cell 1
    have ehr0 := hr_5.out.cell 0
    have ehr1 := hr_5.out.cell 1
    have fhr0 := hr_5.out.free 0
    have fhr1 := hr_5.out.free 1
    simp at ehx00 ehx01 ehr0 ehr1
    go_wp2_with fail
    refine (spec_sub A2 n2 c2 ms Ar Nr cr r _ HI2.out.canon ⟨HNR.out.symm, by omega, Reads.of_own HOR.out⟩ K2.out.1 HD.out.2.1 (Int.le_of_lt HD.out.2.2.2)).mono ?_
    rintro e wf ⟨r2, A5, c5, rfl, hr2, hv2, hl2, ho2, hb⟩
    have HG5 := Lib.hid hr_5.out.lt
    have hx0_6 := Lib.hid (hx0_5.out.below hb hx0_5.out.lt)
    have hr_6 := Lib.hid (hr_5.out.below hb hr_5.out.lt)
    have BW_6 := Lib.hid (BW_5.out.trans (hb.mono BW_5.out.size))
    have HAP := Lib.hid (apart_older HO9.out ho2)
    have HOV := Lib.hid (own_below HO9.out hb)
    obtain ⟨N5, hN5⟩ : ∃ N, N = r2.length := ⟨_, rfl⟩
    rw [← hN5] at hl2 ho2 HAP ⊢
    have HOU := Lib.hid ho2
    have HN5 := Lib.hid hN5
    have HQ : Hid (BigIntFloorDivIs true xs ms s rq r2) := by rw [HS.out]; exact floor_mk_neg K1.out K2.out HP.out HD.out hr0.out HV0.out HM9.out hr2 hv2
    have HGV := HG
    have HGU := HG5
    clear ho2 hb hN5 hr2 hv2
    clear ehx00 ehx01 ehr0 fhr0 ehr1 fhr1
    have ehx00 := hx0_6.out.cell 0
    have ehx01 := hx0_6.out.cell 1
    have ehr0 := hr_6.out.cell 0
    have ehr1 := hr_6.out.cell 1
    have fhr0 := hr_6.out.free 0
    have fhr1 := hr_6.out.free 1
    simp at ehx00 ehx01 ehr0 ehr1
    have HV2 := Lib.hid (tail2 (g := w.heap.size + 1) HOV.out (by have := HGV.out; omega) BW_6.out (by omega) (.bool s) (.slice A9 N c9))
    have HU2 := Lib.hid (tail2 (g := w.heap.size + 1) HOU.out (by have := HGU.out; omega) BW_6.out (by omega) (.bool s) (.slice A9 N c9))
    go_wp2_with fail
    refine bodyPost_ret (v := .tuple #[.agg #[.bool s, .slice A9 N c9], .slice A5 N5 c5]) (by simp [results, Try.results36, ehr0, ehr1, go_sem]) rfl ?_
    exact ⟨s, rq, _, r2, _, rfl, HQ.out, ⟨by rw [← HN9.out]; omega, by rw [← HN9.out]; exact HV2.out.1⟩, ⟨by rw [← HN5.out]; omega, by rw [← HN5.out]; exact HU2.out.1⟩, HAP.out, HV2.out.2⟩
  · have hg0 : Hid (g = true → val r = 0) := fun hg => by
      have : Nr = 0 := Nat.eq_zero_of_not_pos (fun h => hneg ⟨hg, h⟩)
      rw [List.eq_nil_of_length_eq_zero (HNR.out.symm.trans this)]; rfl
    have hcase : g = false ∨ (g = true ∧ (Nr : Int) < 1) := by cases g <;> simp at hneg ⊢; omega
    clear hneg
    have con := spec_make g Aq Nq cq q wc HNQ.out.symm (by omega) (room_own HOQ.out) (Reads.of_own HOQ.out) HD.out.1.1
    have Con := Lib.hid con
    clear con
    rcases hcase with rfl | ⟨rfl, hN0⟩
    · go_wp2_with fail
      refine Con.out.mono ?_
      rintro e we ⟨rq, v, rfl, hm, ⟨hl, ho⟩, hb⟩
      have HGV := Lib.hid hr_2.out.lt
      have HGU := Lib.hid hr_1.out.lt
      have hx0_3 := Lib.hid (hx0_2.out.below hb hx0_2.out.lt)
      have hr_3 := Lib.hid (hr_2.out.below hb hr_2.out.lt)
      have BW_3 := Lib.hid (BW_2.out.trans (hb.mono BW_2.out.size))
      have HAP := Lib.hid (apart_older HOR.out ho).symm
      have HOU := Lib.hid (own_below HOR.out hb)
      obtain ⟨N, hN⟩ : ∃ N, N = rq.length := ⟨_, rfl⟩
      rw [← hN] at hl ho
      obtain ⟨A9, c9, rfl⟩ := own_slice ho
      have HOV := Lib.hid ho
      have HN9 := Lib.hid hN
      have HQ := Lib.hid (floor_mk K1.out K2.out HP.out HD.out (fun h => by first | exact hg0.out h | exact hg0.out trivial) hm)
      obtain ⟨s, hs⟩ : ∃ s, s = sgn false rq := ⟨_, rfl⟩
      rw [← hs] at HQ ⊢
      clear hm ho hb hN hs
      clear ehx00 ehx01 ehr0 fhr0 ehr1 fhr1
      have ehx00 := hx0_3.out.cell 0
      have ehx01 := hx0_3.out.cell 1
      have ehr0 := hr_3.out.cell 0
      have ehr1 := hr_3.out.cell 1
      have fhr0 := hr_3.out.free 0
      have fhr1 := hr_3.out.free 1
      simp at ehx00 ehx01 ehr0 ehr1
      have HV2 := Lib.hid (tail2 (g := w.heap.size + 1) HOV.out (by have := HGV.out; omega) BW_3.out (by omega) (.bool s) (.slice A9 N c9))
      have HU2 := Lib.hid (tail2 (g := w.heap.size + 1) HOU.out (by have := HGU.out; omega) BW_3.out (by omega) (.bool s) (.slice A9 N c9))
      go_wp2_with fail
      refine bodyPost_ret (v := .tuple #[.agg #[.bool s, .slice A9 N c9], .slice Ar Nr cr]) (by simp [results, Try.results36, ehr0, ehr1, go_sem]) rfl ?_
      exact ⟨s, rq, _, r, _, rfl, HQ.out, ⟨by rw [← HN9.out]; omega, by rw [← HN9.out]; exact HV2.out.1⟩, ⟨by rw [← HNR.out]; omega, by rw [← HNR.out]; exact HU2.out.1⟩, HAP.out, HV2.out.2⟩
    · go_wp2_with fail
      refine Con.out.mono ?_
      rintro e we ⟨rq, v, rfl, hm, ⟨hl, ho⟩, hb⟩
      have HGV := Lib.hid hr_2.out.lt
      have HGU := Lib.hid hr_1.out.lt
      have hx0_3 := Lib.hid (hx0_2.out.below hb hx0_2.out.lt)
      have hr_3 := Lib.hid (hr_2.out.below hb hr_2.out.lt)
      have BW_3 := Lib.hid (BW_2.out.trans (hb.mono BW_2.out.size))
      have HAP := Lib.hid (apart_older HOR.out ho).symm
      have HOU := Lib.hid (own_below HOR.out hb)
      obtain ⟨N, hN⟩ : ∃ N, N = rq.length := ⟨_, rfl⟩
      rw [← hN] at hl ho
      obtain ⟨A9, c9, rfl⟩ := own_slice ho
      have HOV := Lib.hid ho
      have HN9 := Lib.hid hN
      have HQ := Lib.hid (floor_mk K1.out K2.out HP.out HD.out (fun h => by first | exact hg0.out h | exact hg0.out trivial) hm)
      obtain ⟨s, hs⟩ : ∃ s, s = sgn true rq := ⟨_, rfl⟩
      rw [← hs] at HQ ⊢
      clear hm ho hb hN hs
      clear ehx00 ehx01 ehr0 fhr0 ehr1 fhr1
      have ehx00 := hx0_3.out.cell 0
      have ehx01 := hx0_3.out.cell 1
      have ehr0 := hr_3.out.cell 0
      have ehr1 := hr_3.out.cell 1
      have fhr0 := hr_3.out.free 0
      have fhr1 := hr_3.out.free 1
      simp at ehx00 ehx01 ehr0 ehr1
      have HV2 := Lib.hid (tail2 (g := w.heap.size + 1) HOV.out (by have := HGV.out; omega) BW_3.out (by omega) (.bool s) (.slice A9 N c9))
      have HU2 := Lib.hid (tail2 (g := w.heap.size + 1) HOU.out (by have := HGU.out; omega) BW_3.out (by omega) (.bool s) (.slice A9 N c9))
      go_wp2_with fail
      refine bodyPost_ret (v := .tuple #[.agg #[.bool s, .slice A9 N c9], .slice Ar Nr cr]) (by simp [results, Try.results36, ehr0, ehr1, go_sem]) rfl ?_
      exact ⟨s, rq, _, r, _, rfl, HQ.out, ⟨by rw [← HN9.out]; omega, by rw [← HN9.out]; exact HV2.out.1⟩, ⟨by rw [← HNR.out]; omega, by rw [← HNR.out]; exact HU2.out.1⟩, HAP.out, HV2.out.2⟩
theorem spec_bigIntFloorDiv (g : Bool) (A1 : Option Addr) (n1 c1 : Nat) (xs : List Int) (A2 : Option Addr) (n2 c2 : Nat) (ms : List Int) (w : World) (h1 : InI w A1 n1 xs) (_r1 : Room A1 n1 c1) (h2 : InI w A2 n2 ms) :
    Calls Try.prog 36 #[.agg #[.bool g, .slice A1 n1 c1], .slice A2 n2 c2] w fun e w' => ∃ h q v r u, e = .returned (.tuple #[.agg #[.bool h, v], u]) ∧ BigIntFloorDivIs g xs ms h q r ∧ ResI w w' v q ∧ ResI w w' u r ∧ Apart u v ∧ Below w.heap.size w w' :=
  (spec_bigIntFloorDiv' g A1 n1 c1 xs A2 n2 c2 ms w h1 h2).mono fun _ _ h => h
end Go.Proofs.Ytjjbgpgpacopjaa
