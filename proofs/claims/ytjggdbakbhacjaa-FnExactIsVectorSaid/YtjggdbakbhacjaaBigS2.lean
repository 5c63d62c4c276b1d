/- Contracts of the model's big integers: sums, differences, products. -/
import Derived.Test.YtjggdbakbhacjaaBigS1
import Derived.Test.YtjggdbakbhacjaaNat3
namespace Go.Proofs.Ytjggdbakbhacjaa
set_option maxRecDepth 100000
open Go.RowKit

/-- What two boxes hold, cell by cell. -/
theorem two_boxes {w : World} {b0 b1 : Nat} {t t' : TypeId} {u0 u1 v0 v1 : Value} (h : Box w b0 t #[u0, u1]) (k : Box w b1 t' #[v0, v1]) :
    w.cell? ⟨b0, 0, none⟩ = some u0 ∧ w.cell? ⟨b0, 1, none⟩ = some u1 ∧ w.cell? ⟨b1, 0, none⟩ = some v0 ∧ w.cell? ⟨b1, 1, none⟩ = some v1 :=
  ⟨h.cell 0, h.cell 1, k.cell 0, k.cell 1⟩
/-- An owned list on its way. -/
theorem mid_own {w w1 : World} {A : Option Addr} {c : Nat} {r : List Int} (ho : w1.ownsRow w.heap.size 3 1 (.slice A r.length c) r.length (r.map (.int .i64))) : Room A r.length c ∧ Reads w1 A (r.map (.int .i64)) := ⟨room_own ho, Reads.of_own ho⟩
set_option maxHeartbeats 1600000 in
theorem spec_bigAdd (g1 : Bool) (A1 : Option Addr) (n1 c1 : Nat) (xs : List Int) (g2 : Bool) (A2 : Option Addr) (n2 c2 : Nat) (ys : List Int) (w : World) (h1 : InI w A1 n1 xs) (h2 : InI w A2 n2 ys) (k1 : BOk g1 xs) (k2 : BOk g2 ys) :
    Calls Try.prog 109 #[.agg #[.bool g1, .slice A1 n1 c1], .agg #[.bool g2, .slice A2 n2 c2]] w fun e w' => BigEnd (BRep (bval g1 xs + bval g2 ys)) w w' e := by
  have hx0_0 := Lib.hid (((by have := Box.new w 24 #[.bool g1, .slice A1 n1 c1]; simpa using this : Box (w.alloc (.cells #[.bool g1, .slice A1 n1 c1] 24)) (w.heap.size) 24 #[.bool g1, .slice A1 n1 c1]).alloc (.cells #[.bool g2, .slice A2 n2 c2] 24)).alloc (.cells #[.bool false, .slice none 0 0] 24))
  have hx1_0 := Lib.hid ((by have := Box.new (w.alloc (.cells #[.bool g1, .slice A1 n1 c1] 24)) 24 #[.bool g2, .slice A2 n2 c2]; simpa using this : Box ((w.alloc (.cells #[.bool g1, .slice A1 n1 c1] 24)).alloc (.cells #[.bool g2, .slice A2 n2 c2] 24)) (w.heap.size + 1) 24 #[.bool g2, .slice A2 n2 c2]).alloc (.cells #[.bool false, .slice none 0 0] 24))
  have hr_0 := Lib.hid (by have := Box.new ((w.alloc (.cells #[.bool g1, .slice A1 n1 c1] 24)).alloc (.cells #[.bool g2, .slice A2 n2 c2] 24)) 24 #[.bool false, .slice none 0 0]; simpa using this : Box (((w.alloc (.cells #[.bool g1, .slice A1 n1 c1] 24)).alloc (.cells #[.bool g2, .slice A2 n2 c2] 24)).alloc (.cells #[.bool false, .slice none 0 0] 24)) (w.heap.size + 1 + 1) 24 #[.bool false, .slice none 0 0])
  have BW_0 := Lib.hid ((((Below.refl w.heap.size w).alloc (by simp) (.cells #[.bool g1, .slice A1 n1 c1] 24)).alloc (by simp) (.cells #[.bool g2, .slice A2 n2 c2] 24)).alloc (by simp; omega) (.cells #[.bool false, .slice none 0 0] 24))
  have hn1 := h1.2.1
  have hn2 := h2.2.1
  have HI1 := Lib.hid (h1.below BW_0.out)
  have HI2 := Lib.hid (h2.below BW_0.out)
  have K1 := Lib.hid k1
  have K2 := Lib.hid k2
  clear h1 h2 k1 k2
  by_cases hg : g1 = g2
  · subst hg
    go_enter Try.func109, Try.ntmps109
    go_wp2_with fail
    have hx0_1 := Lib.hid hx0_0.out.drew
    have hx1_1 := Lib.hid hx1_0.out.drew
    have hr_1 := Lib.hid hr_0.out.drew
    have BW_1 := Lib.hid BW_0.out.drew
    replace HI1 := Lib.hid HI1.out.drew
    replace HI2 := Lib.hid HI2.out.drew
    go_region_held3 (fun w' => w'.cell? ⟨w.heap.size, 0, none⟩ = some (.bool g1) ∧ w'.cell? ⟨w.heap.size, 1, none⟩ = some (.slice A1 n1 c1) ∧ w'.cell? ⟨w.heap.size + 1, 0, none⟩ = some (.bool g1) ∧ w'.cell? ⟨w.heap.size + 1, 1, none⟩ = some (.slice A2 n2 c2)) (first | exact two_boxes hx0_1.out hx1_1.out | exact two_boxes hx0_2.out hx1_2.out | exact two_boxes hx0_3.out hx1_3.out | exact two_boxes ((hx0_3.out.far (by dsimp only; omega) _).far (by dsimp only; omega) _) ((hx1_3.out.far (by dsimp only; omega) _).far (by dsimp only; omega) _)) (first | (go_at_call 111; refine (spec_make g1 A0 M c0 r0 _ HM.out.symm (by omega) (room_own HO0.out) (Reads.of_own HO0.out) HR0.out).mono ?_; rintro e w2 ⟨r, v, rfl, hm, ⟨hl, ho⟩, hb⟩; obtain ⟨N, hN⟩ : ∃ N, N = r.length := ⟨_, rfl⟩; rw [← hN] at hl ho; obtain ⟨A9, c9, rfl⟩ := own_slice ho; obtain ⟨e0, e1, f0, f1, hfn⟩ := tail_facts (g := w.heap.size + 1 + 1) hr_2.out hb BW_2.out (by omega) ho; simp at e0 e1; have HQ := Lib.hid (add_same K1.out K2.out HV0.out hm); obtain ⟨s, hs⟩ : ∃ s, s = sgn g1 r := ⟨_, rfl⟩; rw [← hs] at HQ ⊢; have HO := Lib.hid (hfn (.bool s) (.slice A9 N c9)); have HN := Lib.hid hN; have HL := Lib.hid hl; have hx0_3 := Lib.hid (hx0_2.out.below hb hx0_2.out.lt); have hx1_3 := Lib.hid (hx1_2.out.below hb hx1_2.out.lt); have BW_3 := Lib.hid (BW_2.out.trans (hb.mono BW_2.out.size)); clear hs ho hb hN hfn hl hm) | (go_at_call 144; refine (spec_add A1 n1 c1 xs A2 n2 c2 ys _ HI1.out HI2.out K1.out.1.1.1 K2.out.1.1.1).mono ?_; rintro e w1 ⟨r0, A0, c0, rfl, hr0, hv0, hl0, ho0, hb⟩; have HR0 := Lib.hid hr0; have HV0 := Lib.hid hv0; clear hr0 hv0; have hx0_2 := Lib.hid (hx0_1.out.below hb hx0_1.out.lt); have hx1_2 := Lib.hid (hx1_1.out.below hb hx1_1.out.lt); have hr_2 := Lib.hid (hr_1.out.below hb hr_1.out.lt); have BW_2 := Lib.hid (BW_1.out.trans (hb.mono BW_1.out.size)); obtain ⟨M, hM⟩ : ∃ N, N = r0.length := ⟨_, rfl⟩; rw [← hM] at hl0 ho0 ⊢; have HO0 := Lib.hid ho0; have HM := Lib.hid hM; clear ho0 hM; clear hb))
    go_wp2_with fail
    refine bodyPost_ret (v := .agg #[.bool s, .slice A9 N c9]) (by simp [results, Try.results109, e0, e1, go_sem]) rfl ?_
    exact ⟨s, r, _, rfl, HQ.out, ⟨by rw [← HN.out]; exact HL.out, by rw [← HN.out]; exact HO.out.1⟩, HO.out.2⟩
  · have hq := Lib.hid (bool_ne hg)
    have heq : (g1 == g2) = false := by simpa using hg
    clear hg
    go_enter Try.func109, Try.ntmps109
    go_wp2_with fail
    refine (spec_cmp A1 n1 c1 xs A2 n2 c2 ys _ HI1.out.canon HI2.out.canon K1.out.1.1 K2.out.1.1).mono ?_
    rintro e w0 ⟨rfl, hb⟩
    have hx0_1 := Lib.hid (hx0_0.out.below hb hx0_0.out.lt)
    have hx1_1 := Lib.hid (hx1_0.out.below hb hx1_0.out.lt)
    have hr_1 := Lib.hid (hr_0.out.below hb hr_0.out.lt)
    have BW_1 := Lib.hid (BW_0.out.trans (hb.mono BW_0.out.size))
    replace HI1 := Lib.hid (HI1.out.below hb)
    replace HI2 := Lib.hid (HI2.out.below hb)
    clear hb
    by_cases hlt : val xs < val ys
    · rw [cmpV_lt hlt]
      have Hlt := Lib.hid hlt
      clear hlt
      have ehx00 := hx0_1.out.cell 0
      have ehx01 := hx0_1.out.cell 1
      have ehx10 := hx1_1.out.cell 0
      have ehx11 := hx1_1.out.cell 1
      have ehr0 := hr_1.out.cell 0
      have ehr1 := hr_1.out.cell 1
      have fhr0 := hr_1.out.free 0
      have fhr1 := hr_1.out.free 1
      simp at ehx00 ehx01 ehx10 ehx11 ehr0 ehr1
      go_wp2_with fail
      clear ehx00 ehx01 ehx10 ehx11 ehr0 fhr0 ehr1 fhr1
      have hx0_2 := Lib.hid hx0_1.out.drew
      have hx1_2 := Lib.hid hx1_1.out.drew
      have hr_2 := Lib.hid hr_1.out.drew
      have BW_2 := Lib.hid BW_1.out.drew
      replace HI1 := Lib.hid HI1.out.drew
      replace HI2 := Lib.hid HI2.out.drew
      go_region_held3 (fun w' => w'.cell? ⟨w.heap.size, 0, none⟩ = some (.bool g1) ∧ w'.cell? ⟨w.heap.size, 1, none⟩ = some (.slice A1 n1 c1) ∧ w'.cell? ⟨w.heap.size + 1, 0, none⟩ = some (.bool g2) ∧ w'.cell? ⟨w.heap.size + 1, 1, none⟩ = some (.slice A2 n2 c2)) (first | exact two_boxes hx0_2.out hx1_2.out | exact two_boxes hx0_3.out hx1_3.out | exact two_boxes hx0_4.out hx1_4.out | exact two_boxes ((hx0_4.out.far (by dsimp only; omega) _).far (by dsimp only; omega) _) ((hx1_4.out.far (by dsimp only; omega) _).far (by dsimp only; omega) _)) (first | (go_at_call 111; refine (spec_make g2 A0 M c0 r0 _ HM.out.symm (by omega) (room_own HO0.out) (Reads.of_own HO0.out) HR0.out).mono ?_; rintro e w2 ⟨r, v, rfl, hm, ⟨hl, ho⟩, hb⟩; obtain ⟨N, hN⟩ : ∃ N, N = r.length := ⟨_, rfl⟩; rw [← hN] at hl ho; obtain ⟨A9, c9, rfl⟩ := own_slice ho; obtain ⟨e0, e1, f0, f1, hfn⟩ := tail_facts (g := w.heap.size + 1 + 1) hr_3.out hb BW_3.out (by omega) ho; simp at e0 e1; have HQ := Lib.hid (add_more hq.out (Int.le_of_lt Hlt.out) HV0.out hm); obtain ⟨s, hs⟩ : ∃ s, s = sgn g2 r := ⟨_, rfl⟩; rw [← hs] at HQ ⊢; have HO := Lib.hid (hfn (.bool s) (.slice A9 N c9)); have HN := Lib.hid hN; have HL := Lib.hid hl; have hx0_4 := Lib.hid (hx0_3.out.below hb hx0_3.out.lt); have hx1_4 := Lib.hid (hx1_3.out.below hb hx1_3.out.lt); have BW_4 := Lib.hid (BW_3.out.trans (hb.mono BW_3.out.size)); clear hs ho hb hN hfn hl hm) | (go_at_call 146; refine (spec_sub A2 n2 c2 ys A1 n1 c1 xs _ HI2.out.canon HI1.out.canon K2.out.1.1 K1.out.1.1 (Int.le_of_lt Hlt.out)).mono ?_; rintro e w1 ⟨r0, A0, c0, rfl, hr0, hv0, hl0, ho0, hb⟩; have HR0 := Lib.hid hr0.1; have HV0 := Lib.hid hv0; clear hr0 hv0; have hx0_3 := Lib.hid (hx0_2.out.below hb hx0_2.out.lt); have hx1_3 := Lib.hid (hx1_2.out.below hb hx1_2.out.lt); have hr_3 := Lib.hid (hr_2.out.below hb hr_2.out.lt); have BW_3 := Lib.hid (BW_2.out.trans (hb.mono BW_2.out.size)); obtain ⟨M, hM⟩ : ∃ N, N = r0.length := ⟨_, rfl⟩; rw [← hM] at hl0 ho0 ⊢; have HO0 := Lib.hid ho0; have HM := Lib.hid hM; clear ho0 hM; clear hb))
      go_wp2_with fail
      refine bodyPost_ret (v := .agg #[.bool s, .slice A9 N c9]) (by simp [results, Try.results109, e0, e1, go_sem]) rfl ?_
      exact ⟨s, r, _, rfl, HQ.out, ⟨by rw [← HN.out]; exact HL.out, by rw [← HN.out]; exact HO.out.1⟩, HO.out.2⟩
    · have hcm : 0 ≤ cmpV (val xs) (val ys) := by
        by_cases e : val xs = val ys
        · rw [cmpV_eq e]; omega
        · rw [cmpV_gt (by omega)]; omega
      obtain ⟨cm, hcm2⟩ : ∃ cm, cm = cmpV (val xs) (val ys) := ⟨_, rfl⟩
      have Hle := Lib.hid (Int.not_lt.1 hlt)
      rw [← hcm2] at hcm ⊢
      clear hcm2 hlt
      have ehx00 := hx0_1.out.cell 0
      have ehx01 := hx0_1.out.cell 1
      have ehx10 := hx1_1.out.cell 0
      have ehx11 := hx1_1.out.cell 1
      have ehr0 := hr_1.out.cell 0
      have ehr1 := hr_1.out.cell 1
      have fhr0 := hr_1.out.free 0
      have fhr1 := hr_1.out.free 1
      simp at ehx00 ehx01 ehx10 ehx11 ehr0 ehr1
      go_wp2_with fail
      clear ehx00 ehx01 ehx10 ehx11 ehr0 fhr0 ehr1 fhr1
      have hx0_2 := Lib.hid hx0_1.out.drew
      have hx1_2 := Lib.hid hx1_1.out.drew
      have hr_2 := Lib.hid hr_1.out.drew
      have BW_2 := Lib.hid BW_1.out.drew
      replace HI1 := Lib.hid HI1.out.drew
      replace HI2 := Lib.hid HI2.out.drew
      go_region_held3 (fun w' => w'.cell? ⟨w.heap.size, 0, none⟩ = some (.bool g1) ∧ w'.cell? ⟨w.heap.size, 1, none⟩ = some (.slice A1 n1 c1) ∧ w'.cell? ⟨w.heap.size + 1, 0, none⟩ = some (.bool g2) ∧ w'.cell? ⟨w.heap.size + 1, 1, none⟩ = some (.slice A2 n2 c2)) (first | exact two_boxes hx0_2.out hx1_2.out | exact two_boxes hx0_3.out hx1_3.out | exact two_boxes hx0_4.out hx1_4.out | exact two_boxes ((hx0_4.out.far (by dsimp only; omega) _).far (by dsimp only; omega) _) ((hx1_4.out.far (by dsimp only; omega) _).far (by dsimp only; omega) _)) (first | (go_at_call 111; refine (spec_make g1 A0 M c0 r0 _ HM.out.symm (by omega) (room_own HO0.out) (Reads.of_own HO0.out) HR0.out).mono ?_; rintro e w2 ⟨r, v, rfl, hm, ⟨hl, ho⟩, hb⟩; obtain ⟨N, hN⟩ : ∃ N, N = r.length := ⟨_, rfl⟩; rw [← hN] at hl ho; obtain ⟨A9, c9, rfl⟩ := own_slice ho; obtain ⟨e0, e1, f0, f1, hfn⟩ := tail_facts (g := w.heap.size + 1 + 1) hr_3.out hb BW_3.out (by omega) ho; simp at e0 e1; have HQ := Lib.hid (add_less hq.out Hle.out HV0.out hm); obtain ⟨s, hs⟩ : ∃ s, s = sgn g1 r := ⟨_, rfl⟩; rw [← hs] at HQ ⊢; have HO := Lib.hid (hfn (.bool s) (.slice A9 N c9)); have HN := Lib.hid hN; have HL := Lib.hid hl; have hx0_4 := Lib.hid (hx0_3.out.below hb hx0_3.out.lt); have hx1_4 := Lib.hid (hx1_3.out.below hb hx1_3.out.lt); have BW_4 := Lib.hid (BW_3.out.trans (hb.mono BW_3.out.size)); clear hs ho hb hN hfn hl hm) | (go_at_call 146; refine (spec_sub A1 n1 c1 xs A2 n2 c2 ys _ HI1.out.canon HI2.out.canon K1.out.1.1 K2.out.1.1 Hle.out).mono ?_; rintro e w1 ⟨r0, A0, c0, rfl, hr0, hv0, hl0, ho0, hb⟩; have HR0 := Lib.hid hr0.1; have HV0 := Lib.hid hv0; clear hr0 hv0; have hx0_3 := Lib.hid (hx0_2.out.below hb hx0_2.out.lt); have hx1_3 := Lib.hid (hx1_2.out.below hb hx1_2.out.lt); have hr_3 := Lib.hid (hr_2.out.below hb hr_2.out.lt); have BW_3 := Lib.hid (BW_2.out.trans (hb.mono BW_2.out.size)); obtain ⟨M, hM⟩ : ∃ N, N = r0.length := ⟨_, rfl⟩; rw [← hM] at hl0 ho0 ⊢; have HO0 := Lib.hid ho0; have HM := Lib.hid hM; clear ho0 hM; clear hb))
      go_wp2_with fail
      refine bodyPost_ret (v := .agg #[.bool s, .slice A9 N c9]) (by simp [results, Try.results109, e0, e1, go_sem]) rfl ?_
      exact ⟨s, r, _, rfl, HQ.out, ⟨by rw [← HN.out]; exact HL.out, by rw [← HN.out]; exact HO.out.1⟩, HO.out.2⟩



end Go.Proofs.Ytjggdbakbhacjaa
