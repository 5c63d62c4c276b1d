/- Contracts of linear programs, by the program: all valid; ObjectiveAt, BoundAt. -/
import Derived.Test.YtegclofijaoajaaGreatLpI2
import Derived.Test.YtegclofijaoajaaGreatLpI3
import Derived.Test.YtegclofijaoajaaGreatLpS3
namespace Go.Proofs.YtegclofijaoajaaGreat
set_option maxRecDepth 100000
open Go.RowKit

set_option maxHeartbeats 1600000 in
theorem impl_areRats (E : Option Addr) (nv cv : Nat) (vs : List RD) (z : Int) (w : World) (hv : InV w E nv vs) :
    Calls Tryz.prog 100 #[.slice E nv cv, .int .i64 z] w fun e w' => LpOkEnd (Rats vs z) w w' e := by
  have hn := hv.2.1
  have HV := Lib.hid hv
  clear hv
  by_cases hne : ((nv : Int) != z) = true
  · have HF : Hid (LpOkEnd (Rats vs z) w w (.returned (.bool false))) := lpOk_no (fun q => by have h2 := q.1; rw [HV.out.1] at h2; simp at hne; exact hne h2) (Below.refl _ _)
    go_enter Tryz.func100, Tryz.ntmps100
    go_wp2_with fail
    go_ret
    exact HF.out
  have hne2 : ((nv : Int) != z) = false := by simpa using hne
  have HNV : Hid ((vs.length : Int) = z) := by unfold Hid; rw [HV.out.1]; simpa using hne
  clear hne
  go_enter Tryz.func100, Tryz.ntmps100
  go_wp2_with fail
  clear hne2
  go_loopw [13] (fun x wr => ∃ i : Nat, i ≤ nv ∧ x = .int .i64 i ∧ Hid (OkTo vs i) ∧ Hid (Below w.heap.size w wr)) (fun x _ => nv - (intOf x).toNat)
  case atStart => exact ⟨0, Nat.zero_le _, rfl, OkTo.zero _, Below.refl _ _⟩
  case round =>
    obtain ⟨i, hle, rfl, hk, hb⟩ := hrel
    by_cases hlt : i < nv
    · obtain ⟨b, o, rfl, hbs, r, hr, A1, n1, c1, B1, m1, d1, hat, i1, _, j1, _⟩ := (HV.out.below hb.out).at_ i hlt
      obtain ⟨e0, e1, e2⟩ := hat
      have hi0 : (0 : Int) ≤ (i : Int) := by omega
      have hi1 : (i : Int) < (nv : Int) := by omega
      have HI := Lib.hid i1
      have HJ := Lib.hid j1
      have HR := Lib.hid hr
      clear i1 j1 hr
      go_wp2_with fail
      have HB := Lib.hid (hb.out.alloc hb.out.size (.cells #[.bool r.g, .slice A1 n1 c1, .slice B1 m1 d1] 34))
      have hbx : Below wr.heap.size wr (wr.alloc (.cells #[.bool r.g, .slice A1 n1 c1, .slice B1 m1 d1] 34)) := (Below.refl _ _).alloc (Nat.le_refl _) _
      refine (impl_ratOk' r.g A1 n1 c1 r.xs B1 m1 d1 r.ds _ (HI.out.below hbx) (HJ.out.below hbx)).mono ?_
      rintro e w1 ⟨⟨q, rfl, hq⟩, hb1⟩
      have HB2 := Lib.hid (HB.out.trans (hb1.mono HB.out.size))
      clear hb1 hbx
      cases q
      · have HF : Hid (LpOkEnd (Rats vs z) w w1 (.returned (.bool false))) := lpOk_no (fun h => (by have h1 := hq.2 (h.2 _ (List.mem_of_getElem? HR.out)); cases h1)) HB2.out
        clear hq
        go_wp2_with fail
        go_ret
        exact HF.out
      · have HK := Lib.hid (hk.out.succ HR.out (hq.1 rfl))
        clear hq
        go_wp2_with fail
        go_roundw
        case rel => exact ⟨i + 1, by omega, by go_num, HK, HB2⟩
        case measure => simp [intOf]; omega
    · obtain rfl : i = nv := by omega
      have hall : AllOk vs := fun r hr => hk.out r (by rw [List.take_of_length_le (by rw [HV.out.1]; omega)]; exact hr)
      have HF : Hid (LpOkEnd (Rats vs z) w wr (.returned (.bool true))) := lpOk_yes (⟨HNV.out, hall⟩) hb.out
      clear hall
      go_wp2_with fail
      go_ret
      exact HF.out
set_option maxHeartbeats 3200000 in
theorem impl_valueAt (p k : Int) (A : Option Addr) (n c : Nat) (la : List Int) (B : Option Addr) (m d : Nat) (lb : List Int) (C : Option Addr) (l f : Nat) (lc : List Int) (X : Option Addr) (nx cx : Nat) (ns : List Int) (E : Option Addr) (nv cv : Nat) (vs : List RD) (w : World)
    (h : InP w A n la B m lb C l lc) (hx : InI w X nx ns) (hv : InV w E nv vs) :
    Calls Tryz.prog 299 #[.agg #[.int .i64 p, .int .i64 k, .slice A n c, .slice B m d, .slice C l f], .slice X nx cx, .slice E nv cv] w fun e w' => RatOkEnd (ValueIs (LP.ok ⟨p, k, la, lb, lc⟩ ∧ Rats vs nx) ns vs) w w' e := by
  obtain ⟨W0, hW0⟩ : ∃ W, W = ((w.alloc (.cells #[.int .i64 p, .int .i64 k, .slice A n c, .slice B m d, .slice C l f] 61)).alloc (.cells #[.bool false, .slice none 0 0, .slice none 0 0] 34)) := ⟨_, rfl⟩
  have hp0_0 : Hid (Box W0 (w.heap.size) 61 #[.int .i64 p, .int .i64 k, .slice A n c, .slice B m d, .slice C l f]) := by rw [hW0]; exact ((Box.at' (by simp)).alloc _)
  have hs_0 : Hid (Box W0 (w.heap.size + 1) 34 #[.bool false, .slice none 0 0, .slice none 0 0]) := by rw [hW0]; exact (Box.at' (by simp))
  have BW_0 : Hid (Below w.heap.size w W0) := by rw [hW0]; exact (((Below.refl w.heap.size w).alloc (by simp) _).alloc (by simp) _)
  have hsz0 : w.heap.size + 1 + 1 ≤ W0.heap.size := by rw [hW0]; simp
  have HI := Lib.hid (h.below BW_0.out)
  have HX := Lib.hid (hx.below BW_0.out)
  have HV := Lib.hid (hv.below BW_0.out)
  have hnv := hv.2.1
  have hnx := hx.2.1
  clear h hv hx
  go_enter Tryz.func299, Tryz.ntmps299
  go_wp2_with fail
  rw [← hW0]
  clear hW0
  refine (impl_programOk0 p k A n c la B m d lb C l f lc _ HI.out).mono ?_
  rintro e w1 ⟨b1, rfl, h1, hb⟩
  have hp0_1 := Lib.hid (hp0_0.out.below hb hp0_0.out.lt)
  have hs_1 := Lib.hid (hs_0.out.below hb hs_0.out.lt)
  have BW_1 := Lib.hid (BW_0.out.trans (hb.mono BW_0.out.size))
  replace HX := Lib.hid (HX.out.below hb)
  replace HV := Lib.hid (HV.out.below hb)
  clear hb
  have H1 := Lib.hid h1
  clear h1
  have ehp00 := hp0_1.out.cell 0
  have ehp01 := hp0_1.out.cell 1
  have ehp02 := hp0_1.out.cell 2
  have ehp03 := hp0_1.out.cell 3
  have ehp04 := hp0_1.out.cell 4
  have ehs0 := hs_1.out.cell 0
  have ehs1 := hs_1.out.cell 1
  have ehs2 := hs_1.out.cell 2
  have fhs0 := hs_1.out.free 0
  have fhs1 := hs_1.out.free 1
  have fhs2 := hs_1.out.free 2
  simp at ehp00 ehp01 ehp02 ehp03 ehp04 ehs0 ehs1 ehs2
  cases b1
  case false =>
    have HZ : Hid (ValueIs (LP.ok ⟨p, k, la, lb, lc⟩ ∧ Rats vs nx) ns vs false [] [] false) := value_no fun q => (by have := H1.out.2 q.1; cases this)
    go_wp2_with fail
    refine bodyPost_ret (v := .tuple #[.agg #[.bool false, .slice none 0 0, .slice none 0 0], .bool false]) (by simp [results, Tryz.results299, ehs0, ehs1, ehs2, go_sem]) rfl ?_
    exact ratOkEnd_zero HZ.out (below_store3 BW_1.out (by omega) _ _ _)
  have HOK : Hid (LP.ok ⟨p, k, la, lb, lc⟩) := H1.out.1 rfl
  go_wp2_with fail
  clear ehp00 ehp01 ehp02 ehp03 ehp04 ehs0 fhs0 ehs1 fhs1 ehs2 fhs2
  refine (impl_areRats E nv cv vs nx _ HV.out).mono ?_
  rintro e w2 ⟨b2, rfl, h2, hb⟩
  have hp0_2 := Lib.hid (hp0_1.out.below hb hp0_1.out.lt)
  have hs_2 := Lib.hid (hs_1.out.below hb hs_1.out.lt)
  have BW_2 := Lib.hid (BW_1.out.trans (hb.mono BW_1.out.size))
  replace HX := Lib.hid (HX.out.below hb)
  replace HV := Lib.hid (HV.out.below hb)
  clear hb
  have H2 := Lib.hid h2
  clear h2
  have ehp00 := hp0_2.out.cell 0
  have ehp01 := hp0_2.out.cell 1
  have ehp02 := hp0_2.out.cell 2
  have ehp03 := hp0_2.out.cell 3
  have ehp04 := hp0_2.out.cell 4
  have ehs0 := hs_2.out.cell 0
  have ehs1 := hs_2.out.cell 1
  have ehs2 := hs_2.out.cell 2
  have fhs0 := hs_2.out.free 0
  have fhs1 := hs_2.out.free 1
  have fhs2 := hs_2.out.free 2
  simp at ehp00 ehp01 ehp02 ehp03 ehp04 ehs0 ehs1 ehs2
  cases b2
  case false =>
    have HZ : Hid (ValueIs (LP.ok ⟨p, k, la, lb, lc⟩ ∧ Rats vs nx) ns vs false [] [] false) := value_no fun q => (by have := H2.out.2 q.2; cases this)
    go_wp2_with fail
    refine bodyPost_ret (v := .tuple #[.agg #[.bool false, .slice none 0 0, .slice none 0 0], .bool false]) (by simp [results, Tryz.results299, ehs0, ehs1, ehs2, go_sem]) rfl ?_
    exact ratOkEnd_zero HZ.out (below_store3 BW_2.out (by omega) _ _ _)
  have HC : Hid (LP.ok ⟨p, k, la, lb, lc⟩ ∧ Rats vs nx) := ⟨HOK.out, H2.out.1 rfl⟩
  obtain rfl : nv = nx := by have h1 := HC.out.2.1; rw [HV.out.1] at h1; omega
  go_wp2_with fail
  clear ehp00 ehp01 ehp02 ehp03 ehp04 ehs0 fhs0 ehs1 fhs1 ehs2 fhs2
  refine (impl_sumOfProducts X nv cx ns E cv vs _ HX.out HV.out).mono ?_
  rintro e w3 ⟨g, r, v, dd, u, rfl, hq, q1, q2, hap, hb⟩
  obtain ⟨A6, c6, rfl⟩ := own_slice q1.2
  obtain ⟨B6, d6, rfl⟩ := own_slice q2.2
  have hs2 := hs_2.out.lt
  have hs3 := hb.size
  have BWS := BW_2.out.size
  have hs_3 := Lib.hid (hs_2.out.below hb hs_2.out.lt)
  have BW_3 := Lib.hid (BW_2.out.trans (hb.mono BW_2.out.size))
  clear hb
  obtain ⟨q, hqq⟩ : ∃ q, q = RD.mk g r dd := ⟨_, rfl⟩
  have HG : Hid (q.ok ∨ q = RD.zero) := by rw [hqq, hq]; exact ldot_good _ _
  have HIN : Hid (q = ldot ns vs) := by rw [hqq]; exact hq
  have S0 : Hid (RSum (w3.alloc (.cells #[.bool g, .slice A6 r.length c6, .slice B6 dd.length d6] 34)).drew w.heap.size w3.heap.size q A6 c6 B6 d6) := by
    rw [hqq]
    exact RSum.drew ⟨Box.new _ _ _, own_base (q1.2.alloc _) (by omega), own_base (q2.2.alloc _) (by omega), hap⟩
  have eg : g = q.g := by rw [hqq]
  have er : r = q.xs := by rw [hqq]
  have ed : dd = q.ds := by rw [hqq]
  have hs_4 := Lib.hid (hs_3.out.alloc (.cells #[.bool q.g, .slice A6 q.xs.length c6, .slice B6 q.ds.length d6] 34)).drew
  have BW_4 := Lib.hid (BW_3.out.alloc BW_3.out.size (.cells #[.bool q.g, .slice A6 q.xs.length c6, .slice B6 q.ds.length d6] 34)).drew
  have HNE : Hid (w3.heap.size ≠ w.heap.size + 1) := by unfold Hid; omega
  have hsh := (RD.gr HG.out).short
  have hsh1 := hsh.1
  have hsh2 := hsh.2
  clear hq q1 q2 hap hqq hsh
  subst eg er ed
  go_wp2_with fail
  go_region_held3 (fun w' => w'.cell? ⟨w3.heap.size, 0, none⟩ = some (.bool q.g) ∧ w'.cell? ⟨w3.heap.size, 1, none⟩ = some (.slice A6 q.xs.length c6) ∧ w'.cell? ⟨w3.heap.size, 2, none⟩ = some (.slice B6 q.ds.length d6)) (first | with_reducible exact sum3far S_1 HNE _ _ _ | with_reducible exact sum3 S_1 | with_reducible exact sum3 S0) (first | (go_at_call 70; (with_reducible refine (impl_ratOk' q.g A6 q.xs.length c6 q.xs B6 q.ds.length d6 q.ds _ (S0.out.in1 HG.out) (S0.out.in2 HG.out)).mono ?_); rintro e w5 ⟨⟨b, rfl, hi⟩, hb5⟩; have HI5 := Lib.hid hi; have S_1 := Lib.hid (S0.out.below hb5); have hs_6 := Lib.hid (hs_4.out.below hb5 hs_4.out.lt); have BW_6 := Lib.hid (BW_4.out.trans (hb5.mono BW_4.out.size)); clear hi hb5; have ehs0 := hs_6.out.cell 0; have fhs0 := hs_6.out.free 0; have ehs1 := hs_6.out.cell 1; have fhs1 := hs_6.out.free 1; have ehs2 := hs_6.out.cell 2; have fhs2 := hs_6.out.free 2; simp at ehs0 ehs1 ehs2))
  have HQF : Hid (ValueIs (LP.ok ⟨p, k, la, lb, lc⟩ ∧ Rats vs nv) ns vs q.g q.xs q.ds b) := value_end HIN.out HG.out HI5.out HC.out
  go_wp2_with fail
  refine bodyPost_ret (v := .tuple #[.agg #[.bool q.g, .slice A6 q.xs.length c6, .slice B6 q.ds.length d6], .bool b]) (by simp [results, Tryz.results299, ehs0, ehs1, ehs2, go_sem]) rfl ?_
  exact ratOkEnd_sum hs_6.out (by omega) BW_6.out HQF.out HG.out S_1.out
set_option maxHeartbeats 3200000 in
theorem impl_objectiveAt0 (p k : Int) (A : Option Addr) (n c : Nat) (la : List Int) (B : Option Addr) (m d : Nat) (lb : List Int) (C : Option Addr) (l f : Nat) (lc : List Int) (E : Option Addr) (nv cv : Nat) (vs : List RD) (w : World) (h : InP w A n la B m lb C l lc) (hv : InV w E nv vs) :
    Calls Tryz.prog 294 #[.agg #[.int .i64 p, .int .i64 k, .slice A n c, .slice B m d, .slice C l f], .slice E nv cv] w fun e w' => RatOkEnd (ObjectiveAtIs p k la lb lc vs) w w' e := by
  obtain ⟨W0, hW0⟩ : ∃ W, W = ((w.alloc (.cells #[.int .i64 p, .int .i64 k, .slice A n c, .slice B m d, .slice C l f] 61)).alloc (.cells #[.bool false, .slice none 0 0, .slice none 0 0] 34)) := ⟨_, rfl⟩
  have hp0_0 : Hid (Box W0 (w.heap.size) 61 #[.int .i64 p, .int .i64 k, .slice A n c, .slice B m d, .slice C l f]) := by rw [hW0]; exact ((Box.at' (by simp)).alloc _)
  have hs_0 : Hid (Box W0 (w.heap.size + 1) 34 #[.bool false, .slice none 0 0, .slice none 0 0]) := by rw [hW0]; exact (Box.at' (by simp))
  have BW_0 : Hid (Below w.heap.size w W0) := by rw [hW0]; exact (((Below.refl w.heap.size w).alloc (by simp) _).alloc (by simp) _)
  have hsz0 : w.heap.size + 1 + 1 ≤ W0.heap.size := by rw [hW0]; simp
  have HI := Lib.hid (h.below BW_0.out)
  have HV := Lib.hid (hv.below BW_0.out)
  clear h hv
  go_enter Tryz.func294, Tryz.ntmps294
  go_wp2_with fail
  rw [← hW0]
  clear hW0
  refine (impl_valueAt p k A n c la B m d lb C l f lc C l f lc E nv cv vs _ HI.out HI.out.ic HV.out).mono ?_
  rintro e w3 ⟨g, rr, v, dd, u, b, rfl, hq, q1, q2, hap, hb⟩
  obtain ⟨A6, c6, rfl⟩ := own_slice q1.2
  obtain ⟨B6, d6, rfl⟩ := own_slice q2.2
  have HQ2 : Hid (ObjectiveAtIs p k la lb lc vs g rr dd b) := value_congr (fun q => by have h1 := HI.out.ic.1; have h3 := q.2.2.1; simp only at h3; omega) hq
  have hsz1 := BW_0.out.size
  have HO1 := Lib.hid q1
  have HO2 := Lib.hid q2
  have HAP := Lib.hid hap
  have hs_3 := Lib.hid (hs_0.out.below hb hs_0.out.lt)
  have BW_3 := Lib.hid (BW_0.out.trans (hb.mono BW_0.out.size))
  clear hb
  have ehs0 := hs_3.out.cell 0
  have ehs1 := hs_3.out.cell 1
  have ehs2 := hs_3.out.cell 2
  have fhs0 := hs_3.out.free 0
  have fhs1 := hs_3.out.free 1
  have fhs2 := hs_3.out.free 2
  simp at ehs0 ehs1 ehs2
  have hl1 := q1.1
  have hl2 := q2.1
  clear hq q1 q2 hap
  go_wp2_with fail
  refine bodyPost_ret (v := .tuple #[.agg #[.bool g, .slice A6 rr.length c6, .slice B6 dd.length d6], .bool b]) (by simp [results, Tryz.results294, ehs0, ehs1, ehs2, go_sem]) rfl ?_
  exact rok_store hs_3.out (by omega) BW_3.out HQ2.out HO1.out.1 HO2.out.1 HO1.out.2 HO2.out.2 hsz1 HAP.out
set_option maxHeartbeats 3200000 in
theorem impl_boundAt0 (p k : Int) (A : Option Addr) (n c : Nat) (la : List Int) (B : Option Addr) (m d : Nat) (lb : List Int) (C : Option Addr) (l f : Nat) (lc : List Int) (E : Option Addr) (nv cv : Nat) (vs : List RD) (w : World) (h : InP w A n la B m lb C l lc) (hv : InV w E nv vs) :
    Calls Tryz.prog 295 #[.agg #[.int .i64 p, .int .i64 k, .slice A n c, .slice B m d, .slice C l f], .slice E nv cv] w fun e w' => RatOkEnd (BoundAtIs p k la lb lc vs) w w' e := by
  obtain ⟨W0, hW0⟩ : ∃ W, W = ((w.alloc (.cells #[.int .i64 p, .int .i64 k, .slice A n c, .slice B m d, .slice C l f] 61)).alloc (.cells #[.bool false, .slice none 0 0, .slice none 0 0] 34)) := ⟨_, rfl⟩
  have hp0_0 : Hid (Box W0 (w.heap.size) 61 #[.int .i64 p, .int .i64 k, .slice A n c, .slice B m d, .slice C l f]) := by rw [hW0]; exact ((Box.at' (by simp)).alloc _)
  have hs_0 : Hid (Box W0 (w.heap.size + 1) 34 #[.bool false, .slice none 0 0, .slice none 0 0]) := by rw [hW0]; exact (Box.at' (by simp))
  have BW_0 : Hid (Below w.heap.size w W0) := by rw [hW0]; exact (((Below.refl w.heap.size w).alloc (by simp) _).alloc (by simp) _)
  have hsz0 : w.heap.size + 1 + 1 ≤ W0.heap.size := by rw [hW0]; simp
  have HI := Lib.hid (h.below BW_0.out)
  have HV := Lib.hid (hv.below BW_0.out)
  clear h hv
  go_enter Tryz.func295, Tryz.ntmps295
  go_wp2_with fail
  rw [← hW0]
  clear hW0
  refine (impl_valueAt p k A n c la B m d lb C l f lc B m d lb E nv cv vs _ HI.out HI.out.ib HV.out).mono ?_
  rintro e w3 ⟨g, rr, v, dd, u, b, rfl, hq, q1, q2, hap, hb⟩
  obtain ⟨A6, c6, rfl⟩ := own_slice q1.2
  obtain ⟨B6, d6, rfl⟩ := own_slice q2.2
  have HQ2 : Hid (BoundAtIs p k la lb lc vs g rr dd b) := value_congr (fun q => by have h1 := HI.out.ib.1; have h3 := q.2.1.1; simp only at h3; omega) hq
  have hsz1 := BW_0.out.size
  have HO1 := Lib.hid q1
  have HO2 := Lib.hid q2
  have HAP := Lib.hid hap
  have hs_3 := Lib.hid (hs_0.out.below hb hs_0.out.lt)
  have BW_3 := Lib.hid (BW_0.out.trans (hb.mono BW_0.out.size))
  clear hb
  have ehs0 := hs_3.out.cell 0
  have ehs1 := hs_3.out.cell 1
  have ehs2 := hs_3.out.cell 2
  have fhs0 := hs_3.out.free 0
  have fhs1 := hs_3.out.free 1
  have fhs2 := hs_3.out.free 2
  simp at ehs0 ehs1 ehs2
  have hl1 := q1.1
  have hl2 := q2.1
  clear hq q1 q2 hap
  go_wp2_with fail
  refine bodyPost_ret (v := .tuple #[.agg #[.bool g, .slice A6 rr.length c6, .slice B6 dd.length d6], .bool b]) (by simp [results, Tryz.results295, ehs0, ehs1, ehs2, go_sem]) rfl ?_
  exact rok_store hs_3.out (by omega) BW_3.out HQ2.out HO1.out.1 HO2.out.1 HO1.out.2 HO2.out.2 hsz1 HAP.out
end Go.Proofs.YtegclofijaoajaaGreat
