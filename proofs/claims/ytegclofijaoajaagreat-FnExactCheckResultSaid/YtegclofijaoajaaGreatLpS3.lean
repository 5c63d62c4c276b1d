/- Contracts of linear programs, by the model: all valid; ObjectiveAt, BoundAt. -/
import Derived.Test.YtegclofijaoajaaGreatLpS2
import Derived.Test.YtegclofijaoajaaGreatLpM
namespace Go.Proofs.YtegclofijaoajaaGreat
set_option maxRecDepth 100000
open Go.RowKit

theorem rok_store {Q : Bool → List Int → List Int → Bool → Prop} {w W : World} {gb base : Nat} {cs : Array Value} {g : Bool} {r dd : List Int} {A B : Option Addr} {c d : Nat} {b : Bool} (hbx : Box W gb 34 cs) (hg : w.heap.size ≤ gb) (hb : Below w.heap.size w W) (hQ : Q g r dd b) (h4 : r.length ≤ 4194304) (h4' : dd.length ≤ 4194304)
    (h1 : W.ownsRow base 3 1 (.slice A r.length c) r.length (r.map (.int .i64))) (h2 : W.ownsRow base 3 1 (.slice B dd.length d) dd.length (dd.map (.int .i64))) (hba : w.heap.size ≤ base) (hap : Apart (.slice B dd.length d) (.slice A r.length c)) :
    RatOkEnd Q w (((W.setCell ⟨gb, 0, none⟩ (.bool g)).setCell ⟨gb, 1, none⟩ (.slice A r.length c)).setCell ⟨gb, 2, none⟩ (.slice B dd.length d)) (.returned (.tuple #[.agg #[.bool g, .slice A r.length c, .slice B dd.length d], .bool b])) := by
  obtain ⟨g, l, v, e, u, h1, h2, h3, h4, h5, h6⟩ := ratEnd_store (Q := fun g l d => Q g l d b) hbx hg hb hQ rfl rfl h4 h4' h1 hba h2 hba hap
  cases h1
  exact ⟨_, l, _, e, _, b, rfl, h2, h3, h4, h5, h6⟩
set_option maxHeartbeats 1600000 in
theorem spec_l09Valid (E : Option Addr) (nv cv : Nat) (vs : List RD) (w : World) (hv : InV w E nv vs) :
    Calls Tryz.prog 200 #[.slice E nv cv] w fun e w' => LpOkEnd (AllOk vs) w w' e := by
  have hn := hv.2.1
  have HV := Lib.hid hv
  clear hv
  go_enter Tryz.func200, Tryz.ntmps200
  go_wp2_with fail
  go_loopw [7] (fun x wr => ∃ i : Nat, i ≤ nv ∧ x = .int .i64 i ∧ Hid (OkTo vs i) ∧ Hid (Below w.heap.size w wr)) (fun x _ => nv - (intOf x).toNat)
  case atStart => exact ⟨0, Nat.zero_le _, rfl, OkTo.zero _, Below.refl _ _⟩
  case round =>
    obtain ⟨i, hle, rfl, hk, hb⟩ := hrel
    by_cases hlt : i < nv
    · obtain ⟨b, o, rfl, hbs, r, hr, A1, n1, c1, B1, m1, d1, hat, i1, _, j1, _⟩ := (HV.out.below hb.out).at_ i hlt
      obtain ⟨e0, e1, e2⟩ := hat
      have hi0 : (0 : Int) ≤ (i : Int) := by omega
      have hi1 : (i : Int) < (nv : Int) := by omega
      have HI := Lib.hid i1
      have HJ := Lib.hid j1
      have HR := Lib.hid hr
      clear i1 j1 hr
      go_wp2_with fail
      have HB := Lib.hid (hb.out.alloc hb.out.size (.cells #[.bool r.g, .slice A1 n1 c1, .slice B1 m1 d1] 34))
      have hbx : Below wr.heap.size wr (wr.alloc (.cells #[.bool r.g, .slice A1 n1 c1, .slice B1 m1 d1] 34)) := (Below.refl _ _).alloc (Nat.le_refl _) _
      refine (spec_ratOk' r.g A1 n1 c1 r.xs B1 m1 d1 r.ds _ (HI.out.below hbx) (HJ.out.below hbx)).mono ?_
      rintro e w1 ⟨⟨q, rfl, hq⟩, hb1⟩
      have HB2 := Lib.hid (HB.out.trans (hb1.mono HB.out.size))
      clear hb1 hbx
      cases q
      · have HF : Hid (LpOkEnd (AllOk vs) w w1 (.returned (.bool false))) := lpOk_no (fun h => (by have h1 := hq.2 (h _ (List.mem_of_getElem? HR.out)); cases h1)) HB2.out
        clear hq
        go_wp2_with fail
        go_ret
        exact HF.out
      · have HK := Lib.hid (hk.out.succ HR.out (hq.1 rfl))
        clear hq
        go_wp2_with fail
        go_roundw
        case rel => exact ⟨i + 1, by omega, by go_num, HK, HB2⟩
        case measure => simp [intOf]; omega
    · obtain rfl : i = nv := by omega
      have hall : AllOk vs := fun r hr => hk.out r (by rw [List.take_of_length_le (by rw [HV.out.1]; omega)]; exact hr)
      have HF : Hid (LpOkEnd (AllOk vs) w wr (.returned (.bool true))) := lpOk_yes (hall) hb.out
      clear hall
      go_wp2_with fail
      go_ret
      exact HF.out
set_option maxHeartbeats 3200000 in
theorem spec_objectiveAt0 (p k : Int) (A : Option Addr) (n c : Nat) (la : List Int) (B : Option Addr) (m d : Nat) (lb : List Int) (C : Option Addr) (l f : Nat) (lc : List Int) (E : Option Addr) (nv cv : Nat) (vs : List RD) (w : World) (h : InP w A n la B m lb C l lc) (hv : InV w E nv vs) :
    Calls Tryz.prog 129 #[.agg #[.int .i64 p, .int .i64 k, .slice A n c, .slice B m d, .slice C l f], .slice E nv cv] w fun e w' => RatOkEnd (ObjectiveAtIs p k la lb lc vs) w w' e := by
  obtain ⟨W0, hW0⟩ : ∃ W, W = ((w.alloc (.cells #[.int .i64 p, .int .i64 k, .slice A n c, .slice B m d, .slice C l f] 61)).alloc (.cells #[.bool false, .slice none 0 0, .slice none 0 0] 34)) := ⟨_, rfl⟩
  have hp0_0 : Hid (Box W0 (w.heap.size) 61 #[.int .i64 p, .int .i64 k, .slice A n c, .slice B m d, .slice C l f]) := by rw [hW0]; exact ((Box.at' (by simp)).alloc _)
  have hs_0 : Hid (Box W0 (w.heap.size + 1) 34 #[.bool false, .slice none 0 0, .slice none 0 0]) := by rw [hW0]; exact (Box.at' (by simp))
  have BW_0 : Hid (Below w.heap.size w W0) := by rw [hW0]; exact (((Below.refl w.heap.size w).alloc (by simp) _).alloc (by simp) _)
  have hsz0 : w.heap.size + 1 + 1 ≤ W0.heap.size := by rw [hW0]; simp
  have HI := Lib.hid (h.below BW_0.out)
  have HV := Lib.hid (hv.below BW_0.out)
  have hnv := hv.2.1
  clear h hv
  go_enter Tryz.func129, Tryz.ntmps129
  go_wp2_with fail
  rw [← hW0]
  clear hW0
  refine (spec_programOk0 p k A n c la B m d lb C l f lc _ HI.out).mono ?_
  rintro e w1 ⟨b1, rfl, h1, hb⟩
  have hp0_1 := Lib.hid (hp0_0.out.below hb hp0_0.out.lt)
  have hs_1 := Lib.hid (hs_0.out.below hb hs_0.out.lt)
  have BW_1 := Lib.hid (BW_0.out.trans (hb.mono BW_0.out.size))
  replace HI := Lib.hid (HI.out.below hb)
  replace HV := Lib.hid (HV.out.below hb)
  clear hb
  have H1 := Lib.hid h1
  clear h1
  have ehp00 := hp0_1.out.cell 0
  have ehp01 := hp0_1.out.cell 1
  have ehp02 := hp0_1.out.cell 2
  have ehp03 := hp0_1.out.cell 3
  have ehp04 := hp0_1.out.cell 4
  have ehs0 := hs_1.out.cell 0
  have ehs1 := hs_1.out.cell 1
  have ehs2 := hs_1.out.cell 2
  have fhs0 := hs_1.out.free 0
  have fhs1 := hs_1.out.free 1
  have fhs2 := hs_1.out.free 2
  simp at ehp00 ehp01 ehp02 ehp03 ehp04 ehs0 ehs1 ehs2
  cases b1
  case false =>
    have HZ : Hid (ObjectiveAtIs p k la lb lc vs false [] [] false) := value_no fun q => (by have := H1.out.2 q.1; cases this)
    go_wp2_with fail
    refine bodyPost_ret (v := .tuple #[.agg #[.bool false, .slice none 0 0, .slice none 0 0], .bool false]) (by simp [results, Tryz.results129, ehs0, ehs1, ehs2, go_sem]) rfl ?_
    exact ratOkEnd_zero HZ.out (below_store3 BW_1.out (by omega) _ _ _)
  have HOK : Hid (LP.ok ⟨p, k, la, lb, lc⟩) := H1.out.1 rfl
  by_cases hne : ((nv : Int) != k) = true
  · have HZ : Hid (ObjectiveAtIs p k la lb lc vs false [] [] false) := value_no fun q => (by have h2 := q.2.1; rw [HV.out.1] at h2; simp at hne; exact hne h2)
    have HNE := Lib.hid hne
    go_wp2_with fail
    refine bodyPost_ret (v := .tuple #[.agg #[.bool false, .slice none 0 0, .slice none 0 0], .bool false]) (by simp [results, Tryz.results129, ehs0, ehs1, ehs2, go_sem]) rfl ?_
    exact ratOkEnd_zero HZ.out (below_store3 BW_1.out (by omega) _ _ _)
  have hne2 : ((nv : Int) != k) = false := by simpa using hne
  have HNV : Hid ((nv : Int) = k) := by unfold Hid; simpa using hne
  clear hne
  go_wp2_with fail
  clear ehp00 ehp01 ehp02 ehp03 ehp04 ehs0 fhs0 ehs1 fhs1 ehs2 fhs2
  clear hne2
  refine (spec_l09Valid E nv cv vs _ HV.out).mono ?_
  rintro e w2 ⟨b2, rfl, h2, hb⟩
  have hp0_2 := Lib.hid (hp0_1.out.below hb hp0_1.out.lt)
  have hs_2 := Lib.hid (hs_1.out.below hb hs_1.out.lt)
  have BW_2 := Lib.hid (BW_1.out.trans (hb.mono BW_1.out.size))
  replace HI := Lib.hid (HI.out.below hb)
  replace HV := Lib.hid (HV.out.below hb)
  clear hb
  have H2 := Lib.hid h2
  clear h2
  have ehp00 := hp0_2.out.cell 0
  have ehp01 := hp0_2.out.cell 1
  have ehp02 := hp0_2.out.cell 2
  have ehp03 := hp0_2.out.cell 3
  have ehp04 := hp0_2.out.cell 4
  have ehs0 := hs_2.out.cell 0
  have ehs1 := hs_2.out.cell 1
  have ehs2 := hs_2.out.cell 2
  have fhs0 := hs_2.out.free 0
  have fhs1 := hs_2.out.free 1
  have fhs2 := hs_2.out.free 2
  simp at ehp00 ehp01 ehp02 ehp03 ehp04 ehs0 ehs1 ehs2
  cases b2
  case false =>
    have HZ : Hid (ObjectiveAtIs p k la lb lc vs false [] [] false) := value_no fun q => (by have := H2.out.2 q.2.2; cases this)
    go_wp2_with fail
    refine bodyPost_ret (v := .tuple #[.agg #[.bool false, .slice none 0 0, .slice none 0 0], .bool false]) (by simp [results, Tryz.results129, ehs0, ehs1, ehs2, go_sem]) rfl ?_
    exact ratOkEnd_zero HZ.out (below_store3 BW_2.out (by omega) _ _ _)
  have HC : Hid (LP.ok ⟨p, k, la, lb, lc⟩ ∧ Rats vs k) := ⟨HOK.out, by rw [HV.out.1]; exact HNV.out, H2.out.1 rfl⟩
  obtain rfl : nv = l := by
    have h1 := HI.out.ic.1
    have h2 := HNV.out
    have h3 := HOK.out.2.2.1
    simp only at h3
    omega
  go_wp2_with fail
  clear ehp00 ehp01 ehp02 ehp03 ehp04 ehs0 fhs0 ehs1 fhs1 ehs2 fhs2
  refine (spec_l09Sum C nv f lc E cv vs _ HI.out.ic HV.out).mono ?_
  rintro e w3 ⟨g, rr, v, dd, u, b, rfl, hq, q1, q2, hap, hb⟩
  obtain ⟨A6, c6, rfl⟩ := own_slice q1.2
  obtain ⟨B6, d6, rfl⟩ := own_slice q2.2
  have HQ2 : Hid (ObjectiveAtIs p k la lb lc vs g rr dd b) := ValueIs.under hq HC.out
  have hsz1 := BW_2.out.size
  have HO1 := Lib.hid q1
  have HO2 := Lib.hid q2
  have HAP := Lib.hid hap
  have hs_3 := Lib.hid (hs_2.out.below hb hs_2.out.lt)
  have BW_3 := Lib.hid (BW_2.out.trans (hb.mono BW_2.out.size))
  clear hb
  have ehs0 := hs_3.out.cell 0
  have ehs1 := hs_3.out.cell 1
  have ehs2 := hs_3.out.cell 2
  have fhs0 := hs_3.out.free 0
  have fhs1 := hs_3.out.free 1
  have fhs2 := hs_3.out.free 2
  simp at ehs0 ehs1 ehs2
  have hl1 := q1.1
  have hl2 := q2.1
  clear hq q1 q2 hap
  go_wp2_with fail
  refine bodyPost_ret (v := .tuple #[.agg #[.bool g, .slice A6 rr.length c6, .slice B6 dd.length d6], .bool b]) (by simp [results, Tryz.results129, ehs0, ehs1, ehs2, go_sem]) rfl ?_
  exact rok_store hs_3.out (by omega) BW_3.out HQ2.out HO1.out.1 HO2.out.1 HO1.out.2 HO2.out.2 hsz1 HAP.out
set_option maxHeartbeats 3200000 in
theorem spec_boundAt0 (p k : Int) (A : Option Addr) (n c : Nat) (la : List Int) (B : Option Addr) (m d : Nat) (lb : List Int) (C : Option Addr) (l f : Nat) (lc : List Int) (E : Option Addr) (nv cv : Nat) (vs : List RD) (w : World) (h : InP w A n la B m lb C l lc) (hv : InV w E nv vs) :
    Calls Tryz.prog 130 #[.agg #[.int .i64 p, .int .i64 k, .slice A n c, .slice B m d, .slice C l f], .slice E nv cv] w fun e w' => RatOkEnd (BoundAtIs p k la lb lc vs) w w' e := by
  obtain ⟨W0, hW0⟩ : ∃ W, W = ((w.alloc (.cells #[.int .i64 p, .int .i64 k, .slice A n c, .slice B m d, .slice C l f] 61)).alloc (.cells #[.bool false, .slice none 0 0, .slice none 0 0] 34)) := ⟨_, rfl⟩
  have hp0_0 : Hid (Box W0 (w.heap.size) 61 #[.int .i64 p, .int .i64 k, .slice A n c, .slice B m d, .slice C l f]) := by rw [hW0]; exact ((Box.at' (by simp)).alloc _)
  have hs_0 : Hid (Box W0 (w.heap.size + 1) 34 #[.bool false, .slice none 0 0, .slice none 0 0]) := by rw [hW0]; exact (Box.at' (by simp))
  have BW_0 : Hid (Below w.heap.size w W0) := by rw [hW0]; exact (((Below.refl w.heap.size w).alloc (by simp) _).alloc (by simp) _)
  have hsz0 : w.heap.size + 1 + 1 ≤ W0.heap.size := by rw [hW0]; simp
  have HI := Lib.hid (h.below BW_0.out)
  have HV := Lib.hid (hv.below BW_0.out)
  have hnv := hv.2.1
  clear h hv
  go_enter Tryz.func130, Tryz.ntmps130
  go_wp2_with fail
  rw [← hW0]
  clear hW0
  refine (spec_programOk0 p k A n c la B m d lb C l f lc _ HI.out).mono ?_
  rintro e w1 ⟨b1, rfl, h1, hb⟩
  have hp0_1 := Lib.hid (hp0_0.out.below hb hp0_0.out.lt)
  have hs_1 := Lib.hid (hs_0.out.below hb hs_0.out.lt)
  have BW_1 := Lib.hid (BW_0.out.trans (hb.mono BW_0.out.size))
  replace HI := Lib.hid (HI.out.below hb)
  replace HV := Lib.hid (HV.out.below hb)
  clear hb
  have H1 := Lib.hid h1
  clear h1
  have ehp00 := hp0_1.out.cell 0
  have ehp01 := hp0_1.out.cell 1
  have ehp02 := hp0_1.out.cell 2
  have ehp03 := hp0_1.out.cell 3
  have ehp04 := hp0_1.out.cell 4
  have ehs0 := hs_1.out.cell 0
  have ehs1 := hs_1.out.cell 1
  have ehs2 := hs_1.out.cell 2
  have fhs0 := hs_1.out.free 0
  have fhs1 := hs_1.out.free 1
  have fhs2 := hs_1.out.free 2
  simp at ehp00 ehp01 ehp02 ehp03 ehp04 ehs0 ehs1 ehs2
  cases b1
  case false =>
    have HZ : Hid (BoundAtIs p k la lb lc vs false [] [] false) := value_no fun q => (by have := H1.out.2 q.1; cases this)
    go_wp2_with fail
    refine bodyPost_ret (v := .tuple #[.agg #[.bool false, .slice none 0 0, .slice none 0 0], .bool false]) (by simp [results, Tryz.results130, ehs0, ehs1, ehs2, go_sem]) rfl ?_
    exact ratOkEnd_zero HZ.out (below_store3 BW_1.out (by omega) _ _ _)
  have HOK : Hid (LP.ok ⟨p, k, la, lb, lc⟩) := H1.out.1 rfl
  by_cases hne : ((nv : Int) != p) = true
  · have HZ : Hid (BoundAtIs p k la lb lc vs false [] [] false) := value_no fun q => (by have h2 := q.2.1; rw [HV.out.1] at h2; simp at hne; exact hne h2)
    have HNE := Lib.hid hne
    go_wp2_with fail
    refine bodyPost_ret (v := .tuple #[.agg #[.bool false, .slice none 0 0, .slice none 0 0], .bool false]) (by simp [results, Tryz.results130, ehs0, ehs1, ehs2, go_sem]) rfl ?_
    exact ratOkEnd_zero HZ.out (below_store3 BW_1.out (by omega) _ _ _)
  have hne2 : ((nv : Int) != p) = false := by simpa using hne
  have HNV : Hid ((nv : Int) = p) := by unfold Hid; simpa using hne
  clear hne
  go_wp2_with fail
  clear ehp00 ehp01 ehp02 ehp03 ehp04 ehs0 fhs0 ehs1 fhs1 ehs2 fhs2
  clear hne2
  refine (spec_l09Valid E nv cv vs _ HV.out).mono ?_
  rintro e w2 ⟨b2, rfl, h2, hb⟩
  have hp0_2 := Lib.hid (hp0_1.out.below hb hp0_1.out.lt)
  have hs_2 := Lib.hid (hs_1.out.below hb hs_1.out.lt)
  have BW_2 := Lib.hid (BW_1.out.trans (hb.mono BW_1.out.size))
  replace HI := Lib.hid (HI.out.below hb)
  replace HV := Lib.hid (HV.out.below hb)
  clear hb
  have H2 := Lib.hid h2
  clear h2
  have ehp00 := hp0_2.out.cell 0
  have ehp01 := hp0_2.out.cell 1
  have ehp02 := hp0_2.out.cell 2
  have ehp03 := hp0_2.out.cell 3
  have ehp04 := hp0_2.out.cell 4
  have ehs0 := hs_2.out.cell 0
  have ehs1 := hs_2.out.cell 1
  have ehs2 := hs_2.out.cell 2
  have fhs0 := hs_2.out.free 0
  have fhs1 := hs_2.out.free 1
  have fhs2 := hs_2.out.free 2
  simp at ehp00 ehp01 ehp02 ehp03 ehp04 ehs0 ehs1 ehs2
  cases b2
  case false =>
    have HZ : Hid (BoundAtIs p k la lb lc vs false [] [] false) := value_no fun q => (by have := H2.out.2 q.2.2; cases this)
    go_wp2_with fail
    refine bodyPost_ret (v := .tuple #[.agg #[.bool false, .slice none 0 0, .slice none 0 0], .bool false]) (by simp [results, Tryz.results130, ehs0, ehs1, ehs2, go_sem]) rfl ?_
    exact ratOkEnd_zero HZ.out (below_store3 BW_2.out (by omega) _ _ _)
  have HC : Hid (LP.ok ⟨p, k, la, lb, lc⟩ ∧ Rats vs p) := ⟨HOK.out, by rw [HV.out.1]; exact HNV.out, H2.out.1 rfl⟩
  obtain rfl : nv = m := by
    have h1 := HI.out.ib.1
    have h2 := HNV.out
    have h3 := HOK.out.2.1.1
    simp only at h3
    omega
  go_wp2_with fail
  clear ehp00 ehp01 ehp02 ehp03 ehp04 ehs0 fhs0 ehs1 fhs1 ehs2 fhs2
  refine (spec_l09Sum B nv d lb E cv vs _ HI.out.ib HV.out).mono ?_
  rintro e w3 ⟨g, rr, v, dd, u, b, rfl, hq, q1, q2, hap, hb⟩
  obtain ⟨A6, c6, rfl⟩ := own_slice q1.2
  obtain ⟨B6, d6, rfl⟩ := own_slice q2.2
  have HQ2 : Hid (BoundAtIs p k la lb lc vs g rr dd b) := ValueIs.under hq HC.out
  have hsz1 := BW_2.out.size
  have HO1 := Lib.hid q1
  have HO2 := Lib.hid q2
  have HAP := Lib.hid hap
  have hs_3 := Lib.hid (hs_2.out.below hb hs_2.out.lt)
  have BW_3 := Lib.hid (BW_2.out.trans (hb.mono BW_2.out.size))
  clear hb
  have ehs0 := hs_3.out.cell 0
  have ehs1 := hs_3.out.cell 1
  have ehs2 := hs_3.out.cell 2
  have fhs0 := hs_3.out.free 0
  have fhs1 := hs_3.out.free 1
  have fhs2 := hs_3.out.free 2
  simp at ehs0 ehs1 ehs2
  have hl1 := q1.1
  have hl2 := q2.1
  clear hq q1 q2 hap
  go_wp2_with fail
  refine bodyPost_ret (v := .tuple #[.agg #[.bool g, .slice A6 rr.length c6, .slice B6 dd.length d6], .bool b]) (by simp [results, Tryz.results130, ehs0, ehs1, ehs2, go_sem]) rfl ?_
  exact rok_store hs_3.out (by omega) BW_3.out HQ2.out HO1.out.1 HO2.out.1 HO1.out.2 HO2.out.2 hsz1 HAP.out
end Go.Proofs.YtegclofijaoajaaGreat
