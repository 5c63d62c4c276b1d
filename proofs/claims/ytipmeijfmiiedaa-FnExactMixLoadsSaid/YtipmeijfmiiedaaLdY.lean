/- Loads mixed, by the model. -/
import Derived.Test.YtipmeijfmiiedaaLdX
namespace Go.Proofs.Ytipmeijfmiiedaa
set_option maxRecDepth 100000
open Go.RowKit

set_option maxHeartbeats 6400000 in
theorem spec_mixLoads0 (A : Option Addr) (n c : Nat) (js : List JD) (B : Option Addr) (m d : Nat) (ms : List MD) (L : Option Addr) (nL cL : Nat) (es : List RowE) (Wt : Option Addr) (nW cW : Nat) (ws : List Int) (w : World) (h : InT w A n js B m ms) (hL : InII w L nL es) (hw : InI w Wt nW ws) :
    Calls Try.prog 32 #[.agg #[.slice A n c, .slice B m d], .slice L nL cL, .slice Wt nW cW] w fun e w' => LdEnd (MixLoadsIs js ms (es.map rowXs) ws) w w' e := by
  obtain ⟨i0, hi, hz0, hz1, hz2⟩ := info_parts Try.infoI
  obtain ⟨W1, hW⟩ : ∃ W, W = w.alloc (.cells #[.slice A n c, .slice B m d] 26) := ⟨_, rfl⟩
  have X0 : Hid (Box W1 w.heap.size 26 #[.slice A n c, .slice B m d]) := by rw [hW]; exact Box.new _ _ _
  have B0 : Hid (Below w.heap.size w W1) := by rw [hW]; exact (Below.refl _ _).alloc (Nat.le_refl _) _
  have HLN : Hid (js.length = n) := h.1.1
  have HI := Lib.hid h
  have HLE : Hid (es.length = nL) := hL.1
  have HLW : Hid (ws.length = nW) := hw.1
  have hnL := hL.2.1
  have hnW := hw.2.1
  have HL := Lib.hid hL
  have HW := Lib.hid hw
  have HCL : Hid ((es.map rowXs).length = nL) := by unfold Hid; rw [List.length_map]; exact HLE.out
  clear h hL hw
  by_cases hne : nL = nW
  case neg =>
    have hne' : ((nL : Int) != (nW : Int)) = true := by simp; omega
    have HNE := Lib.hid hne
    clear hne
    have HF : Hid (LdEnd (MixLoadsIs js ms (es.map rowXs) ws) w W1 (.returned (.tuple #[.slice none 0 0, .bool false]))) := ldEnd_none (Q := MixLoadsIs js ms (es.map rowXs) ws) (.inr ⟨fun q => HNE.out (by have h1 := q.1.2.1; rw [HCL.out, HLW.out] at h1; exact h1), rfl, rfl⟩) B0.out
    go_enter Try.func32, Try.ntmps32
    go_wp2_with fail
    rw [← hW]
    clear hW
    go_ret2
    exact HF.out
  subst hne
  have hne' : ((nL : Int) != (nL : Int)) = false := by simp
  by_cases h10 : 10 < nL
  · have h10' : (10 : Int) < (nL : Int) := by omega
    have HF : Hid (LdEnd (MixLoadsIs js ms (es.map rowXs) ws) w W1 (.returned (.tuple #[.slice none 0 0, .bool false]))) := ldEnd_none (Q := MixLoadsIs js ms (es.map rowXs) ws) (.inr ⟨fun q => (by have h1 := q.1.2.2.1; rw [HCL.out] at h1; omega), rfl, rfl⟩) B0.out
    go_enter Try.func32, Try.ntmps32
    go_wp2_with fail
    rw [← hW]
    clear hW
    go_ret2
    exact HF.out
  have h10' : ¬ (10 : Int) < (nL : Int) := by omega
  go_enter Try.func32, Try.ntmps32
  go_wp2_with fail
  rw [← hW]
  clear hW
  refine (spec_structureOk0 A n c js B m d ms _ (HI.out.below B0.out)).mono ?_
  rintro e w1 ⟨b, rfl, hq, hb⟩
  have X1 := Lib.hid (X0.out.below hb X0.out.lt)
  have B1 := Lib.hid (B0.out.trans (hb.mono B0.out.size))
  have HQ := Lib.hid hq
  clear hb hq
  cases b
  case false =>
    have HF : Hid (LdEnd (MixLoadsIs js ms (es.map rowXs) ws) w w1 (.returned (.tuple #[.slice none 0 0, .bool false]))) := ldEnd_none (Q := MixLoadsIs js ms (es.map rowXs) ws) (.inr ⟨fun q => (by have := HQ.out.2 q.1.1; cases this), rfl, rfl⟩) B1.out
    go_wp2_with fail
    go_ret2
    exact HF.out
  have HOK : Hid (TOk js ms) := HQ.out.1 rfl
  have hn6 : n ≤ 6 := by have := HOK.out.six; have := HLN.out; omega
  have e0 := X1.out.cell 0
  have e1 := X1.out.cell 1
  simp at e0 e1
  obtain ⟨M, hM⟩ : ∃ M, M = 2 * n := ⟨_, rfl⟩
  have hmul : 2 * (n : Int) = (M : Int) := by omega
  have HM : Hid (M = 2 * js.length) := by unfold Hid; rw [HLN.out]; exact hM
  have hM12 : M ≤ 12 := by omega
  have hbs := B1.out.size
  clear hM
  go_wp2_with (refine wpList_make_full _ rfl _ _ 27 rfl w.heap.size 3 i0 (.int .i64 0) 1 Try.underlying27 hi hz0 hz1 _ _ _ _ M rfl rfl rfl rfl ?c1 ?c2 ?c3 ?_)
  case c1 => rw [hz2]; omega
  case c2 => unfold maxLen; omega
  case c3 => exact hbs
  intro w2 ho hg
  have B2 : Hid (Below w.heap.size w w2) := B1.out.grown hg hbs (fun k hk => by cases hk)
  have X2 : Hid (Box w2 w.heap.size 26 #[.slice A n c, .slice B m d]) := X1.out.grown hg (fun q => by cases q)
  obtain ⟨gr, hgr⟩ : ∃ g, g = w1.heap.size := ⟨_, rfl⟩
  rw [← hgr] at ho ⊢
  have O2 : Hid (w2.ownsRow w.heap.size 3 1 (.slice (some ⟨gr, 0, none⟩) M M) M ((mixTo (es.map rowXs) ws M 0).map (.int .i64))) := by
    unfold Hid
    rw [mixTo_zero, ← made0]
    simp only [Value.cells, Nat.mul_one]
    exact ho
  have hgw : w.heap.size ≤ gr := by rw [hgr]; exact hbs
  clear ho hg hgr e0 e1
  go_wp2_with fail
  go_loopw [35] (fun y wr => ∃ t : Nat, t ≤ nL ∧ y = .int .i64 t ∧ Hid (∀ u, u < t → (0 ≤ (ws[u]?).getD 0 ∧ (ws[u]?).getD 0 ≤ 100) ∧ ∀ e, es[u]? = some e → LdOk js ms e.2.2.2) ∧ Hid (wr.ownsRow w.heap.size 3 1 (.slice (some ⟨gr, 0, none⟩) M M) M ((mixTo (es.map rowXs) ws M t).map (.int .i64))) ∧ Hid (Below w.heap.size w wr) ∧ Hid (Box wr w.heap.size 26 #[.slice A n c, .slice B m d])) (fun y _ => nL - (intOf y).toNat)
  case atStart => exact ⟨0, Nat.zero_le _, rfl, fun u h => absurd h (Nat.not_lt_zero _), O2, B2, X2⟩
  case round =>
    clear O2 B2 X2
    obtain ⟨t, ht, rfl, HA, HO, HB, HX⟩ := hrel
    by_cases hlt : t < nL
    · obtain ⟨b, o, A1, n1, c1, xs, rfl, hbs1, hr, hcell, hx⟩ := (HL.out.below HB.out).at_ hlt
      have hi0 : (0 : Int) ≤ (t : Int) := by omega
      have hi1 : (t : Int) < (nL : Int) := by omega
      have HR := Lib.hid hr
      have IX := Lib.hid hx
      have e0 := HX.out.cell 0
      have e1 := HX.out.cell 1
      simp at e0 e1
      clear hr hx
      go_wp2_with fail
      clear hcell e0 e1
      refine (spec_loadOk0 A n c js B m d ms A1 n1 c1 xs _ (HI.out.below HB.out) IX.out).mono ?_
      rintro e w3 ⟨b3, rfl, hq, hb⟩
      have HB3 := Lib.hid (HB.out.trans (hb.mono HB.out.size))
      have HX3 := Lib.hid (HX.out.below hb HX.out.lt)
      have HO3 := Lib.hid (own_below HO.out hb)
      have HQ3 := Lib.hid hq
      have IX3 := Lib.hid (IX.out.below hb)
      clear hq hb
      cases b3
      case false =>
        have HF : Hid (LdEnd (MixLoadsIs js ms (es.map rowXs) ws) w w3 (.returned (.tuple #[.slice none 0 0, .bool false]))) := ldEnd_none (Q := MixLoadsIs js ms (es.map rowXs) ws) (.inr ⟨fun q => (by have := HQ3.out.2 (q.1.2.2.2.1 _ (List.mem_map.2 ⟨_, List.mem_of_getElem? HR.out, rfl⟩)); cases this), rfl, rfl⟩) HB3.out
        go_wp2_with fail
        go_ret2
        exact HF.out
      have HLX : Hid (LdOk js ms xs) := HQ3.out.1 rfl
      obtain ⟨bw, ow, z, rfl, hz, hcw, _, hz0', hz1'⟩ := (HW.out.below HB3.out).get hlt
      have HZ := Lib.hid hz
      by_cases hzr : 0 ≤ z ∧ z ≤ 100
      case neg =>
        have HNZ := Lib.hid hzr
        have HF : Hid (LdEnd (MixLoadsIs js ms (es.map rowXs) ws) w w3 (.returned (.tuple #[.slice none 0 0, .bool false]))) := ldEnd_none (Q := MixLoadsIs js ms (es.map rowXs) ws) (.inr ⟨fun q => HNZ.out (q.1.2.2.2.2 z (List.mem_of_getElem? HZ.out)), rfl, rfl⟩) HB3.out
        clear hzr hz
        go_wp2_with fail
        refine (l01In_no z 0 100 _ HNZ.out).mono ?_
        rintro e w4 ⟨rfl, rfl⟩
        go_wp2_with fail
        go_ret2
        exact HF.out
      have HA2 : Hid (∀ u, u < t + 1 → (0 ≤ (ws[u]?).getD 0 ∧ (ws[u]?).getD 0 ≤ 100) ∧ ∀ e, es[u]? = some e → LdOk js ms e.2.2.2) := fun u hu => by
        by_cases hut : u = t
        · subst hut
          refine ⟨by rw [HZ.out]; exact hzr, fun e he => ?_⟩
          rw [HR.out] at he
          obtain rfl := Option.some.inj he
          exact HLX.out
        · exact HA.out u (by omega)
      have hn1 : n1 = M := by
        have h1 := IX.out.1
        rw [HLX.out.2.1] at h1
        rw [HM.out]
        exact h1.symm
      subst hn1
      have HWB : Hid (∀ i, -(10000 * t : Int) ≤ wsum (es.map rowXs) ws i t ∧ wsum (es.map rowXs) ws i t ≤ 10000 * t) := fun i => wsum_bound (fun u hu => ⟨(HA.out u hu).1, fun c hc => by
        rw [List.getElem?_map] at hc
        cases hq : es[u]? with
        | none => rw [hq] at hc; cases hc
        | some e =>
          rw [hq] at hc
          obtain rfl := Option.some.inj hc
          exact ((HA.out u hu).2 e hq).2.2⟩) i
      have ht10 : t < 10 := by omega
      clear hz
      go_wp2_with fail
      refine (l01In_yes z 0 100 _ hzr.1 hzr.2).mono ?_
      rintro e w4 ⟨rfl, rfl⟩
      clear hcw
      go_wp2_with fail
      obtain ⟨zs, hzs⟩ : ∃ zs, zs = mixTo (es.map rowXs) ws n1 (t + 1) := ⟨_, rfl⟩
      obtain ⟨ys, hys⟩ : ∃ ys, ys = mixTo (es.map rowXs) ws n1 t := ⟨_, rfl⟩
      have HZS := Lib.hid hzs
      have HYS := Lib.hid hys
      have HZL : Hid (zs.length = n1) := by unfold Hid; rw [hzs]; exact mixTo_length _ _ _ _
      have HYL : Hid (ys.length = n1) := by unfold Hid; rw [hys]; exact mixTo_length _ _ _ _
      rw [← hys] at HO3
      clear hzs hys
      go_loopw [54] (fun y wq => ∃ k : Nat, k ≤ n1 ∧ y = .int .i64 k ∧ Hid (wq.ownsRow w.heap.size 3 1 (.slice (some ⟨gr, 0, none⟩) n1 n1) n1 ((zs.map (Value.int .i64)).take k ++ (ys.map (Value.int .i64)).drop k)) ∧ Hid (Below w.heap.size w wq) ∧ Hid (Box wq w.heap.size 26 #[.slice A n c, .slice B m d])) (fun y _ => n1 - (intOf y).toNat)
      case atStart => exact ⟨0, Nat.zero_le _, rfl, by simpa using HO3, HB3, HX3⟩
      case round =>
        clear HO3 HX3 HO HX
        obtain ⟨k, hk, rfl, HO, HBq, HX⟩ := hrel
        obtain ⟨wq, rfl⟩ : ∃ q : World, q = wr := ⟨_, rfl⟩
        by_cases hlk : k < n1
        · have hk0 : (0 : Int) ≤ (k : Int) := by omega
          have hk1 : (k : Int) < (n1 : Int) := by omega
          have IXQ : InI wq A1 n1 xs := by
            obtain ⟨_, _, A2, n2, c2, xs2, _, _, h3, _, h5⟩ := (HL.out.below HBq.out).at_ hlt
            rw [HR.out] at h3
            have h4 := Option.some.inj h3
            simp only [Prod.mk.injEq] at h4
            obtain ⟨rfl, rfl, rfl, rfl⟩ := h4
            exact h5
          obtain ⟨bx, ox, x, hAx, hx, hcx, _, _, _⟩ := IXQ.get hlk
          clear IXQ
          subst hAx
          obtain ⟨bw2, ow2, z2, hAw, hz2', hcw2, _, _, _⟩ := (HW.out.below HBq.out).get hlt
          cases hAw
          obtain rfl : z2 = z := by rw [HZ.out] at hz2'; exact (Option.some.inj hz2').symm
          have hxb := HLX.out.2.2 x (List.mem_of_getElem? hx)
          obtain ⟨q, hq⟩ : ∃ q, q = z2 * x := ⟨_, rfl⟩
          have hqb : -10000 ≤ q ∧ q ≤ 10000 := by rw [hq]; exact mul_le_of (m := 100) (n := 100) (by omega) hxb
          have hwq : IntKind.i64.wrap (z2 * x) = q := by rw [← hq, IntKind.wrap_i64]; omega
          have hix : k < (zs.map (Value.int .i64)).length := by rw [List.length_map, HZL.out]; exact hlk
          have hiy : k < (ys.map (Value.int .i64)).length := by rw [List.length_map, HYL.out]; exact hlk
          obtain ⟨u, hu⟩ : ∃ u, u = wsum (es.map rowXs) ws k t := ⟨_, rfl⟩
          have hub : -(10000 * t : Int) ≤ u ∧ u ≤ 10000 * t := by rw [hu]; exact HWB.out k
          have hzi : (zs.map (Value.int .i64))[k]'hix = .int .i64 (u + q) := by
            have h1 : zs[k]? = some (u + q) := by
              rw [HZS.out, mixTo_at _ _ _ hlk]
              unfold wsum
              rw [← hu, HZ.out, List.getElem?_map, HR.out, hq]
              simp only [Option.map_some, Option.getD_some, rowXs]
              rw [hx]
              rfl
            obtain ⟨h2, h3⟩ := List.getElem?_eq_some_iff.1 h1
            rw [List.getElem_map, h3]
          have hold : wq.cell? ⟨gr, k, none⟩ = some (.int .i64 u) := by
            have hcl := HO.out.cellAt k (by omega)
            have h1 : ((zs.map (Value.int .i64)).take k ++ (ys.map (Value.int .i64)).drop k)[k]? = some (.int .i64 u) := by
              rw [List.getElem?_append_right (by rw [List.length_take]; omega), List.length_take, Nat.min_eq_left (by omega), Nat.sub_self, List.getElem?_drop, Nat.add_zero, List.getElem?_map, HYS.out, mixTo_at _ _ _ hlk, hu]
              rfl
            rw [h1] at hcl
            exact hcl
          have hfr := HO.out.frozenAt k
          have hst := (HO.out.stored k (.int .i64 (u + q))).1
          rw [← hzi, copied_set _ _ k hix hiy, hzi] at hst
          have HO7 := Lib.hid hst
          have hne1 : w.heap.size ≠ gr := fun q => ne_own HX.out HO.out (by decide) (by rw [q]; rfl)
          have HB7 : Hid (Below w.heap.size w (wq.setCell ⟨gr, k, none⟩ (.int .i64 (u + q)))) := HBq.out.setCell hgw _
          have HX7 : Hid (Box (wq.setCell ⟨gr, k, none⟩ (.int .i64 (u + q))) w.heap.size 26 #[.slice A n c, .slice B m d]) := HX.out.far (p := ⟨gr, k, none⟩) hne1 _
          have hsum : IntKind.i64.wrap (u + q) = u + q := by rw [IntKind.wrap_i64]; omega
          clear hst hzi hne1 hu hq hx hz2'
          go_wp2_with fail
          go_region
          all_goals go_wp2_with fail
          all_goals go_roundw
          case rel => exact ⟨k + 1, by omega, by go_num, HO7, HB7.out.drew, HX7⟩
          case measure => simp [intOf]; omega
        · obtain rfl : k = n1 := by omega
          have ho2 := HO.out
          rw [List.take_of_length_le (by rw [List.length_map, HZL.out]; omega), List.drop_eq_nil_of_le (by rw [List.length_map, HYL.out]; omega), List.append_nil, HZS.out] at ho2
          have HO7 := Lib.hid ho2
          clear ho2
          go_wp2_with fail
          go_roundw
          case rel => exact ⟨t + 1, by omega, by go_num, HA2, HO7, HBq, HX⟩
          case measure => simp [intOf]; omega
    · obtain rfl : t = nL := by omega
      obtain ⟨zs, hzs⟩ : ∃ zs, zs = mixTo (es.map rowXs) ws M t := ⟨_, rfl⟩
      have HZL : Hid (zs.length = M) := by unfold Hid; rw [hzs]; exact mixTo_length _ _ _ _
      have HZS := Lib.hid hzs
      rw [← hzs] at HO
      have hMA : zs = mixAll js (es.map rowXs) ws := by
        unfold mixAll
        rw [hzs, HCL.out, ← HM.out]
      have HMA := Lib.hid hMA
      have HWO : Hid (WOk ws) := fun z hz => by
        obtain ⟨u, hu⟩ := List.getElem?_of_mem hz
        have hul := (List.getElem?_eq_some_iff.1 hu).1
        rw [HLW.out] at hul
        have := (HA.out u hul).1
        rw [hu] at this
        exact this
      have HLD : Hid (∀ e ∈ es, LdOk js ms e.2.2.2) := fun e he => by
        obtain ⟨u, hu⟩ := List.getElem?_of_mem he
        have hul := (List.getElem?_eq_some_iff.1 hu).1
        rw [HLE.out] at hul
        exact (HA.out u hul).2 e hu
      have IZ : Hid (InI wr (some ⟨gr, 0, none⟩) M zs) := ⟨HZL.out, by omega, Reads.of_own HO.out, fun z hz => by
        rw [hzs] at hz
        obtain ⟨k, _, rfl⟩ := List.mem_map.1 hz
        have := wsum_bound (cs := es.map rowXs) (ws := ws) (t := t) (fun u _ => ⟨HWO.out.at_ u, fun c hc => by
          obtain ⟨e, he, rfl⟩ := List.mem_map.1 (List.mem_of_getElem? hc)
          exact (HLD.out e he).2.2⟩) k
        omega⟩
      have e0 := HX.out.cell 0
      have e1 := HX.out.cell 1
      simp at e0 e1
      clear hzs hMA HA
      go_wp2_with fail
      clear e0 e1
      refine (spec_loadOk0 A n c js B m d ms (some ⟨gr, 0, none⟩) M M zs _ (HI.out.below HB.out) IZ.out).mono ?_
      rintro e w8 ⟨b, rfl, hq, hb⟩
      have HQ8 := Lib.hid hq
      clear hq
      cases b
      case false =>
        have HF : Hid (LdEnd (MixLoadsIs js ms (es.map rowXs) ws) w w8 (.returned (.tuple #[.slice none 0 0, .bool false]))) := ldEnd_none (Q := MixLoadsIs js ms (es.map rowXs) ws) (.inr ⟨fun q => (by have h1 := q.2; rw [← HMA.out] at h1; have := HQ8.out.2 h1; cases this), rfl, rfl⟩) (HB.out.trans (hb.mono HB.out.size))
        clear hb
        go_wp2_with fail
        go_ret2
        exact HF.out
      have HF : Hid (LdEnd (MixLoadsIs js ms (es.map rowXs) ws) w w8 (.returned (.tuple #[.slice (some ⟨gr, 0, none⟩) M M, .bool true]))) := ⟨zs, _, true, rfl, .inl ⟨⟨⟨HOK.out, by rw [HCL.out, HLW.out], by rw [HCL.out]; omega, fun c hc => by
        obtain ⟨e, he, rfl⟩ := List.mem_map.1 hc
        exact HLD.out e he, HWO.out⟩, by rw [← HMA.out]; exact HQ8.out.1 rfl⟩, HMA.out, rfl⟩, ⟨by rw [HZL.out]; omega, by rw [HZL.out]; exact own_below HO.out hb⟩, HB.out.trans (hb.mono HB.out.size)⟩
      clear hb
      go_wp2_with fail
      go_ret2
      exact HF.out
theorem spec_mixLoads (A : Option Addr) (n c : Nat) (js : List JD) (B : Option Addr) (m d : Nat) (ms : List MD) (L : Option Addr) (nL cL : Nat) (es : List RowE) (Wt : Option Addr) (nW cW : Nat) (ws : List Int) (w : World) (h : InT w A n js B m ms) (hL : InII w L nL es) (hw : InI w Wt nW ws) :
    Calls Try.prog 32 #[.agg #[.slice A n c, .slice B m d], .slice L nL cL, .slice Wt nW cW] w fun e w' => ∃ r v b, e = .returned (.tuple #[v, .bool b]) ∧ MixLoadsIs js ms (es.map rowXs) ws r b ∧ ResI w w' v r ∧ Below w.heap.size w w' := spec_mixLoads0 A n c js B m d ms L nL cL es Wt nW cW ws w h hL hw
end Go.Proofs.Ytipmeijfmiiedaa
