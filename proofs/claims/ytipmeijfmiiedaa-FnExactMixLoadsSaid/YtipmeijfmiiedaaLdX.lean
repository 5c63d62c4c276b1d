/- Loads mixed, by the program and by the model. -/
import Derived.Test.YtipmeijfmiiedaaLdP
import Derived.Test.YtipmeijfmiiedaaLdM
import Derived.Test.YtipmeijfmiiedaaFarI2
import Derived.ChangeAlike
import Derived.RegionTactic
namespace Go.Proofs.Ytipmeijfmiiedaa
set_option maxRecDepth 100000
open Go.RowKit

/-- The first t products, added up. -/
def dotTo (ws xs : List Int) : Nat → Int
  | 0 => 0
  | t + 1 => dotTo ws xs t + (ws[t]?).getD 0 * (xs[t]?).getD 0
theorem flat_at {N : Nat} : ∀ {l : List (List Int)} (_ : ∀ c ∈ l, c.length = N) (t i : Nat), i < N → l.flatten[t * N + i]? = (l[t]?).bind fun c => c[i]?
  | [], _, t, i, _ => by simp
  | c :: l, h, 0, i, hi => by
    have hc := h c (List.mem_cons_self ..)
    rw [Nat.zero_mul, Nat.zero_add, List.flatten_cons, List.getElem?_append_left (by omega)]
    simp
  | c :: l, h, t + 1, i, hi => by
    have hc := h c (List.mem_cons_self ..)
    rw [List.flatten_cons, List.getElem?_append_right (by rw [hc, Nat.succ_mul]; omega), hc, show (t + 1) * N + i - N = t * N + i by rw [Nat.succ_mul]; omega]
    simpa using flat_at (fun c hc => h c (List.mem_cons_of_mem _ hc)) t i hi
theorem flat_length {N : Nat} : ∀ {l : List (List Int)} (_ : ∀ c ∈ l, c.length = N), l.flatten.length = l.length * N
  | [], _ => by simp
  | c :: l, h => by
    rw [List.flatten_cons, List.length_append, flat_length (fun c hc => h c (List.mem_cons_of_mem _ hc)), h c (List.mem_cons_self ..), List.length_cons, Nat.succ_mul]
    omega
theorem dot_mix {cs : List (List Int)} {ws : List Int} {N i : Nat} (h : ∀ c ∈ cs, c.length = N) (hi : i < N) : ∀ {t : Nat}, t ≤ cs.length → dotTo ws (lcol N cs.flatten cs.length i) t = wsum cs ws i t
  | 0, _ => rfl
  | t + 1, ht => by
    unfold dotTo wsum
    rw [dot_mix h hi (t := t) (by omega)]
    congr 1
    congr 1
    have h1 : cs[t]? = some (cs[t]'(by omega)) := List.getElem?_eq_getElem (by omega)
    have h2 : cs.flatten[t * N + i]? = (cs[t]'(by omega))[i]? := by rw [flat_at h t i hi, h1]; rfl
    have hl : i < (cs[t]'(by omega)).length := by rw [h _ (List.getElem_mem _)]; exact hi
    rw [List.getElem?_eq_getElem hl] at h2
    rw [lcol_at (by omega) h2, h1]
    simp only [Option.getD_some]
    rw [List.getElem?_eq_getElem hl]
    rfl
theorem dot_bound {ws xs : List Int} (hw : WOk ws) (hx : Ent xs) : ∀ t : Nat, -(10000 * t : Int) ≤ dotTo ws xs t ∧ dotTo ws xs t ≤ 10000 * t
  | 0 => by simp [dotTo]
  | t + 1 => by
    have h1 := dot_bound hw hx t
    have h2 : -10000 ≤ (ws[t]?).getD 0 * (xs[t]?).getD 0 ∧ (ws[t]?).getD 0 * (xs[t]?).getD 0 ≤ 10000 := mul_le_of (m := 100) (n := 100) (by have := hw.at_ t; omega) (hx.at_ t)
    unfold dotTo
    omega
theorem impl_mixer (Wt : Option Addr) (nW cW : Nat) (w : World) :
    Calls Try.prog 47 #[.slice Wt nW cW] w fun e w' => e = .returned (.func (.func 72) #[] #[.pointer (some ⟨w.heap.size, 0, none⟩)]) ∧ Box w' w.heap.size 27 #[.slice Wt nW cW] ∧ Below w.heap.size w w' := by
  go_enter Try.func47, Try.ntmps47
  go_wp2_with fail
  go_ret
  exact ⟨rfl, Box.new _ _ _, (Below.refl _ _).alloc (Nat.le_refl _) _⟩
def SumIs (r : Int) (w w' : World) (e : Ending) : Prop := e = .returned (.int .i64 r) ∧ w' = w
set_option maxHeartbeats 3200000 in
theorem impl_mix (X : Option Addr) (nx cx : Nat) (xs : List Int) (g : Nat) (Wt : Option Addr) (nW cW : Nat) (ws : List Int) (w : World) (h : InI w X nx xs) (hw : InI w Wt nW ws) (hg : Box w g 27 #[.slice Wt nW cW]) (hn : nx = nW) (h10 : nW ≤ 10) (ho : WOk ws) (he : Ent xs) :
    Calls Try.prog 72 #[.slice X nx cx, .pointer (some ⟨g, 0, none⟩)] w fun e w' => SumIs (dotTo ws xs nx) w w' e := by
  subst hn
  have HX := Lib.hid h
  have HW := Lib.hid hw
  have HB := Lib.hid (And.intro ho he)
  have eg := hg.cell 0
  simp at eg
  clear h hw hg ho he
  go_enter Try.func72, Try.ntmps72
  go_wp2_with fail
  go_loopw [4, 9] (fun a y wr => ∃ (t : Nat) (u : Int), t ≤ nx ∧ y = .int .i64 t ∧ a = .int .i64 u ∧ (-(10000 * t : Int) ≤ u ∧ u ≤ 10000 * t) ∧ Hid (u = dotTo ws xs t) ∧ wr = w) (fun _ y _ => nx - (intOf y).toNat)
  case atStart => exact ⟨0, 0, Nat.zero_le _, rfl, rfl, by omega, rfl, rfl⟩
  case round =>
    obtain ⟨t, u, ht, rfl, rfl, hu, HU, rfl⟩ := hrel
    by_cases hlt : t < nx
    · have hk0 : (0 : Int) ≤ (t : Int) := by omega
      have hk1 : (t : Int) < (nx : Int) := by omega
      obtain ⟨b1, o1, z, rfl, hz, hcell, _, _, _⟩ := HX.out.get hlt
      obtain ⟨b2, o2, z', rfl, hz', hcell', _, _, _⟩ := HW.out.get hlt
      have hzb := HB.out.2 z (List.mem_of_getElem? hz)
      have hzb' := HB.out.1 z' (List.mem_of_getElem? hz')
      obtain ⟨q, hq⟩ : ∃ q, q = z' * z := ⟨_, rfl⟩
      have hqb : -10000 ≤ q ∧ q ≤ 10000 := by rw [hq]; exact mul_le_of (m := 100) (n := 100) (by omega) hzb
      have HU2 : Hid (u + q = dotTo ws xs (t + 1)) := by unfold Hid dotTo; rw [hz, hz', ← HU.out, hq]; rfl
      have hwq : IntKind.i64.wrap (z' * z) = q := by rw [← hq, IntKind.wrap_i64]; omega
      clear hz hz' hq
      go_wp2_with fail
      go_roundw
      case rel => exact ⟨t + 1, u + q, by omega, by go_num, by go_num, by omega, HU2, by trivial⟩
      case measure => simp [intOf]; omega
    · obtain rfl : t = nx := by omega
      have HF : Hid (SumIs (dotTo ws xs t) wr wr (.returned (.int .i64 u))) := ⟨by rw [HU.out], rfl⟩
      go_wp2_with fail
      go_ret
      exact HF.out
set_option maxHeartbeats 6400000 in
theorem impl_mixLoads0 (A : Option Addr) (n c : Nat) (js : List JD) (B : Option Addr) (m d : Nat) (ms : List MD) (L : Option Addr) (nL cL : Nat) (es : List RowE) (Wt : Option Addr) (nW cW : Nat) (ws : List Int) (w : World) (h : InT w A n js B m ms) (hL : InII w L nL es) (hw : InI w Wt nW ws) :
    Calls Try.prog 14 #[.agg #[.slice A n c, .slice B m d], .slice L nL cL, .slice Wt nW cW] w fun e w' => LdEnd (MixLoadsIs js ms (es.map rowXs) ws) w w' e := by
  obtain ⟨i0, hi, hz0, hz1, hz2⟩ := info_parts Try.infoI
  obtain ⟨W1, hW⟩ : ∃ W, W = w.alloc (.cells #[.slice A n c, .slice B m d] 26) := ⟨_, rfl⟩
  have X0 : Hid (Box W1 w.heap.size 26 #[.slice A n c, .slice B m d]) := by rw [hW]; exact Box.new _ _ _
  have B0 : Hid (Below w.heap.size w W1) := by rw [hW]; exact (Below.refl _ _).alloc (Nat.le_refl _) _
  have HLN : Hid (js.length = n) := h.1.1
  have HI := Lib.hid h
  have HLE : Hid (es.length = nL) := hL.1
  have HLW : Hid (ws.length = nW) := hw.1
  have hnL := hL.2.1
  have hnW := hw.2.1
  have HL := Lib.hid hL
  have HW := Lib.hid hw
  have HCL : Hid ((es.map rowXs).length = nL) := by unfold Hid; rw [List.length_map]; exact HLE.out
  clear h hL hw
  by_cases hne : nL = nW
  case neg =>
    have hne' : ((nL : Int) != (nW : Int)) = true := by simp; omega
    have HNE := Lib.hid hne
    clear hne
    have HF : Hid (LdEnd (MixLoadsIs js ms (es.map rowXs) ws) w W1 (.returned (.tuple #[.slice none 0 0, .bool false]))) := ldEnd_none (Q := MixLoadsIs js ms (es.map rowXs) ws) (.inr ⟨fun q => HNE.out (by have h1 := q.1.2.1; rw [HCL.out, HLW.out] at h1; exact h1), rfl, rfl⟩) B0.out
    go_enter Try.func14, Try.ntmps14
    go_wp2_with fail
    rw [← hW]
    clear hW
    go_ret2
    exact HF.out
  subst hne
  have hne' : ((nL : Int) != (nL : Int)) = false := by simp
  by_cases h10 : 10 < nL
  · have h10' : (10 : Int) < (nL : Int) := by omega
    have HF : Hid (LdEnd (MixLoadsIs js ms (es.map rowXs) ws) w W1 (.returned (.tuple #[.slice none 0 0, .bool false]))) := ldEnd_none (Q := MixLoadsIs js ms (es.map rowXs) ws) (.inr ⟨fun q => (by have h1 := q.1.2.2.1; rw [HCL.out] at h1; omega), rfl, rfl⟩) B0.out
    go_enter Try.func14, Try.ntmps14
    go_wp2_with fail
    rw [← hW]
    clear hW
    go_ret2
    exact HF.out
  have h10' : ¬ (10 : Int) < (nL : Int) := by omega
  go_enter Try.func14, Try.ntmps14
  go_wp2_with fail
  rw [← hW]
  clear hW
  refine (contains_noWeight Wt nL cW ws _ (HW.out.below B0.out)).mono ?_
  rintro e w1 ⟨⟨b, rfl, hq⟩, rfl⟩
  have HQ := Lib.hid hq
  clear hq
  cases b
  case true =>
    have HF : Hid (LdEnd (MixLoadsIs js ms (es.map rowXs) ws) w W1 (.returned (.tuple #[.slice none 0 0, .bool false]))) := ldEnd_none (Q := MixLoadsIs js ms (es.map rowXs) ws) (.inr ⟨fun q => HQ.out.1 rfl q.1.2.2.2.2, rfl, rfl⟩) B0.out
    go_wp2_with fail
    go_ret2
    exact HF.out
  have HWO : Hid (WOk ws) := Classical.byContradiction fun q => by have := HQ.out.2 q; cases this
  go_wp2_with fail
  go_loopw [30] (fun y wr => ∃ t : Nat, t ≤ nL ∧ y = .int .i64 t ∧ Hid (∀ u e, u < t → es[u]? = some e → LdOk js ms e.2.2.2) ∧ Hid (Below w.heap.size w wr) ∧ Hid (Box wr w.heap.size 26 #[.slice A n c, .slice B m d])) (fun y _ => nL - (intOf y).toNat)
  case atStart => exact ⟨0, Nat.zero_le _, rfl, fun u e h => absurd h (Nat.not_lt_zero _), B0, X0⟩
  case round =>
    obtain ⟨t, ht, rfl, HA, HB, HX⟩ := hrel
    by_cases hlt : t < nL
    · obtain ⟨b, o, A1, n1, c1, xs, rfl, hbs, hr, hcell, hx⟩ := (HL.out.below HB.out).at_ hlt
      have hi0 : (0 : Int) ≤ (t : Int) := by omega
      have hi1 : (t : Int) < (nL : Int) := by omega
      have HR := Lib.hid hr
      have IX := Lib.hid hx
      have e0 := HX.out.cell 0
      have e1 := HX.out.cell 1
      simp at e0 e1
      clear hr hx
      go_wp2_with fail
      clear e0 e1 hcell
      refine (impl_loadOk0 A n c js B m d ms A1 n1 c1 xs _ (HI.out.below HB.out) IX.out).mono ?_
      rintro e w2 ⟨b2, rfl, hq, hb⟩
      have HB2 := Lib.hid (HB.out.trans (hb.mono HB.out.size))
      have HX2 := Lib.hid (HX.out.below hb HX.out.lt)
      have HQ2 := Lib.hid hq
      clear hb hq
      cases b2
      case false =>
        have HF : Hid (LdEnd (MixLoadsIs js ms (es.map rowXs) ws) w w2 (.returned (.tuple #[.slice none 0 0, .bool false]))) := ldEnd_none (Q := MixLoadsIs js ms (es.map rowXs) ws) (.inr ⟨fun q => (by have := HQ2.out.2 (q.1.2.2.2.1 _ (List.mem_map.2 ⟨_, List.mem_of_getElem? HR.out, rfl⟩)); cases this), rfl, rfl⟩) HB2.out
        clear HA
        go_wp2_with fail
        go_ret2
        exact HF.out
      have HA2 : Hid (∀ u e, u < t + 1 → es[u]? = some e → LdOk js ms e.2.2.2) := fun u e hu he => by
        by_cases hut : u = t
        · subst hut
          rw [HR.out] at he
          obtain rfl := Option.some.inj he
          exact HQ2.out.1 rfl
        · exact HA.out u e (by omega) he
      clear HA
      go_wp2_with fail
      go_roundw
      case rel => exact ⟨t + 1, by omega, by go_num, HA2, HB2, HX2⟩
      case measure => simp [intOf]; omega
    · obtain rfl : t = nL := by omega
      have HLD : Hid (∀ e ∈ es, LdOk js ms e.2.2.2) := fun e he => by
        obtain ⟨u, hu⟩ := List.getElem?_of_mem he
        have hul := (List.getElem?_eq_some_iff.1 hu).1
        rw [HLE.out] at hul
        exact HA.out u e hul hu
      clear HA
      go_wp2_with fail
      refine (impl_mixer Wt t cW _).mono ?_
      rintro e w2 ⟨rfl, hbx, hb⟩
      obtain ⟨gx, hgx⟩ : ∃ g, g = wr.heap.size := ⟨_, rfl⟩
      rw [← hgx] at hbx ⊢
      have HGX : Hid (w.heap.size < gx) := by unfold Hid; rw [hgx]; exact HX.out.lt
      clear hgx
      have XG2 := Lib.hid hbx
      have HB2 := Lib.hid (HB.out.trans (hb.mono HB.out.size))
      have HX2 := Lib.hid (HX.out.below hb HX.out.lt)
      clear hb hbx
      have e0 := HX2.out.cell 0
      have e1 := HX2.out.cell 1
      simp at e0 e1
      go_wp2_with fail
      clear e0 e1
      refine (impl_noLoad0 A n c js B m d ms _ (HI.out.below HB2.out)).mono ?_
      rintro e w3 ⟨r, v, rfl, hq, hr, hb⟩
      have HB3 := Lib.hid (HB2.out.trans (hb.mono HB2.out.size))
      have HX3 := Lib.hid (HX2.out.below hb HX2.out.lt)
      have XG3 := Lib.hid (XG2.out.below hb XG2.out.lt)
      obtain ⟨M, hM⟩ : ∃ M, M = r.length := ⟨_, rfl⟩
      have ho := hr.2
      rw [← hM] at ho
      obtain ⟨RA, cR, rfl⟩ := own_slice ho
      have O3 := Lib.hid (own_base ho HB2.out.size)
      have HM : Hid (r.length = M) := hM.symm
      have HQ3 := Lib.hid hq
      have HM12 : Hid (M ≤ 12 ∧ (es = [] ∨ (TOk js ms ∧ M = 2 * js.length))) := by
        unfold Hid
        rcases hq with ⟨h1, h2⟩ | ⟨h1, h2⟩
        · have h3 : M = 2 * js.length := by rw [hM, h2]; unfold noload; rw [List.length_replicate]
          exact ⟨by have := h1.six; omega, .inr ⟨h1, h3⟩⟩
        · refine ⟨by rw [hM, h2]; simp, .inl ?_⟩
          rcases es with _ | ⟨e, es⟩
          · rfl
          · exact absurd (HLD.out e (List.mem_cons_self ..)).1 h1
      have hM12 := HM12.out.1
      have HROW : Hid (∀ c ∈ es.map rowXs, c.length = M) := fun c hc => by
        obtain ⟨e, he, rfl⟩ := List.mem_map.1 hc
        rcases HM12.out.2 with h1 | ⟨_, h1⟩
        · rw [h1] at he; cases he
        · rw [h1]; exact (HLD.out e he).2.1
      have HCAT : Hid ((cat es).length = t * M) := by
        have h1 := flat_length HROW.out
        rw [HCL.out] at h1
        exact h1
      have hcat : (cat es).length ≤ 1048576 := by
        rw [HCAT.out]
        have := Nat.mul_le_mul (show t ≤ 10 by omega) hM12
        omega
      clear hq hr ho hM hb
      go_wp2_with fail
      refine (impl_concat L t cL es _ HLE.out (HL.out.below HB3.out).2.2.1 (HL.out.below HB3.out).2.2.2 hcat (by omega)).mono ?_
      rintro e w4 ⟨v, rfl, hr, hb⟩
      obtain ⟨P, hP⟩ : ∃ P, P = t * M := ⟨_, rfl⟩
      have HP := Lib.hid hP
      have ho := hr.2
      rw [HCAT.out, ← hP] at ho
      obtain ⟨CA, cC, rfl⟩ := own_slice ho
      have hPc : P ≤ cC := own_le ho
      have HB4 := Lib.hid (HB3.out.trans (hb.mono HB3.out.size))
      have HX4 := Lib.hid (HX3.out.below hb HX3.out.lt)
      have XG4 := Lib.hid (XG3.out.below hb XG3.out.lt)
      have O4 := Lib.hid (own_below O3.out hb)
      have hz34 : w3.heap.size ≤ w4.heap.size := hb.size
      have HEN : Hid (Ent (cat es)) := fun z hz => by
        obtain ⟨c, hc, hz⟩ := List.mem_flatten.1 hz
        obtain ⟨e, he, rfl⟩ := List.mem_map.1 hc
        exact (HLD.out e he).2.2 z hz
      have HIC : Hid (∀ W : World, W.ownsRow w3.heap.size 3 1 (.slice CA P cC) P ((cat es).map (.int .i64)) → InI W CA P (cat es)) := fun W hW => ⟨by rw [HCAT.out]; exact HP.out.symm, by rw [HCAT.out, ← hP] at hcat; exact hcat, Reads.of_own hW, fun z hz => by have := HEN.out z hz; omega⟩
      have HRL : Hid (∀ k, (Value.slice RA M cR).ownBlock = some k → k < w3.heap.size) := fun k hk => (O3.out.lt k hk).2
      have IC4 := Lib.hid ho
      clear hr ho hb hP hcat
      obtain ⟨w5, hw5⟩ : ∃ W, W = w4.alloc (.cells #[.int .i64 t, .int .i64 M, .slice CA P cC] 73) := ⟨_, rfl⟩
      obtain ⟨gt, hgt⟩ : ∃ g, g = w4.heap.size := ⟨_, rfl⟩
      have hb45 : Below w4.heap.size w4 w5 := by rw [hw5]; exact (Below.refl _ _).alloc (Nat.le_refl _) _
      have HB5 := Lib.hid (HB4.out.trans (hb45.mono HB4.out.size))
      have HX5 := Lib.hid (HX4.out.below hb45 HX4.out.lt)
      have XG5 := Lib.hid (XG4.out.below hb45 XG4.out.lt)
      have XT5 : Hid (Box w5 gt 73 #[.int .i64 t, .int .i64 M, .slice CA P cC]) := by rw [hw5, hgt]; exact Box.new _ _ _
      have O5 := Lib.hid (own_below O4.out hb45)
      have IC5 := Lib.hid (own_below IC4.out hb45)
      have HGT : Hid (gx < gt) := by unfold Hid; rw [hgt]; exact XG4.out.lt
      clear hb45
      go_upto_region 12 with fail
      rw [← hw5, ← hgt]
      clear hw5 hgt
      go_wp2_with fail
      have R0 : Hid (r = mixTo (es.map rowXs) ws M 0 ∨ M = 0) := by
        unfold Hid
        rcases HQ3.out with ⟨h1, h2⟩ | ⟨h1, h2⟩
        · left
          rw [mixTo_zero, h2]
          unfold noload
          have := HM.out
          rw [h2] at this
          unfold noload at this
          rw [List.length_replicate] at this
          rw [this]
        · right; rw [← HM.out, h2]; rfl
      obtain ⟨zs, hzs⟩ : ∃ zs, zs = mixTo (es.map rowXs) ws M t := ⟨_, rfl⟩
      have HZS := Lib.hid hzs
      have HZL : Hid (zs.length = M) := by unfold Hid; rw [hzs]; exact mixTo_length _ _ _ _
      clear hzs
      go_loopw [52] (fun y wq => ∃ i : Nat, i ≤ M ∧ y = .int .i64 i ∧ Hid (wq.ownsRow w.heap.size 3 1 (.slice RA M cR) M ((zs.map (Value.int .i64)).take i ++ (r.map (Value.int .i64)).drop i)) ∧ Hid (Below w.heap.size w wq) ∧ Hid (Box wq w.heap.size 26 #[.slice A n c, .slice B m d]) ∧ Hid (Box wq gx 27 #[.slice Wt t cW]) ∧ Hid (Box wq gt 73 #[.int .i64 t, .int .i64 M, .slice CA P cC]) ∧ Hid (wq.ownsRow w3.heap.size 3 1 (.slice CA P cC) P ((cat es).map (.int .i64)))) (fun y _ => M - (intOf y).toNat)
      case atStart => exact ⟨0, Nat.zero_le _, rfl, by simpa using O5, HB5, HX5, XG5, XT5, IC5⟩
      case round =>
        clear HB HX HB2 HX2 HB3 HX3 HB4 HX4 HB5 HX5 XG2 XG3 XG4 XG5 XT5 O3 O4 O5 IC4 IC5
        obtain ⟨i, hle, rfl, ho, HB, HX, XG, XT, IC⟩ := hrel
        obtain ⟨wq, rfl⟩ : ∃ q : World, q = wr := ⟨_, rfl⟩
        by_cases hlt : i < M
        · have hi0 : (0 : Int) ≤ (i : Int) := by omega
          have hi1 : (i : Int) < (M : Int) := by omega
          have g0 := XT.out.cell 0
          have g1 := XT.out.cell 1
          have g2 := XT.out.cell 2
          simp at g0 g1 g2
          go_wp2_with fail
          clear g0 g1 g2
          refine (impl_column t M i CA P cC (cat es) _ (HIC.out _ IC.out) HP.out hlt (by omega) (by omega) hPc).mono ?_
          rintro e w6 ⟨v, rfl, hr, hb⟩
          have ho6 := hr.2
          rw [lcol_length] at ho6
          obtain ⟨VA, cV, rfl⟩ := own_slice ho6
          have hb6 : Below w.heap.size w w6 := HB.out.trans (hb.mono HB.out.size)
          have HB6 := Lib.hid hb6
          have HX6 := Lib.hid (HX.out.below hb HX.out.lt)
          have XG6 := Lib.hid (XG.out.below hb XG.out.lt)
          have XT6 := Lib.hid (XT.out.below hb XT.out.lt)
          have O6 := Lib.hid (own_below ho.out hb)
          have IC6 := Lib.hid (own_below IC.out hb)
          have IV6 : Hid (InI w6 VA t (lcol M (cat es) t i)) := ⟨lcol_length _ _ _ _, by omega, Reads.of_own ho6, fun z hz => by have := ent_lcol (K := M) (p := t) (j := i) HEN.out z hz; omega⟩
          clear hr ho6 hb hb6
          have hix : i < (zs.map (Value.int .i64)).length := by rw [List.length_map, HZL.out]; exact hlt
          have hiy : i < (r.map (Value.int .i64)).length := by rw [List.length_map, HM.out]; exact hlt
          have hdm : dotTo ws (lcol M (cat es) t i) t = wsum (es.map rowXs) ws i t := by
            have h1 := dot_mix (ws := ws) HROW.out hlt (t := t) (by rw [HCL.out]; exact Nat.le_refl _)
            rw [HCL.out] at h1
            exact h1
          obtain ⟨s, hs⟩ : ∃ s, s = dotTo ws (lcol M (cat es) t i) t := ⟨_, rfl⟩
          have hzi : (zs.map (Value.int .i64))[i]'hix = .int .i64 s := by
            have h1 : zs[i]? = some s := by rw [HZS.out, mixTo_at _ _ _ hlt, hs, hdm]
            obtain ⟨h2, h3⟩ := List.getElem?_eq_some_iff.1 h1
            rw [List.getElem_map, h3]
          obtain ⟨gr, rfl⟩ : ∃ g, RA = some ⟨g, 0, none⟩ := by
            rcases O6.out.2 with ⟨hv, h0⟩ | ⟨g, cap, cur, hv, _⟩
            · exfalso
              omega
            · cases hv; exact ⟨g, rfl⟩
          have hgw : w.heap.size ≤ gr := (O6.out.lt gr rfl).1
          have hfr := O6.out.frozenAt i
          obtain ⟨old, hold⟩ : ∃ old, w6.cell? ⟨gr, i, none⟩ = some old := by
            have hcl := O6.out.cellAt i (by omega)
            rw [List.getElem?_eq_getElem (by simp [HM.out, HZL.out]; omega)] at hcl
            exact ⟨_, hcl⟩
          have hst := (O6.out.stored i (.int .i64 s)).1
          rw [← hzi, copied_set _ _ i hix hiy, hzi] at hst
          have HO7 := Lib.hid hst
          have hne1 : w.heap.size ≠ gr := fun q => ne_own HX6.out O6.out (by decide) (by rw [q]; rfl)
          have hne2 : gx ≠ gr := fun q => ne_own XG6.out O6.out (by decide) (by rw [q]; rfl)
          have hne3 : gt ≠ gr := fun q => ne_own XT6.out O6.out (by decide) (by rw [q]; rfl)
          have HB7 : Hid (Below w.heap.size w (w6.setCell ⟨gr, i, none⟩ (.int .i64 s))) := HB6.out.setCell hgw _
          have HX7 : Hid (Box (w6.setCell ⟨gr, i, none⟩ (.int .i64 s)) w.heap.size 26 #[.slice A n c, .slice B m d]) := HX6.out.far (p := ⟨gr, i, none⟩) hne1 _
          have XG7 : Hid (Box (w6.setCell ⟨gr, i, none⟩ (.int .i64 s)) gx 27 #[.slice Wt t cW]) := XG6.out.far (p := ⟨gr, i, none⟩) hne2 _
          have XT7 : Hid (Box (w6.setCell ⟨gr, i, none⟩ (.int .i64 s)) gt 73 #[.int .i64 t, .int .i64 M, .slice CA P cC]) := XT6.out.far (p := ⟨gr, i, none⟩) hne3 _
          have IC7 : Hid ((w6.setCell ⟨gr, i, none⟩ (.int .i64 s)).ownsRow w3.heap.size 3 1 (.slice CA P cC) P ((cat es).map (.int .i64))) := own_dep IC6.out fun k hk => Below.heap_setCell _ _ _ k fun q => by
            have h1 := (IC6.out.lt k hk).1
            have h2 := HRL.out gr rfl
            dsimp only at q
            omega
          have HS := Lib.hid hs
          clear hst hzi hdm hne1 hne2 hne3 hs
          go_wp2_with (go_at_call 72; refine (impl_mix VA t cV (lcol M (cat es) t i) gx Wt t cW ws _ IV6.out (HW.out.below HB6.out) XG6.out rfl (by omega) HWO.out (ent_lcol HEN.out)).mono ?_; rw [← HS.out]; rintro e w7 ⟨rfl, rfl⟩)
          go_roundw
          case rel => exact ⟨i + 1, by omega, by go_num, HO7, HB7, HX7, XG7, XT7, IC7⟩
          case measure => simp [intOf]; omega
        · obtain rfl : i = M := by omega
          have ho2 := ho.out
          rw [List.take_of_length_le (by rw [List.length_map, HZL.out]; omega), List.drop_eq_nil_of_le (by rw [List.length_map, HM.out]; omega), List.append_nil] at ho2
          have O6 := Lib.hid ho2
          clear ho2
          have IZ : Hid (InI wq RA i zs) := ⟨HZL.out, by omega, Reads.of_own O6.out, fun z hz => by
            rw [HZS.out] at hz
            obtain ⟨k, _, rfl⟩ := List.mem_map.1 hz
            have := wsum_bound (cs := es.map rowXs) (ws := ws) (t := t) (fun u _ => ⟨HWO.out.at_ u, fun c hc => by
              obtain ⟨e, he, rfl⟩ := List.mem_map.1 (List.mem_of_getElem? hc)
              exact (HLD.out e he).2.2⟩) k
            omega⟩
          have e0 := HX.out.cell 0
          have e1 := HX.out.cell 1
          simp at e0 e1
          go_wp2_with fail
          clear e0 e1
          refine (impl_checkedLoad A n c js B m d ms RA i cR zs _ (HI.out.below HB.out) IZ.out).mono ?_
          rintro e w8 ⟨⟨h1, rfl⟩ | ⟨h1, rfl⟩, hb⟩
          · have hMA : zs = mixAll js (es.map rowXs) ws := by
              unfold mixAll
              rw [HZS.out, HCL.out, ← h1.2.1, HZL.out]
            have HF : Hid (LdEnd (MixLoadsIs js ms (es.map rowXs) ws) w w8 (.returned (.tuple #[.slice RA i cR, .bool true]))) := ⟨zs, _, true, rfl, .inl ⟨⟨⟨h1.1, by rw [HCL.out, HLW.out], by rw [HCL.out]; omega, fun c hc => by
              obtain ⟨e, he, rfl⟩ := List.mem_map.1 hc
              exact HLD.out e he, HWO.out⟩, by rw [← hMA]; exact h1⟩, hMA, rfl⟩, ⟨by rw [HZL.out]; omega, by rw [HZL.out]; exact own_below O6.out hb⟩, HB.out.trans (hb.mono HB.out.size)⟩
            clear h1 hb hMA
            go_wp2_with fail
            go_ret2
            exact HF.out
          · have HF : Hid (LdEnd (MixLoadsIs js ms (es.map rowXs) ws) w w8 (.returned (.tuple #[.slice none 0 0, .bool false]))) := ldEnd_none (Q := MixLoadsIs js ms (es.map rowXs) ws) (.inr ⟨fun q => h1 (by
              have h2 := q.2
              have h3 : mixAll js (es.map rowXs) ws = zs := by
                unfold mixAll
                rw [HZS.out, HCL.out]
                have h4 := q.2.2.1
                rcases HM12.out.2 with h5 | ⟨_, h5⟩
                · have h6 := HQ3.out
                  rcases h6 with ⟨h7, h8⟩ | ⟨h7, _⟩
                  · have h9 := HM.out
                    rw [h8] at h9
                    unfold noload at h9
                    rw [List.length_replicate] at h9
                    rw [h9]
                  · exact absurd q.1.1 h7
                · rw [h5]
              rw [h3] at h2
              exact h2), rfl, rfl⟩) (HB.out.trans (hb.mono HB.out.size))
            clear h1 hb
            go_wp2_with fail
            go_ret2
            exact HF.out
theorem impl_mixLoads (A : Option Addr) (n c : Nat) (js : List JD) (B : Option Addr) (m d : Nat) (ms : List MD) (L : Option Addr) (nL cL : Nat) (es : List RowE) (Wt : Option Addr) (nW cW : Nat) (ws : List Int) (w : World) (h : InT w A n js B m ms) (hL : InII w L nL es) (hw : InI w Wt nW ws) :
    Calls Try.prog 14 #[.agg #[.slice A n c, .slice B m d], .slice L nL cL, .slice Wt nW cW] w fun e w' => ∃ r v b, e = .returned (.tuple #[v, .bool b]) ∧ MixLoadsIs js ms (es.map rowXs) ws r b ∧ ResI w w' v r ∧ Below w.heap.size w w' := impl_mixLoads0 A n c js B m d ms L nL cL es Wt nW cW ws w h hL hw
end Go.Proofs.Ytipmeijfmiiedaa
