/- A drawn region in which several operations make memory, one of them out of what another has made. -/
import Derived.Test.YtcmbfgaojlnjcaaMkR
import Derived.Test.YtcmbfgaojlnjcaaGA
namespace Go.Proofs.Ytcmbfgaojlnjcaa
set_option maxRecDepth 100000
open Go.RowKit

section
variable {P : Program} {ops : Array Oper} {Q : Exit → Act → World → Prop} {md : Region.Mode} {S : World → Prop}
/-- The check: an operation comes up only where those that it needs are done. -/
def depsB (md : Region.Mode) (ops : Array Oper) (l : Array Bool) (ids : List Nat) (r : Nat) (deps : List (List Nat)) : Bool :=
  (allB r).all fun b => (Region.ready md ops (lstB l ids (fun j => b.getD j false) r)).all fun i => (List.range r).all fun j => ids.getD j 0 != i || (deps.getD j []).all fun m => Nat.blt m r && b.getD m false
theorem deps_spec {l : Array Bool} {ids : List Nat} {r : Nat} {deps : List (List Nat)} (h : depsB md ops l ids r deps = true) {D : Nat → Bool} {j : Nat} (hj : j < r) (hi : ids.getD j 0 ∈ Region.ready md ops (lstB l ids D r)) : ∀ m ∈ deps.getD j [], m < r ∧ D m = true := by
  obtain ⟨b, hb, hbD⟩ := allB_mem r D
  have h1 := List.all_eq_true.1 h b hb
  rw [lstB_congr (D := fun j => b.getD j false) (E := D) hbD] at h1
  have h2 := List.all_eq_true.1 (List.all_eq_true.1 h1 _ hi) j (List.mem_range.2 hj)
  simp only [bne_self_eq_false, Bool.false_or] at h2
  intro m hm
  have h3 := List.all_eq_true.1 h2 m hm
  rw [Bool.and_eq_true] at h3
  have h4 : m < r := Eq.mp Nat.blt_eq h3.1
  exact ⟨h4, (hbD m h4).symm.trans h3.2⟩
/-- The law. deps: which results an operation is made of. -/
theorem wpAnyH_makersD {w0 : World} {a : Act} {l : Array Bool} {fuel : Nat} (r : Nat) (ids ds req : List Nat) (deps : List (List Nat)) (R : Nat → (Nat → Value) → Nat → Nat → World → Prop)
    (hr : readyB md ops l ids r req = true) (hdB : distB ds r = true) (hdp : depsB md ops l ids r deps = true)
    (hS : ∀ w, Below w0.heap.size w0 w → S w)
    (hY : ∀ j, j < r → ∀ Y Z lo hi w, R j Y lo hi w → Z j = Y j → (∀ m ∈ deps.getD j [], Z m = Y m) → R j Z lo hi w)
    (hR : ∀ j, j < r → ∀ Y lo hi w w', R j Y lo hi w → hi ≤ w.heap.size → Below w.heap.size w w' → R j Y lo hi w')
    (hstep : ∀ j, j < r → ∀ o, ops[ids.getD j 0]? = some o → ∀ (Y : Nat → Value) (LO HI : Nat → Nat) (w : World), Below w0.heap.size w0 w → (∀ m ∈ deps.getD j [], R m Y (LO m) (HI m) w ∧ m ≠ j) → ∀ K : Act → World → Prop,
      Shut (∀ v w', Below w.heap.size w w' → R j (updB Y j v) w.heap.size w'.heap.size w' → K ((actB a ds Y r).put (some (ds.getD j 0)) v) w') →
      Need (if Region.wanted o (yielded ops (actB a ds Y r).tmps) = true then Oper.wp P o (actB a ds Y r) w K Q else K ((actB a ds Y r).put o.dst undef) w))
    (hfin : ∀ (D : Nat → Bool) (Y : Nat → Value) (LO HI : Nat → Nat) (w : World), stopB req D = true → Below w0.heap.size w0 w → (∀ j, j < r → D j = true → R j Y (LO j) (HI j) w ∧ w0.heap.size ≤ LO j ∧ LO j ≤ HI j ∧ HI j ≤ w.heap.size) → (∀ j k, j < r → k < r → j ≠ k → D j = true → D k = true → HI j ≤ LO k ∨ HI k ≤ LO j) → (∀ j, j < r → D j = true → ∀ m ∈ deps.getD j [], D m = true) →
      wpAnyH P md ops Q S (fuel + leftB D r) (lstB l ids D r) (actB a ds Y r) w) :
    wpAnyH P md ops Q S (fuel + r) l a w0 := by
  have hds := dist_spec hdB
  have key : ∀ n (D : Nat → Bool) (Y : Nat → Value) (LO HI : Nat → Nat) (w : World), leftB D r = n → Below w0.heap.size w0 w →
      (∀ j, j < r → D j = true → (R j Y (LO j) (HI j) w ∧ w0.heap.size ≤ LO j ∧ LO j ≤ HI j ∧ HI j ≤ w.heap.size) ∧ ∀ m ∈ deps.getD j [], D m = true) → (∀ j k, j < r → k < r → j ≠ k → D j = true → D k = true → HI j ≤ LO k ∨ HI k ≤ LO j) →
      wpAnyH P md ops Q S (fuel + n) (lstB l ids D r) (actB a ds Y r) w := fun n => by
    induction n with
    | zero =>
      intro D Y LO HI w hn hb hres hdis
      have hD := leftB_zero hn
      have hst : stopB req D = true := by
        unfold readyB at hr
        rw [Bool.and_eq_true] at hr
        exact List.all_eq_true.2 fun j hj => hD j (Eq.mp Nat.blt_eq (List.all_eq_true.1 hr.1 j hj))
      have h := hfin D Y LO HI w hst hb (fun j hj hd => (hres j hj hd).1) hdis (fun j hj hd => (hres j hj hd).2)
      rwa [hn] at h
    | succ n ih =>
      intro D Y LO HI w hn hb hres hdis
      cases hstop : stopB req D
      case true =>
        have h := hfin D Y LO HI w hstop hb (fun j hj hd => (hres j hj hd).1) hdis (fun j hj hd => (hres j hj hd).2)
        rwa [hn] at h
      obtain ⟨hne, hin⟩ := ready_spec hr hstop
      refine wpAnyH_ready (fuel := fuel + n) rfl hne fun i hi => ?_
      obtain ⟨j, hj, hdj, rfl⟩ := hin i hi
      obtain ⟨_, o, ho, _⟩ := mem_ready.1 hi
      have hdj' := deps_spec hdp hj hi
      have hnj : ∀ m, D m = true → m ≠ j := fun m hm e => by rw [e, hdj] at hm; cases hm
      refine wpOp_step ho fun K hK => (hstep j hj o ho Y LO HI w hb (fun m hm => ⟨(hres m (hdj' m hm).1 (hdj' m hm).2).1.1, hnj m (hdj' m hm).2⟩) K fun v w' hbw hv => hK _ _ ⟨hS _ (hb.trans (hbw.mono hb.size)), ?_⟩).out
      rw [lstB_upd hj hdj, actB_upd hj fun k hk hkj => hds j k hj hk hkj]
      refine ih (updB D j true) (updB Y j v) (updB LO j w.heap.size) (updB HI j w'.heap.size) w' (by have := leftB_upd hj hdj; omega) (hb.trans (hbw.mono hb.size)) (fun k hk hdk => ?_) fun k m hk hm hkm hdk hdm => ?_
      · by_cases e : k = j
        · subst e
          rw [updB_at, updB_at]
          exact ⟨⟨hv, hb.size, hbw.size, Nat.le_refl _⟩, fun m hm => by rw [updB_ne _ _ (hnj m (hdj' m hm).2)]; exact (hdj' m hm).2⟩
        · rw [updB_ne _ _ e] at hdk
          rw [updB_ne _ _ e, updB_ne _ _ e]
          obtain ⟨⟨h1, h2, h3, h4⟩, h5⟩ := hres k hk hdk
          exact ⟨⟨hY k hk Y _ _ _ _ (hR k hk _ _ _ _ _ h1 h4 hbw) (updB_ne _ _ e) fun m hm => updB_ne _ _ (hnj m (h5 m hm)), h2, h3, Nat.le_trans h4 hbw.size⟩, fun m hm => by rw [updB_ne _ _ (hnj m (h5 m hm))]; exact h5 m hm⟩
      · by_cases e : k = j
        · subst e
          have hmk : m ≠ k := Ne.symm hkm
          rw [updB_ne _ _ hmk] at hdm
          rw [updB_at, updB_at, updB_ne _ _ hmk, updB_ne _ _ hmk]
          exact .inr (hres m hm hdm).1.2.2.2
        · rw [updB_ne _ _ e] at hdk
          by_cases e2 : m = j
          · subst e2
            rw [updB_at, updB_at, updB_ne _ _ e, updB_ne _ _ e]
            exact .inl (hres k hk hdk).1.2.2.2
          · rw [updB_ne _ _ e2] at hdm
            rw [updB_ne _ _ e, updB_ne _ _ e, updB_ne _ _ e2, updB_ne _ _ e2]
            exact hdis k m hk hm hkm hdk hdm
  have hall : ∀ r, leftB (fun _ => false) r = r := fun r => by
    induction r with
    | zero => rfl
    | succ r ih => simp [leftB, ih]
  have hl : ∀ r, lstB l ids (fun _ => false) r = l := fun r => by
    induction r with
    | zero => rfl
    | succ r ih => simp [lstB, ih]
  have h := key r (fun _ => false) (fun j => a.tmps.getD (ds.getD j 0) undef) (fun _ => 0) (fun _ => 0) w0 (hall r) (Below.refl _ _) (fun j _ h => by cases h) fun j k _ _ _ h => by cases h
  rw [hl, actB_self] at h
  exact h
end
/-- A slot that one of these operations has written. -/
theorem actB_at {a : Act} {ds : List Nat} {Y : Nat → Value} {j s : Nat} : ∀ {r : Nat}, j < r → ds.getD j 0 = s → s < a.tmps.size → (List.range r).all (fun k => k == j || ds.getD k 0 != s) = true → (actB a ds Y r).eval (.tmp s) = Y j
  | 0, h, _, _, _ => absurd h (Nat.not_lt_zero _)
  | r + 1, h, hd, hs, h2 => by
    rw [List.range_succ, List.all_append, Bool.and_eq_true] at h2
    have hsz : ∀ r, (actB a ds Y r).tmps.size = a.tmps.size := fun r => by
      induction r with
      | zero => rfl
      | succ r ih => show ((actB a ds Y r).tmps.setIfInBounds _ _).size = _; rw [Array.size_setIfInBounds, ih]
    show ((actB a ds Y r).tmps.setIfInBounds (ds.getD r 0) (Y r)).getD s undef = Y j
    rw [Array.getD_eq_getD_getElem?]
    by_cases e : j = r
    · subst e
      rw [hd, Array.getElem?_setIfInBounds_self_of_lt (by rw [hsz]; exact hs)]
      rfl
    · have h3 : ds.getD r 0 ≠ s := by have := h2.2; simp at this; exact this.resolve_left fun q => e q.symm
      rw [Array.getElem?_setIfInBounds_ne h3, ← Array.getD_eq_getD_getElem?]
      exact actB_at (Y := Y) (r := r) (by omega) hd hs h2.1
section
variable {P : Program} {ops : Array Oper} {Q : Exit → Act → World → Prop} {o : Oper} {a : Act} {w : World} {K : Act → World → Prop} {E : Prop}
def RLit (lo hi : Nat) (v : Value) : Prop := ∃ g, v = .slice (some ⟨g, 0, none⟩) 0 0 ∧ lo ≤ g ∧ g < hi
/-- An empty literal. -/
theorem need_lit0 (hgd : o.guard = none) (t e : TypeId) (ho : o.op = .buildSlice t 0 #[]) (i : TypeInfo) (ht : P.underlying t = some (.slice e)) (hi : P.info? e = some i)
    (h : ∀ v w', Below w.heap.size w w' → RLit w.heap.size w'.heap.size v ∧ RRow 0 [] w.heap.size w'.heap.size v w' → K (a.put o.dst v) w') (he : e = 3) : Need (if Region.wanted o (yielded ops a.tmps) = true then Oper.wp P o a w K Q else E) :=
  ⟨step_lit0_at hgd t e ho i ht hi fun g w' hg hb hbw hs => by
    have h1 := hg.out
    have h2 := hs.out
    subst h1 he
    exact h _ _ hbw ⟨⟨_, rfl, Nat.le_refl _, by omega⟩, RRow.of ⟨by simp, .inr ⟨_, 0, #[], rfl, Nat.le_refl _, hb, Nat.le_refl _, Nat.zero_le _, by simp, by simp⟩⟩⟩⟩
/-- A list that may be read, behind an empty one that has no room. -/
theorem need_append_empty (hgd : o.guard = none) (s x : Operand) (t : TypeId) (ho : o.op = .call { callee := .builtin .append, args := #[s, x], argTypes := #[t, t] }) (i : TypeInfo) (ht : P.underlying t = some (.slice 3)) (hi : P.info? 3 = some i) (hz : i.zero = some (.int .i64 0)) (hs : i.size = 1) (hb : i.bytes = 8)
    (g : Nat) (hsv : a.eval s = .slice (some ⟨g, 0, none⟩) 0 0) (A : Option Addr) (m c : Nat) (hx : a.eval x = .slice A m c) (lc : List Int) (hl : lc.length = m) (hr : Reads w A (lc.map (.int .i64))) (hm : m ≤ 1048576)
    (h : ∀ v w', Below w.heap.size w w' → ((m = 0 ∧ v = .slice (some ⟨g, 0, none⟩) 0 0) ∨ RRow m (lc.map (.int .i64)) w.heap.size w'.heap.size v w') → K (a.put o.dst v) w') : Need (if Region.wanted o (yielded ops a.tmps) = true then Oper.wp P o a w K Q else E) := by
  have hw : Region.wanted o (yielded ops a.tmps) = true := by simp [Region.wanted, hgd]
  rw [if_pos hw]
  constructor
  unfold Oper.wp
  by_cases hm0 : m = 0
  · subst hm0
    have hrun : (Builtin.append_ #[t, t] o.type #[.slice (some ⟨g, 0, none⟩) 0 0, .slice A 0 c]).run P w = .ok (.slice (some ⟨g, 0, none⟩) 0 0) w := by
      cases A <;> simp [Builtin.append_, run_underlying ht, sizeOf, typeInfo, hi, Builtin.lenOf, Builtin.firstCells, loadCells, loadCellsFrom, storeCells]
    simp only [execOp, ho, resolve, invoke, builtin, Sem.run_bind, Sem.run_pure, Result.andThen_ok, List.map_toArray, List.map_cons, List.map_nil, hsv, hx, hrun]
    exact h _ _ (Below.refl _ _) (.inl ⟨rfl, rfl⟩)
  · rcases hr with h0 | ⟨b, of, rfl, _, hc⟩
    · have : lc = [] := by simpa using h0
      subst this; exact absurd hl.symm hm0
    · have hnews : ∀ j u, (lc.map (Value.int .i64))[j]? = some u → w.cell? ((⟨b, of, none⟩ : Addr).add j) = some u := fun j u hu => by
        obtain ⟨hj, rfl⟩ := List.getElem?_eq_some_iff.1 hu
        rw [Addr.add_lit]
        exact hc j hj
      have hrun := run_append_grow (P := P) w t o.type 3 i (.int .i64 0) ht hi hz ⟨g, 0, none⟩ 0 0 [] (by simp) (fun j v q => by simp at q) ⟨b, of, none⟩ m c (lc.map (.int .i64)) (by rw [hs]; simp [hl]) hnews (by omega) (by omega) (by rw [hb]; exact growslice_fits (by omega) (by omega))
      have hge := grownCap_ge w (0 + m) 0 3
      have hcm : grownCap w (0 + m) 0 3 ≤ maxLen := grownCap_le_maxLen w (0 + m) 0 3 (by unfold maxLen; omega)
      simp only [execOp, ho, resolve, invoke, builtin, Sem.run_bind, Sem.run_pure, Result.andThen_ok, List.map_toArray, List.map_cons, List.map_nil, hsv, hx, hrun]
      refine h _ _ (((Below.refl _ _).drew).alloc (Nat.le_refl _) _) (.inr (RRow.of ⟨by simp [hl], .inr ⟨w.heap.size, _, _, by rw [Nat.zero_add], Nat.le_refl _, heap_alloc_new w.drew _, by simp only [Nat.zero_add] at hge ⊢; exact hge, by simp only [Nat.zero_add] at hcm ⊢; exact hcm, ?_, ?_⟩⟩))
      · simp only [Nat.zero_add] at hge
        simp [Builtin.zeroCells, Value.cells, hl]; omega
      · simp only [Array.toList_append, List.append_assoc]
        simp [hl]
end
end Go.Proofs.Ytcmbfgaojlnjcaa
