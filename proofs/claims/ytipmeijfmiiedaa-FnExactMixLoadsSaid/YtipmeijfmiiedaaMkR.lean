/- What is told of the results of operations that make memory: rows of integers, variables. -/
import Derived.Test.YtipmeijfmiiedaaMakers
import Derived.Test.YtipmeijfmiiedaaGB
import Derived.Test.YtipmeijfmiiedaaStepA
namespace Go.Proofs.Ytipmeijfmiiedaa
set_option maxRecDepth 100000
open Go.RowKit

def RRow (n : Nat) (xs : List Value) (lo hi : Nat) (v : Value) (w : World) : Prop := w.ownsRow lo 3 1 v n xs ∧ ∀ k, v.ownBlock = some k → k < hi
def RBox (t : TypeId) (cs : Array Value) (lo hi : Nat) (v : Value) (w : World) : Prop := ∃ g, v = .pointer (some ⟨g, 0, none⟩) ∧ lo ≤ g ∧ g < hi ∧ Box w g t cs
section
variable {n m lo hi lo' hi' : Nat} {xs ys : List Value} {v u : Value} {w w' : World} {t : TypeId} {cs : Array Value}
theorem RRow.keep (h : RRow n xs lo hi v w) (hb : Below w.heap.size w w') : RRow n xs lo hi v w' := ⟨own_below h.1 hb, h.2⟩
theorem RBox.keep (h : RBox t cs lo hi v w) (hb : Below w.heap.size w w') : RBox t cs lo hi v w' := by
  obtain ⟨g, e, h1, h2, h3⟩ := h
  exact ⟨g, e, h1, h2, h3.below hb h3.lt⟩
theorem RRow.apart (h : RRow n xs lo hi u w) (k : RRow m ys lo' hi' v w) (hd : hi ≤ lo' ∨ hi' ≤ lo) : Apart u v := fun i hi1 hi2 => by
  have h1 := (h.1.lt i hi1).1
  have h2 := h.2 i hi1
  have h3 := (k.1.lt i hi2).1
  have h4 := k.2 i hi2
  omega
theorem RRow.of (h : w'.ownsRow w.heap.size 3 1 v n xs) : RRow n xs w.heap.size w'.heap.size v w' := ⟨h, fun k hk => (h.lt k hk).2⟩
end
section
variable {P : Program} {ops : Array Oper} {Q : Exit → Act → World → Prop} {o : Oper} {a : Act} {w : World} {K : Act → World → Prop} {E : Prop}
/-- A slot that none of these operations writes. -/
theorem actB_off {ds : List Nat} {Y : Nat → Value} {s : Nat} : ∀ {r : Nat}, (List.range r).all (fun j => ds.getD j 0 != s) = true → (actB a ds Y r).eval (.tmp s) = a.eval (.tmp s)
  | 0, _ => rfl
  | r + 1, h => by
    rw [List.range_succ, List.all_append, Bool.and_eq_true] at h
    have h1 : ds.getD r 0 ≠ s := by simpa using h.2
    rw [← actB_off (ds := ds) (Y := Y) (s := s) h.1]
    show ((actB a ds Y r).tmps.setIfInBounds (ds.getD r 0) (Y r)).getD s undef = (actB a ds Y r).tmps.getD s undef
    rw [Array.getD_eq_getD_getElem?, Array.getD_eq_getD_getElem?, Array.getElem?_setIfInBounds_ne h1]
/-- A call of a function. -/
theorem step_call_at (hgd : o.guard = none) (f : FuncId) {fn : Func} (hf : P.funcs[f]? = some fn) (hfb : (fn.name == "runtime.NumGoroutine" || fn.body.isNone) = false) (xs : Array Operand) (ts : Array TypeId) (ho : o.op = .call { callee := .value (.func f), args := xs, argTypes := ts }) (vs : Array Value) (hx : xs.map a.eval = vs)
    (h : Calls P f vs w fun e w' => ∃ v, e = .returned v ∧ K (a.put o.dst v) w') : Need (if Region.wanted o (yielded ops a.tmps) = true then Oper.wp P o a w K Q else E) := by
  have hw : Region.wanted o (yielded ops a.tmps) = true := by simp [Region.wanted, hgd]
  rw [if_pos hw]
  constructor
  unfold Oper.wp
  have hr : (execOp a.eval o).run P w = .ok (.enter f vs) w := by
    subst hx
    rw [Bool.or_eq_false_iff] at hfb
    have h1 : ¬ fn.name = "runtime.NumGoroutine" := by simpa using hfb.1
    have h2 : ¬ fn.body = none := fun e => by rw [e] at hfb; exact absurd hfb.2 (by simp)
    simp [execOp, ho, resolve, Deferred.ofValue, invoke, callFunc, Act.eval, hf, h1, h2, Sem.run_bind]
  rw [hr, Oper.upon_enter]
  refine h.mono fun e w' he => ?_
  obtain ⟨v, rfl, hk⟩ := he
  exact hk
theorem step_call1_at (hgd : o.guard = none) (f : FuncId) {fn : Func} (hf : P.funcs[f]? = some fn) (hfb : (fn.name == "runtime.NumGoroutine" || fn.body.isNone) = false) (x : Operand) (ts : Array TypeId) (ho : o.op = .call { callee := .value (.func f), args := #[x], argTypes := ts }) (V : Value) (hx : a.eval x = V)
    (h : Calls P f #[V] w fun e w' => ∃ v, e = .returned v ∧ K (a.put o.dst v) w') : Need (if Region.wanted o (yielded ops a.tmps) = true then Oper.wp P o a w K Q else E) :=
  step_call_at hgd f hf hfb #[x] ts ho #[V] (by simp [hx]) h
theorem step_call2_at (hgd : o.guard = none) (f : FuncId) {fn : Func} (hf : P.funcs[f]? = some fn) (hfb : (fn.name == "runtime.NumGoroutine" || fn.body.isNone) = false) (x y : Operand) (ts : Array TypeId) (ho : o.op = .call { callee := .value (.func f), args := #[x, y], argTypes := ts }) (V U : Value) (hx : a.eval x = V) (hy : a.eval y = U)
    (h : Calls P f #[V, U] w fun e w' => ∃ v, e = .returned v ∧ K (a.put o.dst v) w') : Need (if Region.wanted o (yielded ops a.tmps) = true then Oper.wp P o a w K Q else E) :=
  step_call_at hgd f hf hfb #[x, y] ts ho #[V, U] (by simp [hx, hy]) h
/-- A new list of noughts. -/
theorem step_makeI (hgd : o.guard = none) (t : TypeId) (l : Operand) (ho : o.op = .makeSlice t l l) (i : TypeInfo) (ht : P.underlying t = some (.slice 3)) (hi : P.info? 3 = some i) (hz : i.zero = some (.int .i64 0)) (hs : i.size = 1) (hb : i.bytes = 8) (n : Nat) (V : Int) (hl : a.eval l = .int .i64 V) (hV : V = (n : Int)) (hn : n ≤ 1048576)
    (h : ∀ v w', Below w.heap.size w w' → RRow n ((List.replicate n (0 : Int)).map (.int .i64)) w.heap.size w'.heap.size v w' → K (a.put o.dst v) w') : Need (if Region.wanted o (yielded ops a.tmps) = true then Oper.wp P o a w K Q else E) := by
  have hw : Region.wanted o (yielded ops a.tmps) = true := by simp [Region.wanted, hgd]
  rw [if_pos hw]
  constructor
  obtain ⟨w', hrun, r1, r2⟩ := run_make_full (P := P) w w.heap.size t 3 i (.int .i64 0) 1 ht hi hz hs .i64 .i64 n (by rw [hb]; omega) (by unfold maxLen; omega) (Nat.le_refl _)
  subst hV
  unfold Oper.wp
  simp [execOp, ho, hl, hrun, Result.andThen]
  refine h _ _ ((Below.refl _ _).grown r2 (Nat.le_refl _) (fun k hk => by cases hk)) (RRow.of ?_)
  have e : (madeCells (Value.int .i64 0).cells (n * 1)).toList = (List.replicate n (0 : Int)).map (.int .i64) := by
    apply List.ext_getElem?
    intro j
    by_cases hj : j < n
    · simp [madeCells, Value.cells, hj, Nat.mod_one]
    · rw [List.getElem?_eq_none (by simp [madeCells]; omega), List.getElem?_eq_none (by simp; omega)]
  rw [e] at r1
  exact r1
/-- A new variable. -/
theorem need_alloc (hgd : o.guard = none) (t : TypeId) (ho : o.op = .alloc t) (i : TypeInfo) (z : Value) (hi : P.info? t = some i) (hz : i.zero = some z)
    (h : ∀ v w', Below w.heap.size w w' → RBox t z.cells w.heap.size w'.heap.size v w' → K (a.put o.dst v) w') : Need (if Region.wanted o (yielded ops a.tmps) = true then Oper.wp P o a w K Q else E) :=
  ⟨step_alloc_at hgd t ho i z hi hz fun g w' hg hb hbw hs => h _ _ hbw ⟨g, rfl, Nat.le_of_eq hg.out.symm, by have h1 := hg.out; have h2 := hs.out; omega, hb⟩⟩
end
end Go.Proofs.Ytipmeijfmiiedaa
