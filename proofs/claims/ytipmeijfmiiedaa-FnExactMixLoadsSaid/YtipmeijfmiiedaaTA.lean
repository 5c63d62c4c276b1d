/- Regions that draw their order, where some operations are not wanted (a guard is false): laws to take one operation first, told by what it writes alone. No program is named here. -/
import Derived.Deep.RegionHeld3
import Derived.Test.YtipmeijfmiiedaaGB
namespace Go.Proofs.Ytipmeijfmiiedaa
set_option maxRecDepth 100000

section
variable {P : Program} {ops : Array Oper} {Q : Exit → Act → World → Prop} {md : Region.Mode} {S : World → Prop} {i : Nat} {fuel : Nat} {listed : Array Bool} {a : Act} {w : World} {d : Option Tmp}
/-- An operation that is not wanted. -/
theorem wpAnyH_skip (hd : (ops[i]?.map fun o => (o.dst, Region.wanted o (yielded ops a.tmps))) = some (d, false))
    (hs : Region.noSelect ops = true) (hf : Region.free md ops listed i = true) (hr : (Region.ready md ops listed).contains i = true)
    (hQ : ∀ c a w, Q (.panic c) (a.put d undef) w → Q (.panic c) a w) (hS : S w)
    (h : wpAnyH P md ops Q S fuel (listed.setIfInBounds i true) (a.put d undef) w) : wpAnyH P md ops Q S (fuel + 1) listed a w := by
  cases ho : ops[i]? with
  | none => rw [ho] at hd; cases hd
  | some o =>
    rw [ho] at hd
    simp only [Option.map_some, Option.some.injEq, Prod.mk.injEq] at hd
    obtain ⟨rfl, hw⟩ := hd
    exact wpAnyH_take ho hs hf hr hQ (Or.inr ⟨hw, rfl⟩) hS h
/-- An operation that is wanted, and yields. -/
theorem wpAnyH_go {v : Value} (hd : (ops[i]?.map fun o => (o.dst, Region.wanted o (yielded ops a.tmps))) = some (d, true))
    (hs : Region.noSelect ops = true) (hf : Region.free md ops listed i = true) (hr : (Region.ready md ops listed).contains i = true)
    (hQ : ∀ c a w, Q (.panic c) (a.put d v) w → Q (.panic c) a w) (hS : S w)
    (hy : ∀ o, ops[i]? = some o → ∀ w, S w → (execOp a.eval o).run P w = .ok (.value v) w)
    (h : wpAnyH P md ops Q S fuel (listed.setIfInBounds i true) (a.put d v) w) : wpAnyH P md ops Q S (fuel + 1) listed a w := by
  cases ho : ops[i]? with
  | none => rw [ho] at hd; cases hd
  | some o =>
    rw [ho] at hd
    simp only [Option.map_some, Option.some.injEq, Prod.mk.injEq] at hd
    obtain ⟨rfl, hw⟩ := hd
    exact wpAnyH_take ho hs hf hr hQ (Or.inl ⟨hw, fun w hSw => hy o ho w hSw⟩) hS h
end
end Go.Proofs.Ytipmeijfmiiedaa
namespace Go.Proofs.Ytipmeijfmiiedaa
set_option maxRecDepth 100000

section
variable {P : Program} {ops : Array Oper} {Q : Exit → Act → World → Prop} {md : Region.Mode} {S : World → Prop} {last i : Nat} {fuel : Nat} {listed : Array Bool} {a : Act} {w : World} {d : Option Tmp}
/-- Whatever order is picked from here on, and S holds behind every operation but 'last'. -/
def wpAnyL (P : Program) (md : Region.Mode) (ops : Array Oper) (Q : Exit → Act → World → Prop) (S : World → Prop) (last : Nat) : Nat → Array Bool → Act → World → Prop
  | 0, listed, a, w => Region.ready md ops listed = [] ∧ Q .normal a w
  | fuel + 1, listed, a, w =>
    (Region.ready md ops listed = [] → Q .normal a w) ∧
    ∀ i ∈ Region.ready md ops listed, wpOp P ops Q i (fun a' w' => (i ≠ last → S w') ∧ wpAnyL P md ops Q S last fuel (listed.setIfInBounds i true) a' w') a w
theorem wpAny_of_last : ∀ (fuel : Nat) (listed : Array Bool) (a : Act) (w : World), wpAnyL P md ops Q S last fuel listed a w → wpAny P md ops Q fuel listed a w
  | 0, _, _, _, h => h
  | fuel + 1, _, _, _, h => ⟨h.1, fun i hi => wpOp_mono (fun a' w' h' => wpAny_of_last fuel _ a' w' h'.2) (h.2 i hi)⟩
/-- What is listed is listed behind what it waits for. -/
def ClosedL (md : Region.Mode) (ops : Array Oper) (listed : Array Bool) : Prop := ∀ j o, ops[j]? = some o → listed.getD j false = true → ∀ e ∈ o.after, Region.binds md e = true → listed.getD e.on false = true
def closedB (md : Region.Mode) (ops : Array Oper) (listed : Array Bool) : Bool :=
  (List.range ops.size).all fun j => !listed.getD j false || ((ops[j]?).map fun o => o.after.all fun e => !Region.binds md e || listed.getD e.on false).getD true
theorem closed_of (h : closedB md ops listed = true) : ClosedL md ops listed := fun j o ho hj e he hb => by
  have h1 := List.all_eq_true.1 h j (List.mem_range.2 (Array.getElem?_eq_some_iff.1 ho).1)
  rw [hj, ho] at h1
  simp only [Bool.not_true, Bool.false_or, Option.map_some, Option.getD_some] at h1
  have h2 := Array.all_eq_true_iff_forall_mem.1 h1 e he
  rw [hb] at h2
  simpa using h2
theorem ready_unlisted {j : Nat} (h : j ∈ Region.ready md ops listed) : listed.getD j false = false := by
  have h0 := (mem_ready.1 h).1
  rcases Nat.lt_or_ge j listed.size with h' | h'
  · simp [h'] at h0 ⊢; exact h0
  · simp [Array.getElem?_eq_none h'] at h0
theorem ClosedL.step {j : Nat} (h : ClosedL md ops listed) (hj : j ∈ Region.ready md ops listed) : ClosedL md ops (listed.setIfInBounds j true) := fun k o ho hk e he hb => by
  by_cases hjk : j = k
  · subst hjk
    obtain ⟨_, o', ho', hall⟩ := mem_ready.1 hj
    rw [ho] at ho'
    cases ho'
    exact getD_set_true (hall e he hb)
  · rw [getD_set_ne false hjk] at hk
    exact getD_set_true (h k o ho hk e he hb)
/-- Each waits for the next. -/
def chainB (md : Region.Mode) (ops : Array Oper) : List Nat → Bool
  | x :: y :: rest => ((ops[x]?).map fun o => o.after.any fun e => Region.binds md e && e.on == y).getD false && chainB md ops (y :: rest)
  | _ => true
theorem edge_of {x y : Nat} (h : ((ops[x]?).map fun o => o.after.any fun e => Region.binds md e && e.on == y).getD false = true) : ∃ o, ops[x]? = some o ∧ ∃ e ∈ o.after, Region.binds md e = true ∧ e.on = y := by
  cases ho : ops[x]? with
  | none => rw [ho] at h; cases h
  | some o =>
    rw [ho] at h
    simp only [Option.map_some, Option.getD_some] at h
    obtain ⟨e, he, hb⟩ := Array.any_eq_true'.1 h
    simp only [Bool.and_eq_true, beq_iff_eq] at hb
    exact ⟨o, rfl, e, he, hb⟩
/-- The last of a chain is not listed: nor is its first, and the first does not come up. -/
theorem chain_unlisted (hc : ClosedL md ops listed) : ∀ {l : List Nat} {x y : Nat}, chainB md ops (x :: y :: l) = true → listed.getD ((y :: l).getLast (by simp)) false = false → listed.getD x false = false ∧ x ∉ Region.ready md ops listed
  | [], x, y, h, hl => by
    simp only [chainB, Bool.and_true] at h
    obtain ⟨o, ho, e, he, hb, rfl⟩ := edge_of h
    simp only [List.getLast_singleton] at hl
    refine ⟨?_, fun hr => ?_⟩
    · cases hx : listed.getD x false
      · rfl
      · rw [hc x o ho hx e he hb] at hl; cases hl
    · obtain ⟨_, o', ho', hall⟩ := mem_ready.1 hr
      rw [ho] at ho'
      cases ho'
      rw [hall e he hb] at hl
      cases hl
  | z :: l, x, y, h, hl => by
    have h1 : ((ops[x]?).map fun o => o.after.any fun e => Region.binds md e && e.on == y).getD false = true ∧ chainB md ops (y :: z :: l) = true := by
      rw [chainB, Bool.and_eq_true] at h; exact h
    obtain ⟨h2, h3⟩ := h1
    obtain ⟨hy, _⟩ := chain_unlisted hc h3 (by rw [List.getLast_cons (by simp)] at hl; exact hl)
    obtain ⟨o, ho, e, he, hb, rfl⟩ := edge_of h2
    refine ⟨?_, fun hr => ?_⟩
    · cases hx : listed.getD x false
      · rfl
      · rw [hc x o ho hx e he hb] at hy; cases hy
    · obtain ⟨_, o', ho', hall⟩ := mem_ready.1 hr
      rw [ho] at ho'
      cases ho'
      rw [hall e he hb] at hy
      cases hy
/-- An operation that 'last' waits for may be taken first, if it yields its value in every world that meets S. -/
theorem wpAnyL_first {oi : Oper} {v : Value} {y : Nat} {l : List Nat} (hch : chainB md ops (last :: y :: l) = true) (hli : (y :: l).getLast (by simp) = i) (hi : ops[i]? = some oi) (hsel : ∀ (j : Nat) (o : Oper) cs b, ops[j]? = some o → o.op ≠ .select cs b)
    (hQ : ∀ c a w, Q (.panic c) (a.put oi.dst v) w → Q (.panic c) a w) :
    ∀ (fuel : Nat) (listed : Array Bool) (a : Act) (w : World),
      (∀ j oj, ops[j]? = some oj → j ≠ i → listed.getD j true = false → (∀ e ∈ oj.after, Region.binds md e = true → e.on ≠ i) → oi.apart ops oj = true) →
      ClosedL md ops listed → i ∈ Region.ready md ops listed → YieldsIf P ops S oi v a → S w →
      wpAnyL P md ops Q S last fuel (listed.setIfInBounds i true) (a.put oi.dst v) w → wpAnyL P md ops Q S last (fuel + 1) listed a w := by
  intro fuel
  induction fuel with
  | zero =>
    intro listed a w _ _ hr hy hS H
    refine ⟨fun h => (by rw [h] at hr; cases hr), fun j hj => ?_⟩
    by_cases hji : j = i
    · subst hji; exact hy.wpOp hi hS ⟨fun _ => hS, H⟩
    · have := ready_mono hj hji
      rw [H.1] at this
      cases this
  | succ fuel ih =>
    intro listed a w hfree hc hr hy hS H
    refine ⟨fun h => (by rw [h] at hr; cases hr), fun j hj => ?_⟩
    by_cases hji : j = i
    · subst hji; exact hy.wpOp hi hS ⟨fun _ => hS, H⟩
    · have hjl : j ≠ last := fun e => by
        subst e
        exact (chain_unlisted hc hch (by rw [hli]; exact ready_unlisted hr)).2 hj
      have h1 := H.2 j (ready_mono hj hji)
      obtain ⟨hjun, oj, hoj, hall⟩ := mem_ready.1 hj
      have hnot : ∀ e ∈ oj.after, Region.binds md e = true → e.on ≠ i := fun e he hb heq => by
        have h1 := hall e he hb
        rw [heq, ready_unlisted hr] at h1
        cases h1
      have h2 := wpOp_putIf hoj (hfree j oj hoj hji hjun hnot) (fun cs b => hsel i oi cs b hi) (fun cs b => hsel j oj cs b hoj) hQ hy h1
      have hfree' : ∀ k ok, ops[k]? = some ok → k ≠ i → (listed.setIfInBounds j true).getD k true = false →
          (∀ e ∈ ok.after, Region.binds md e = true → e.on ≠ i) → oi.apart ops ok = true := fun k ok hk hki hun hno => by
        refine hfree k ok hk hki ?_ hno
        by_cases hjk : j = k
        · subst hjk; exact hjun
        · rw [getD_set_ne true hjk] at hun; exact hun
      refine wpOp_mono (fun a' w' h3 => ⟨fun _ => h3.2.1 hjl, ih (listed.setIfInBounds j true) a' w' hfree' (hc.step hj) (ready_mono hr (Ne.symm hji)) h3.1 (h3.2.1 hjl) ?_⟩) h2
      rw [Array.setIfInBounds_comm _ _ hji]
      exact h3.2.2
/-- All that the laws below ask of the graph. -/
def takeB (md : Region.Mode) (ops : Array Oper) (listed : Array Bool) (last i y : Nat) (l : List Nat) : Bool :=
  Region.noSelect ops && Region.free md ops listed i && (Region.ready md ops listed).contains i && closedB md ops listed && chainB md ops (last :: y :: l) && ((y :: l).getLast (by simp) == i)
theorem wpAnyL_take {oi : Oper} {v : Value} {y : Nat} {l : List Nat} (hi : ops[i]? = some oi) (hB : takeB md ops listed last i y l = true)
    (hQ : ∀ c a w, Q (.panic c) (a.put oi.dst v) w → Q (.panic c) a w) (hy : YieldsIf P ops S oi v a) (hS : S w)
    (h : wpAnyL P md ops Q S last fuel (listed.setIfInBounds i true) (a.put oi.dst v) w) : wpAnyL P md ops Q S last (fuel + 1) listed a w := by
  simp only [takeB, Bool.and_eq_true, beq_iff_eq] at hB
  obtain ⟨⟨⟨⟨⟨hs, hf⟩, hr⟩, hc⟩, hch⟩, hli⟩ := hB
  exact wpAnyL_first hch hli hi (Region.noSelect_spec hs) hQ fuel listed a w (Region.free_spec hi hf) (closed_of hc) (by simpa using hr) hy hS h
theorem wpAnyL_skip {y : Nat} (l : List Nat) (hd : (ops[i]?.map fun o => (o.dst, Region.wanted o (yielded ops a.tmps))) = some (d, false)) (hB : takeB md ops listed last i y l = true)
    (hQ : ∀ c a w, Q (.panic c) (a.put d undef) w → Q (.panic c) a w) (hS : S w)
    (h : wpAnyL P md ops Q S last fuel (listed.setIfInBounds i true) (a.put d undef) w) : wpAnyL P md ops Q S last (fuel + 1) listed a w := by
  cases ho : ops[i]? with
  | none => rw [ho] at hd; cases hd
  | some o =>
    rw [ho] at hd
    simp only [Option.map_some, Option.some.injEq, Prod.mk.injEq] at hd
    obtain ⟨rfl, hw⟩ := hd
    exact wpAnyL_take ho hB hQ (Or.inr ⟨hw, rfl⟩) hS h
theorem wpAnyL_go {v : Value} {y : Nat} (l : List Nat) (hd : (ops[i]?.map fun o => (o.dst, Region.wanted o (yielded ops a.tmps))) = some (d, true)) (hB : takeB md ops listed last i y l = true)
    (hQ : ∀ c a w, Q (.panic c) (a.put d v) w → Q (.panic c) a w) (hS : S w)
    (hy : ∀ o, ops[i]? = some o → ∀ w, S w → (execOp a.eval o).run P w = .ok (.value v) w)
    (h : wpAnyL P md ops Q S last fuel (listed.setIfInBounds i true) (a.put d v) w) : wpAnyL P md ops Q S last (fuel + 1) listed a w := by
  cases ho : ops[i]? with
  | none => rw [ho] at hd; cases hd
  | some o =>
    rw [ho] at hd
    simp only [Option.map_some, Option.some.injEq, Prod.mk.injEq] at hd
    obtain ⟨rfl, hw⟩ := hd
    exact wpAnyL_take ho hB hQ (Or.inl ⟨hw, fun w hSw => hy o ho w hSw⟩) hS h
/-- One alone may come up, and is not 'last': S is to be shown anew behind it. -/
theorem wpAnyL_one {o : Oper} (i : Nat) (hr : Region.ready md ops listed = [i]) (hne : i ≠ last) (ho : ops[i]? = some o)
    (h : ∀ K' : Act → World → Prop, Shut (∀ a w, S w → (S w → wpAnyL P md ops Q S last fuel (listed.setIfInBounds i true) a w) → K' a w) → if Region.wanted o (yielded ops a.tmps) = true then Oper.wp P o a w K' Q else K' (a.put o.dst undef) w) :
    wpAnyL P md ops Q S last (fuel + 1) listed a w := by
  refine ⟨fun h0 => (by rw [hr] at h0; cases h0), fun j hj => ?_⟩
  rw [hr] at hj
  obtain rfl := List.mem_singleton.1 hj
  exact wpOp_step ho (fun K' hK => h K' (fun a w hS hW => hK a w ⟨fun _ => hS, hW hS⟩))
/-- 'last' alone may come up. -/
theorem wpAnyL_last {o : Oper} (hr : Region.ready md ops listed = [last]) (ho : ops[last]? = some o)
    (h : ∀ K' : Act → World → Prop, Shut (∀ a w, wpAnyL P md ops Q S last fuel (listed.setIfInBounds last true) a w → K' a w) → if Region.wanted o (yielded ops a.tmps) = true then Oper.wp P o a w K' Q else K' (a.put o.dst undef) w) :
    wpAnyL P md ops Q S last (fuel + 1) listed a w := by
  refine ⟨fun h0 => (by rw [hr] at h0; cases h0), fun j hj => ?_⟩
  rw [hr] at hj
  obtain rfl := List.mem_singleton.1 hj
  exact wpOp_step ho (fun K' hK => h K' (fun a w hW => hK a w ⟨fun h => absurd rfl h, hW⟩))
theorem wpAnyL_done (hr : Region.ready md ops listed = []) (h : Q .normal a w) : ∀ fuel, wpAnyL P md ops Q S last fuel listed a w
  | 0 => ⟨hr, h⟩
  | _ + 1 => ⟨fun _ => h, by rw [hr]; simp⟩
/-- The beginning. -/
theorem wp_region_last {id : Nat} (last : Nat) (hm : P.follows .mixedOrders = true) (hS : S w.drew) (h : S w.drew → wpAnyL P .any ops Q S last ops.size (Array.replicate ops.size false) a w.drew) : (Code.region id ops true).wp P Q a w :=
  wp_region_any hm (wpAny_of_last _ _ _ _ (h hS))
end
end Go.Proofs.Ytipmeijfmiiedaa
namespace Go.Proofs.Ytipmeijfmiiedaa
set_option maxRecDepth 100000
open Go.RowKit

def AtL (w : World) : List (Addr × Value) → Prop
  | [] => True
  | (p, v) :: l => (p.block < w.heap.size ∧ w.cell? p = some v) ∧ AtL w l
theorem AtL.below {w w' : World} (hb : Below w.heap.size w w') : ∀ {l : List (Addr × Value)}, AtL w l → AtL w' l
  | [], _ => trivial
  | (_, _) :: _, h => ⟨⟨Nat.lt_of_lt_of_le h.1.1 hb.size, (hb.cell h.1.1).trans h.1.2⟩, AtL.below hb h.2⟩
theorem AtL.drew {w : World} : ∀ {l : List (Addr × Value)}, AtL w l → AtL w.drew l
  | [], _ => trivial
  | (_, _) :: _, h => ⟨h.1, AtL.drew h.2⟩
theorem AtL.append {w : World} : ∀ {l m : List (Addr × Value)}, AtL w l → AtL w m → AtL w (l ++ m)
  | [], _, _, k => k
  | (_, _) :: _, _, h, k => ⟨h.1, AtL.append h.2 k⟩
theorem Box.atL3 {w : World} {g : Nat} {t : TypeId} {x y z : Value} (h : Box w g t #[x, y, z]) : AtL w [(⟨g, 0, none⟩, x), (⟨g, 1, none⟩, y), (⟨g, 2, none⟩, z)] := ⟨⟨h.lt, h.cell 0⟩, ⟨h.lt, h.cell 1⟩, ⟨h.lt, h.cell 2⟩, trivial⟩
theorem atL3 {w : World} {p0 p1 p2 : Addr} {v0 v1 v2 : Value} (h : Hid (AtL w [(p0, v0), (p1, v1), (p2, v2)])) : w.cell? p0 = some v0 ∧ w.cell? p1 = some v1 ∧ w.cell? p2 = some v2 :=
  ⟨h.out.1.2, h.out.2.1.2, h.out.2.2.1.2⟩
theorem atL4 {w : World} {p0 p1 p2 p3 : Addr} {v0 v1 v2 v3 : Value} (h : Hid (AtL w [(p0, v0), (p1, v1), (p2, v2), (p3, v3)])) : w.cell? p0 = some v0 ∧ w.cell? p1 = some v1 ∧ w.cell? p2 = some v2 ∧ w.cell? p3 = some v3 :=
  ⟨h.out.1.2, h.out.2.1.2, h.out.2.2.1.2, h.out.2.2.2.1.2⟩
theorem atL6 {w : World} {p0 p1 p2 p3 p4 p5 : Addr} {v0 v1 v2 v3 v4 v5 : Value} (h : Hid (AtL w [(p0, v0), (p1, v1), (p2, v2), (p3, v3), (p4, v4), (p5, v5)])) : w.cell? p0 = some v0 ∧ w.cell? p1 = some v1 ∧ w.cell? p2 = some v2 ∧ w.cell? p3 = some v3 ∧ w.cell? p4 = some v4 ∧ w.cell? p5 = some v5 :=
  ⟨h.out.1.2, h.out.2.1.2, h.out.2.2.1.2, h.out.2.2.2.1.2, h.out.2.2.2.2.1.2, h.out.2.2.2.2.2.1.2⟩
theorem atL7 {w : World} {p0 p1 p2 p3 p4 p5 p6 : Addr} {v0 v1 v2 v3 v4 v5 v6 : Value} (h : Hid (AtL w [(p0, v0), (p1, v1), (p2, v2), (p3, v3), (p4, v4), (p5, v5), (p6, v6)])) : w.cell? p0 = some v0 ∧ w.cell? p1 = some v1 ∧ w.cell? p2 = some v2 ∧ w.cell? p3 = some v3 ∧ w.cell? p4 = some v4 ∧ w.cell? p5 = some v5 ∧ w.cell? p6 = some v6 :=
  ⟨h.out.1.2, h.out.2.1.2, h.out.2.2.1.2, h.out.2.2.2.1.2, h.out.2.2.2.2.1.2, h.out.2.2.2.2.2.1.2, h.out.2.2.2.2.2.2.1.2⟩
theorem atL9 {w : World} {p0 p1 p2 p3 p4 p5 p6 p7 p8 : Addr} {v0 v1 v2 v3 v4 v5 v6 v7 v8 : Value} (h : Hid (AtL w [(p0, v0), (p1, v1), (p2, v2), (p3, v3), (p4, v4), (p5, v5), (p6, v6), (p7, v7), (p8, v8)])) : w.cell? p0 = some v0 ∧ w.cell? p1 = some v1 ∧ w.cell? p2 = some v2 ∧ w.cell? p3 = some v3 ∧ w.cell? p4 = some v4 ∧ w.cell? p5 = some v5 ∧ w.cell? p6 = some v6 ∧ w.cell? p7 = some v7 ∧ w.cell? p8 = some v8 :=
  ⟨h.out.1.2, h.out.2.1.2, h.out.2.2.1.2, h.out.2.2.2.1.2, h.out.2.2.2.2.1.2, h.out.2.2.2.2.2.1.2, h.out.2.2.2.2.2.2.1.2, h.out.2.2.2.2.2.2.2.1.2, h.out.2.2.2.2.2.2.2.2.1.2⟩
theorem atL10 {w : World} {p0 p1 p2 p3 p4 p5 p6 p7 p8 p9 : Addr} {v0 v1 v2 v3 v4 v5 v6 v7 v8 v9 : Value} (h : Hid (AtL w [(p0, v0), (p1, v1), (p2, v2), (p3, v3), (p4, v4), (p5, v5), (p6, v6), (p7, v7), (p8, v8), (p9, v9)])) : w.cell? p0 = some v0 ∧ w.cell? p1 = some v1 ∧ w.cell? p2 = some v2 ∧ w.cell? p3 = some v3 ∧ w.cell? p4 = some v4 ∧ w.cell? p5 = some v5 ∧ w.cell? p6 = some v6 ∧ w.cell? p7 = some v7 ∧ w.cell? p8 = some v8 ∧ w.cell? p9 = some v9 :=
  ⟨h.out.1.2, h.out.2.1.2, h.out.2.2.1.2, h.out.2.2.2.1.2, h.out.2.2.2.2.1.2, h.out.2.2.2.2.2.1.2, h.out.2.2.2.2.2.2.1.2, h.out.2.2.2.2.2.2.2.1.2, h.out.2.2.2.2.2.2.2.2.1.2, h.out.2.2.2.2.2.2.2.2.2.1.2⟩
theorem atL12 {w : World} {p0 p1 p2 p3 p4 p5 p6 p7 p8 p9 p10 p11 : Addr} {v0 v1 v2 v3 v4 v5 v6 v7 v8 v9 v10 v11 : Value} (h : Hid (AtL w [(p0, v0), (p1, v1), (p2, v2), (p3, v3), (p4, v4), (p5, v5), (p6, v6), (p7, v7), (p8, v8), (p9, v9), (p10, v10), (p11, v11)])) : w.cell? p0 = some v0 ∧ w.cell? p1 = some v1 ∧ w.cell? p2 = some v2 ∧ w.cell? p3 = some v3 ∧ w.cell? p4 = some v4 ∧ w.cell? p5 = some v5 ∧ w.cell? p6 = some v6 ∧ w.cell? p7 = some v7 ∧ w.cell? p8 = some v8 ∧ w.cell? p9 = some v9 ∧ w.cell? p10 = some v10 ∧ w.cell? p11 = some v11 :=
  ⟨h.out.1.2, h.out.2.1.2, h.out.2.2.1.2, h.out.2.2.2.1.2, h.out.2.2.2.2.1.2, h.out.2.2.2.2.2.1.2, h.out.2.2.2.2.2.2.1.2, h.out.2.2.2.2.2.2.2.1.2, h.out.2.2.2.2.2.2.2.2.1.2, h.out.2.2.2.2.2.2.2.2.2.1.2, h.out.2.2.2.2.2.2.2.2.2.2.1.2, h.out.2.2.2.2.2.2.2.2.2.2.2.1.2⟩
theorem atL15 {w : World} {p0 p1 p2 p3 p4 p5 p6 p7 p8 p9 p10 p11 p12 p13 p14 : Addr} {v0 v1 v2 v3 v4 v5 v6 v7 v8 v9 v10 v11 v12 v13 v14 : Value} (h : Hid (AtL w [(p0, v0), (p1, v1), (p2, v2), (p3, v3), (p4, v4), (p5, v5), (p6, v6), (p7, v7), (p8, v8), (p9, v9), (p10, v10), (p11, v11), (p12, v12), (p13, v13), (p14, v14)])) : w.cell? p0 = some v0 ∧ w.cell? p1 = some v1 ∧ w.cell? p2 = some v2 ∧ w.cell? p3 = some v3 ∧ w.cell? p4 = some v4 ∧ w.cell? p5 = some v5 ∧ w.cell? p6 = some v6 ∧ w.cell? p7 = some v7 ∧ w.cell? p8 = some v8 ∧ w.cell? p9 = some v9 ∧ w.cell? p10 = some v10 ∧ w.cell? p11 = some v11 ∧ w.cell? p12 = some v12 ∧ w.cell? p13 = some v13 ∧ w.cell? p14 = some v14 :=
  ⟨h.out.1.2, h.out.2.1.2, h.out.2.2.1.2, h.out.2.2.2.1.2, h.out.2.2.2.2.1.2, h.out.2.2.2.2.2.1.2, h.out.2.2.2.2.2.2.1.2, h.out.2.2.2.2.2.2.2.1.2, h.out.2.2.2.2.2.2.2.2.1.2, h.out.2.2.2.2.2.2.2.2.2.1.2, h.out.2.2.2.2.2.2.2.2.2.2.1.2, h.out.2.2.2.2.2.2.2.2.2.2.2.1.2, h.out.2.2.2.2.2.2.2.2.2.2.2.2.1.2, h.out.2.2.2.2.2.2.2.2.2.2.2.2.2.1.2, h.out.2.2.2.2.2.2.2.2.2.2.2.2.2.2.1.2⟩
end Go.Proofs.Ytipmeijfmiiedaa
