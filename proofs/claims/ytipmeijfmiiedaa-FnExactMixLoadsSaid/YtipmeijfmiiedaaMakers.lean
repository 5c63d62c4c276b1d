/- A drawn region in which several operations make memory, in whatever order: each told once, with the others' results left open. No program is named here. -/
import Derived.Deep.RegionHeld3
import Derived.Below
namespace Go.Proofs.Ytipmeijfmiiedaa
set_option maxRecDepth 100000
open Go.RowKit

/-- What is to be shown, kept from being reckoned out. -/
structure Need (p : Prop) : Prop where
  out : p
def updB {α : Type} (f : Nat → α) (j : Nat) (x : α) : Nat → α := fun k => if k = j then x else f k
theorem updB_at {α : Type} (f : Nat → α) (j : Nat) (x : α) : updB f j x j = x := if_pos rfl
theorem updB_ne {α : Type} (f : Nat → α) {j k : Nat} (x : α) (h : k ≠ j) : updB f j x k = f k := if_neg h
/-- How many are left. -/
def leftB (D : Nat → Bool) : Nat → Nat
  | 0 => 0
  | r + 1 => leftB D r + (if D r then 0 else 1)
theorem leftB_congr {D E : Nat → Bool} : ∀ {r : Nat}, (∀ j, j < r → D j = E j) → leftB D r = leftB E r
  | 0, _ => rfl
  | r + 1, h => by simp only [leftB]; rw [leftB_congr fun j hj => h j (by omega), h r (by omega)]
theorem leftB_upd {D : Nat → Bool} {j : Nat} : ∀ {r : Nat}, j < r → D j = false → leftB (updB D j true) r + 1 = leftB D r
  | 0, h, _ => absurd h (Nat.not_lt_zero _)
  | r + 1, h, hd => by
    simp only [leftB]
    by_cases e : j = r
    · subst e
      rw [updB_at, hd, leftB_congr (D := updB D j true) (E := D) fun k hk => updB_ne _ _ (by omega)]
      simp
    · rw [updB_ne _ _ (Ne.symm e)]
      have := leftB_upd (D := D) (j := j) (r := r) (by omega) hd
      omega
theorem leftB_zero {D : Nat → Bool} : ∀ {r : Nat}, leftB D r = 0 → ∀ j, j < r → D j = true
  | 0, _, _, h => absurd h (Nat.not_lt_zero _)
  | r + 1, h, j, hj => by
    simp only [leftB] at h
    by_cases e : j = r
    · subst e
      cases hd : D j
      · rw [hd] at h; simp at h
      · rfl
    · exact leftB_zero (r := r) (by omega) j (by omega)
/-- All lists of r bits. -/
def allB : Nat → List (List Bool)
  | 0 => [[]]
  | r + 1 => (allB r).map (false :: ·) ++ (allB r).map (true :: ·)
theorem allB_mem : ∀ (r : Nat) (D : Nat → Bool), ∃ l ∈ allB r, ∀ j, j < r → l.getD j false = D j
  | 0, _ => ⟨[], by simp [allB], fun j h => absurd h (Nat.not_lt_zero _)⟩
  | r + 1, D => by
    obtain ⟨l, hl, h⟩ := allB_mem r fun j => D (j + 1)
    refine ⟨D 0 :: l, ?_, fun j hj => ?_⟩
    · simp only [allB, List.mem_append, List.mem_map]
      cases D 0
      · exact .inl ⟨l, hl, rfl⟩
      · exact .inr ⟨l, hl, rfl⟩
    · cases j with
      | zero => rfl
      | succ j => simpa using h j (by omega)

section
variable {P : Program} {ops : Array Oper} {Q : Exit → Act → World → Prop} {md : Region.Mode} {S : World → Prop}
/-- What is listed when the operations D are done. -/
def lstB (l : Array Bool) (ids : List Nat) (D : Nat → Bool) : Nat → Array Bool
  | 0 => l
  | r + 1 => if D r then (lstB l ids D r).setIfInBounds (ids.getD r 0) true else lstB l ids D r
theorem set_comm (l : Array Bool) (i j : Nat) : (l.setIfInBounds i true).setIfInBounds j true = (l.setIfInBounds j true).setIfInBounds i true := by
  by_cases e : i = j
  · rw [e]
  · exact Array.setIfInBounds_comm _ _ e
theorem lstB_congr {l : Array Bool} {ids : List Nat} {D E : Nat → Bool} : ∀ {r : Nat}, (∀ j, j < r → D j = E j) → lstB l ids D r = lstB l ids E r
  | 0, _ => rfl
  | r + 1, h => by simp only [lstB]; rw [lstB_congr fun j hj => h j (by omega), h r (by omega)]
theorem lstB_upd {l : Array Bool} {ids : List Nat} {D : Nat → Bool} {j : Nat} : ∀ {r : Nat}, j < r → D j = false → (lstB l ids D r).setIfInBounds (ids.getD j 0) true = lstB l ids (updB D j true) r
  | 0, h, _ => absurd h (Nat.not_lt_zero _)
  | r + 1, h, hd => by
    simp only [lstB]
    by_cases e : j = r
    · subst e
      rw [updB_at, hd, lstB_congr (D := updB D j true) (E := D) fun k hk => updB_ne _ _ (by omega)]
      simp
    · rw [updB_ne _ _ (Ne.symm e), ← lstB_upd (D := D) (j := j) (r := r) (by omega) hd]
      split
      · exact set_comm _ _ _
      · rfl
/-- The slots of the operations, written. -/
def actB (a : Act) (ds : List Nat) (Y : Nat → Value) : Nat → Act
  | 0 => a
  | r + 1 => (actB a ds Y r).put (some (ds.getD r 0)) (Y r)
theorem put_comm (a : Act) {d e : Nat} (h : d ≠ e) (u v : Value) : (a.put (some d) u).put (some e) v = (a.put (some e) v).put (some d) u := by
  unfold Act.put
  simp only
  rw [Array.setIfInBounds_comm _ _ h]
theorem put_twice (a : Act) (d : Nat) (u v : Value) : (a.put (some d) u).put (some d) v = a.put (some d) v := by
  unfold Act.put
  simp
theorem actB_congr {a : Act} {ds : List Nat} {Y Z : Nat → Value} : ∀ {r : Nat}, (∀ j, j < r → Y j = Z j) → actB a ds Y r = actB a ds Z r
  | 0, _ => rfl
  | r + 1, h => by simp only [actB]; rw [actB_congr fun j hj => h j (by omega), h r (by omega)]
theorem actB_upd {a : Act} {ds : List Nat} {Y : Nat → Value} {j : Nat} {v : Value} : ∀ {r : Nat}, j < r → (∀ k, k < r → k ≠ j → ds.getD k 0 ≠ ds.getD j 0) → (actB a ds Y r).put (some (ds.getD j 0)) v = actB a ds (updB Y j v) r
  | 0, h, _ => absurd h (Nat.not_lt_zero _)
  | r + 1, h, hn => by
    simp only [actB]
    by_cases e : j = r
    · subst e
      rw [put_twice, updB_at, actB_congr (Y := updB Y j v) (Z := Y) fun k hk => updB_ne _ _ (by omega)]
    · rw [updB_ne _ _ (Ne.symm e), ← actB_upd (Y := Y) (j := j) (v := v) (r := r) (by omega) fun k hk => hn k (by omega), put_comm _ (hn r (by omega) (Ne.symm e))]
theorem actB_self {a : Act} {ds : List Nat} : ∀ r, actB a ds (fun j => a.tmps.getD (ds.getD j 0) undef) r = a
  | 0 => rfl
  | r + 1 => by
    simp only [actB]
    rw [actB_self r]
    unfold Act.put
    simp only
    congr 1
    generalize ds.getD r 0 = d
    apply Array.ext
    · simp
    · intro i h1 h2
      rw [Array.getElem_setIfInBounds]
      split
      · rename_i e; subst e; simp [h2]
      · rfl
/-- Enough is done. -/
def stopB (req : List Nat) (D : Nat → Bool) : Bool := req.all D
/-- The check: as long as not enough is done, only operations of the list that are left may come up, and one does. -/
def readyB (md : Region.Mode) (ops : Array Oper) (l : Array Bool) (ids : List Nat) (r : Nat) (req : List Nat) : Bool :=
  req.all (fun j => Nat.blt j r) && (allB r).all fun b => stopB req (fun j => b.getD j false) || (!(Region.ready md ops (lstB l ids (fun j => b.getD j false) r)).isEmpty && (Region.ready md ops (lstB l ids (fun j => b.getD j false) r)).all fun i => (List.range r).any fun j => !b.getD j false && ids.getD j 0 == i)
theorem ready_spec {l : Array Bool} {ids : List Nat} {r : Nat} {req : List Nat} (h : readyB md ops l ids r req = true) {D : Nat → Bool} (hD : stopB req D = false) :
    Region.ready md ops (lstB l ids D r) ≠ [] ∧ ∀ i ∈ Region.ready md ops (lstB l ids D r), ∃ j, j < r ∧ D j = false ∧ ids.getD j 0 = i := by
  obtain ⟨b, hb, hbD⟩ := allB_mem r D
  unfold readyB at h
  rw [Bool.and_eq_true] at h
  have h1 := List.all_eq_true.1 h.2 b hb
  rw [← lstB_congr (D := fun j => b.getD j false) (E := D) hbD]
  have hs : stopB req (fun j => b.getD j false) = stopB req D := by
    unfold stopB
    rw [Bool.eq_iff_iff, List.all_eq_true, List.all_eq_true]
    have hlt : ∀ j ∈ req, j < r := fun j hj => Eq.mp Nat.blt_eq (List.all_eq_true.1 h.1 j hj)
    constructor
    · intro q j hj; rw [← hbD j (hlt j hj)]; exact q j hj
    · intro q j hj; show b.getD j false = true; rw [hbD j (hlt j hj)]; exact q j hj
  rw [hs, hD, Bool.false_or, Bool.and_eq_true] at h1
  obtain ⟨h1, h2⟩ := h1
  refine ⟨fun e => by rw [e] at h1; simp at h1, fun i hi => ?_⟩
  have h3 := List.all_eq_true.1 h2 i hi
  obtain ⟨j, hj, h4⟩ := List.any_eq_true.1 h3
  simp only [Bool.and_eq_true, Bool.not_eq_true', beq_iff_eq] at h4
  rw [List.mem_range] at hj
  exact ⟨j, hj, (hbD j hj).symm.trans h4.1, h4.2⟩
/-- The slots are different ones. -/
def distB (ds : List Nat) (r : Nat) : Bool := (List.range r).all fun j => (List.range r).all fun k => k == j || ds.getD k 0 != ds.getD j 0
theorem dist_spec {ds : List Nat} {r : Nat} (h : distB ds r = true) : ∀ j k, j < r → k < r → k ≠ j → ds.getD k 0 ≠ ds.getD j 0 := fun j k hj hk hkj => by
  have h1 := List.all_eq_true.1 (List.all_eq_true.1 h j (List.mem_range.2 hj)) k (List.mem_range.2 hk)
  simp only [Bool.or_eq_true, beq_iff_eq, bne_iff_ne] at h1
  exact h1.resolve_left hkj
/-- The law. ids: the operations; ds: the slots that they write; R j lo hi v w: what is told of the result v of operation j, whose memory lies from block lo on and below block hi. -/
theorem wpAnyH_makers {w0 : World} {a : Act} {l : Array Bool} {fuel : Nat} (r : Nat) (ids ds req : List Nat) (R : Nat → Nat → Nat → Value → World → Prop)
    (hr : readyB md ops l ids r req = true) (hdB : distB ds r = true)
    (hS : ∀ w, Below w0.heap.size w0 w → S w)
    (hR : ∀ j, j < r → ∀ lo hi v w w', R j lo hi v w → hi ≤ w.heap.size → Below w.heap.size w w' → R j lo hi v w')
    (hstep : ∀ j, j < r → ∀ o, ops[ids.getD j 0]? = some o → ∀ (Y : Nat → Value) (w : World), Below w0.heap.size w0 w → ∀ K : Act → World → Prop,
      Shut (∀ v w', Below w.heap.size w w' → R j w.heap.size w'.heap.size v w' → K ((actB a ds Y r).put (some (ds.getD j 0)) v) w') →
      Need (if Region.wanted o (yielded ops (actB a ds Y r).tmps) = true then Oper.wp P o (actB a ds Y r) w K Q else K ((actB a ds Y r).put o.dst undef) w))
    (hfin : ∀ (D : Nat → Bool) (Y : Nat → Value) (LO HI : Nat → Nat) (w : World), stopB req D = true → Below w0.heap.size w0 w → (∀ j, j < r → D j = true → R j (LO j) (HI j) (Y j) w ∧ w0.heap.size ≤ LO j ∧ LO j ≤ HI j ∧ HI j ≤ w.heap.size) → (∀ j k, j < r → k < r → j ≠ k → D j = true → D k = true → HI j ≤ LO k ∨ HI k ≤ LO j) →
      wpAnyH P md ops Q S (fuel + leftB D r) (lstB l ids D r) (actB a ds Y r) w) :
    wpAnyH P md ops Q S (fuel + r) l a w0 := by
  have hds := dist_spec hdB
  have key : ∀ n (D : Nat → Bool) (Y : Nat → Value) (LO HI : Nat → Nat) (w : World), leftB D r = n → Below w0.heap.size w0 w →
      (∀ j, j < r → D j = true → R j (LO j) (HI j) (Y j) w ∧ w0.heap.size ≤ LO j ∧ LO j ≤ HI j ∧ HI j ≤ w.heap.size) → (∀ j k, j < r → k < r → j ≠ k → D j = true → D k = true → HI j ≤ LO k ∨ HI k ≤ LO j) →
      wpAnyH P md ops Q S (fuel + n) (lstB l ids D r) (actB a ds Y r) w := fun n => by
    induction n with
    | zero =>
      intro D Y LO HI w hn hb hres hdis
      have hD := leftB_zero hn
      have hst : stopB req D = true := by
        unfold readyB at hr
        rw [Bool.and_eq_true] at hr
        exact List.all_eq_true.2 fun j hj => hD j (Eq.mp Nat.blt_eq (List.all_eq_true.1 hr.1 j hj))
      have h := hfin D Y LO HI w hst hb hres hdis
      rwa [hn] at h
    | succ n ih =>
      intro D Y LO HI w hn hb hres hdis
      cases hstop : stopB req D
      case true =>
        have h := hfin D Y LO HI w hstop hb hres hdis
        rwa [hn] at h
      obtain ⟨hne, hin⟩ := ready_spec hr hstop
      refine wpAnyH_ready (fuel := fuel + n) rfl hne fun i hi => ?_
      obtain ⟨j, hj, hdj, rfl⟩ := hin i hi
      obtain ⟨_, o, ho, _⟩ := mem_ready.1 hi
      refine wpOp_step ho fun K hK => (hstep j hj o ho Y w hb K fun v w' hbw hv => hK _ _ ⟨hS _ (hb.trans (hbw.mono hb.size)), ?_⟩).out
      rw [lstB_upd hj hdj, actB_upd hj fun k hk hkj => hds j k hj hk hkj]
      refine ih (updB D j true) (updB Y j v) (updB LO j w.heap.size) (updB HI j w'.heap.size) w' (by have := leftB_upd hj hdj; omega) (hb.trans (hbw.mono hb.size)) (fun k hk hdk => ?_) fun k m hk hm hkm hdk hdm => ?_
      · by_cases e : k = j
        · subst e
          rw [updB_at, updB_at, updB_at]
          exact ⟨hv, hb.size, hbw.size, Nat.le_refl _⟩
        · rw [updB_ne _ _ e] at hdk
          rw [updB_ne _ _ e, updB_ne _ _ e, updB_ne _ _ e]
          obtain ⟨h1, h2, h3, h4⟩ := hres k hk hdk
          exact ⟨hR k hk _ _ _ _ _ h1 h4 hbw, h2, h3, Nat.le_trans h4 hbw.size⟩
      · by_cases e : k = j
        · subst e
          have hmk : m ≠ k := Ne.symm hkm
          rw [updB_ne _ _ hmk] at hdm
          rw [updB_at, updB_at, updB_ne _ _ hmk, updB_ne _ _ hmk]
          exact .inr (hres m hm hdm).2.2.2
        · rw [updB_ne _ _ e] at hdk
          by_cases e2 : m = j
          · subst e2
            rw [updB_at, updB_at, updB_ne _ _ e, updB_ne _ _ e]
            exact .inl (hres k hk hdk).2.2.2
          · rw [updB_ne _ _ e2] at hdm
            rw [updB_ne _ _ e, updB_ne _ _ e, updB_ne _ _ e2, updB_ne _ _ e2]
            exact hdis k m hk hm hkm hdk hdm
  have hall : ∀ r, leftB (fun _ => false) r = r := fun r => by
    induction r with
    | zero => rfl
    | succ r ih => simp [leftB, ih]
  have hl : ∀ r, lstB l ids (fun _ => false) r = l := fun r => by
    induction r with
    | zero => rfl
    | succ r ih => simp [lstB, ih]
  have h := key r (fun _ => false) (fun j => a.tmps.getD (ds.getD j 0) undef) (fun _ => 0) (fun _ => 0) w0 (hall r) (Below.refl _ _) (fun j _ h => by cases h) fun j k _ _ _ h => by cases h
  rw [hl, actB_self] at h
  exact h
end
end Go.Proofs.Ytipmeijfmiiedaa
