/- Lists of fractions in memory: what one reads as, what one of the call's own is. -/
import Derived.Test.YtjggdbakbhacjaaRatLaw
import Derived.Test.YtjggdbakbhacjaaHold
namespace Go.Proofs.Ytjggdbakbhacjaa
set_option maxRecDepth 100000
open Go.RowKit

/-- A fraction as data: its sign, its two lists of limbs. -/
structure RD where
  g : Bool
  xs : List Int
  ds : List Int
/-- A fraction of a list of the call's own: its sign, its two slices, what lies there. -/
structure El where
  g : Bool
  v : Value
  n : Nat
  xs : List Value
  u : Value
  m : Nat
  ys : List Value
def El.cells (e : El) : List Value := [.bool e.g, e.v, e.u]
def El.zero : El := ⟨false, .slice none 0 0, 0, [], .slice none 0 0, 0, []⟩
def El.foot (e : El) (k : Nat) : Prop := e.v.ownBlock = some k ∨ e.u.ownBlock = some k
def El.own (w : World) (base : Nat) (e : El) : Prop := w.ownsRow base 3 1 e.v e.n e.xs ∧ w.ownsRow base 3 1 e.u e.m e.ys ∧ Apart e.u e.v
def El.has (e : El) (r : RD) : Prop := e.g = r.g ∧ e.n = r.xs.length ∧ e.xs = r.xs.map (.int .i64) ∧ e.m = r.ds.length ∧ e.ys = r.ds.map (.int .i64)
def Far (a b : El) : Prop := ∀ k, a.foot k → ¬ b.foot k
theorem Far.symm {a b : El} (h : Far a b) : Far b a := fun k hb ha => h k ha hb
def flat (L : List El) : List Value := L.flatMap El.cells
/-- A list of fractions of the call's own, from block base on. -/
def OwnV (w : World) (base : Nat) (V : Value) (n : Nat) (L : List El) : Prop :=
  L.length = n ∧ w.ownsRow base 26 3 V n (flat L) ∧ (∀ e ∈ L, e.own w base) ∧ L.Pairwise Far
def footV (V : Value) (L : List El) (k : Nat) : Prop := V.ownBlock = some k ∨ ∃ e ∈ L, e.foot k
/-- The elements hold these fractions. -/
def Has : List El → List RD → Prop
  | [], [] => True
  | e :: L, r :: rs => e.has r ∧ Has L rs
  | _, _ => False
theorem Has.length : ∀ {L : List El} {rs : List RD}, Has L rs → L.length = rs.length
  | [], [], _ => rfl
  | e :: L, r :: rs, h => by simp [Has.length h.2]
theorem Has.at_ : ∀ {L : List El} {rs : List RD}, Has L rs → ∀ j (h : j < L.length) (k : j < rs.length), L[j].has rs[j]
  | e :: L, r :: rs, h, 0, _, _ => h.1
  | e :: L, r :: rs, h, j + 1, hj, hk => Has.at_ h.2 j (by simpa using hj) (by simpa using hk)
theorem Has.append : ∀ {L M : List El} {rs ss : List RD}, Has L rs → Has M ss → Has (L ++ M) (rs ++ ss)
  | [], _, [], _, _, k => k
  | _ :: _, _, _ :: _, _, h, k => ⟨h.1, Has.append h.2 k⟩
theorem Has.set : ∀ {L : List El} {rs : List RD} (i : Nat) {e : El} {r : RD}, Has L rs → e.has r → Has (L.set i e) (rs.set i r)
  | [], [], _, _, _, _, _ => trivial
  | _ :: _, _ :: _, 0, _, _, h, k => ⟨k, h.2⟩
  | _ :: _, _ :: _, i + 1, _, _, h, k => ⟨h.1, Has.set i h.2 k⟩

theorem flat_length : ∀ L : List El, (flat L).length = L.length * 3
  | [] => rfl
  | e :: L => by
    have := flat_length L
    unfold flat at this ⊢
    rw [List.flatMap_cons, List.length_append, this, List.length_cons]
    simp [El.cells]; omega
theorem flat_cons (e : El) (L : List El) : flat (e :: L) = .bool e.g :: e.v :: e.u :: flat L := by simp [flat, El.cells]
theorem flat_append (L M : List El) : flat (L ++ M) = flat L ++ flat M := by simp [flat]
theorem flat_one (e : El) : flat [e] = [.bool e.g, e.v, e.u] := by simp [flat, El.cells]
theorem flat_at : ∀ (L : List El) (i : Nat) (h : i < L.length), (flat L)[i * 3]? = some (.bool L[i].g) ∧ (flat L)[i * 3 + 1]? = some L[i].v ∧ (flat L)[i * 3 + 2]? = some L[i].u
  | e :: L, 0, _ => by rw [flat_cons]; simp
  | e :: L, i + 1, h => by
    have := flat_at L i (by simpa using h)
    rw [flat_cons, show (i + 1) * 3 = i * 3 + 1 + 1 + 1 by omega]
    simpa using this
theorem flat_set : ∀ (L : List El) (i : Nat) (e : El), i < L.length → flat (L.set i e) = (((flat L).set (i * 3) (.bool e.g)).set (i * 3 + 1) e.v).set (i * 3 + 2) e.u
  | x :: L, 0, e, _ => by simp [flat_cons]
  | x :: L, i + 1, e, h => by
    have := flat_set L i e (by simpa using h)
    rw [List.set_cons_succ, flat_cons, flat_cons, this, show (i + 1) * 3 = i * 3 + 1 + 1 + 1 by omega]
    simp [List.set_cons_succ]
theorem flat_zero (n : Nat) : (madeCells (Value.agg #[.bool false, .slice none 0 0, .slice none 0 0]).cells (n * 3)).toList = flat (List.replicate n El.zero) := by
  apply List.ext_getElem?
  intro j
  by_cases hj : j < n * 3
  · have hi : j / 3 < (List.replicate n El.zero).length := by simp; omega
    obtain ⟨h0, h1, h2⟩ := flat_at (List.replicate n El.zero) (j / 3) hi
    have hz : (List.replicate n El.zero)[j / 3] = El.zero := by simp
    rw [hz] at h0 h1 h2
    have hm : j % 3 = 0 ∨ j % 3 = 1 ∨ j % 3 = 2 := by omega
    rcases hm with hm | hm | hm
    · rw [show j / 3 * 3 = j by omega] at h0
      rw [h0]; simp [madeCells, hj, hm, Value.cells, El.zero]
    · rw [show j / 3 * 3 + 1 = j by omega] at h1
      rw [h1]; simp [madeCells, hj, hm, Value.cells, El.zero]
    · rw [show j / 3 * 3 + 2 = j by omega] at h2
      rw [h2]; simp [madeCells, hj, hm, Value.cells, El.zero]
  · rw [List.getElem?_eq_none (by simp [madeCells]; omega), List.getElem?_eq_none (by rw [flat_length]; simp; omega)]

theorem pairwise_set {R : El → El → Prop} : ∀ {L : List El} (i : Nat) {e : El}, L.Pairwise R → (∀ x ∈ L, R x e ∧ R e x) → (L.set i e).Pairwise R
  | [], _, _, _, _ => by simp
  | x :: L, 0, e, h, he => by
    rw [List.set_cons_zero, List.pairwise_cons]
    rw [List.pairwise_cons] at h
    exact ⟨fun y hy => (he y (by simp [hy])).2, h.2⟩
  | x :: L, i + 1, e, h, he => by
    rw [List.set_cons_succ, List.pairwise_cons]
    rw [List.pairwise_cons] at h
    refine ⟨fun y hy => ?_, pairwise_set i h.2 fun y hy => he y (by simp [hy])⟩
    rcases List.mem_or_eq_of_mem_set hy with hy | rfl
    · exact h.1 y hy
    · exact (he x (by simp)).1

theorem own_at' {w : World} {base : Nat} {E : TypeId} {A : Option Addr} {size n c : Nat} {xs : List Value} (h : w.ownsRow base E size (.slice A n c) n xs) (h0 : 0 < n) :
    ∃ g, A = some ⟨g, 0, none⟩ ∧ base ≤ g ∧ g < w.heap.size := by
  rcases h.2 with ⟨_, rfl⟩ | ⟨g, cap, cur, hv, hb, hg, _⟩
  · omega
  · cases hv
    exact ⟨g, rfl, hb, (h.lt g rfl).2⟩
section
variable {w w' : World} {base : Nat} {V : Value} {n : Nat} {L : List El}
theorem El.own.dep {e : El} (h : e.own w base) (hb : ∀ k, e.foot k → w'.heap[k]? = w.heap[k]?) : e.own w' base :=
  ⟨own_dep h.1 fun k hk => hb k (.inl hk), own_dep h.2.1 fun k hk => hb k (.inr hk), h.2.2⟩
theorem El.own.lt {e : El} (h : e.own w base) (k : Nat) (hk : e.foot k) : base ≤ k ∧ k < w.heap.size := by
  rcases hk with hk | hk
  · exact h.1.lt k hk
  · exact h.2.1.lt k hk
theorem El.own.lower {e : El} {b : Nat} (h : e.own w base) (hb : b ≤ base) : e.own w b := ⟨own_base h.1 hb, own_base h.2.1 hb, h.2.2⟩
theorem El.own_zero (w : World) (base : Nat) : El.zero.own w base := ⟨World.ownsRow_nil _ _ _ _, World.ownsRow_nil _ _ _ _, fun k hk => by simp [El.zero, Value.ownBlock] at hk⟩
theorem El.foot_zero (k : Nat) : ¬ El.zero.foot k := by simp [El.foot, El.zero, Value.ownBlock]
/-- The block of the list is none of its elements'. -/
theorem own_other {E E' : TypeId} {s s' m : Nat} {b b' : Nat} {v u : Value} {xs ys : List Value} (h : w.ownsRow b E s v n xs) (k : w.ownsRow b' E' s' u m ys) (hne : E ≠ E') : Apart v u := fun j hj hu => by
  rcases h.2 with ⟨rfl, _⟩ | ⟨g, cap, cur, rfl, _, hg, _⟩
  · simp [Value.ownBlock] at hj
  · rcases k.2 with ⟨rfl, _⟩ | ⟨g', cap', cur', rfl, _, hg', _⟩
    · simp [Value.ownBlock] at hu
    · simp [Value.ownBlock] at hj hu
      subst hj hu
      rw [hg] at hg'
      injection hg' with hg'
      injection hg' with _ ht
      exact hne ht
theorem el_other {e : El} {E : TypeId} {s b m : Nat} {v : Value} {xs : List Value} (he : e.own w base) (h : w.ownsRow b E s v m xs) (hne : E ≠ 3) : ∀ k, e.foot k → v.ownBlock ≠ some k := fun k hk hv => by
  rcases hk with hk | hk
  · exact own_other h he.1 hne k hv hk
  · exact own_other h he.2.1 hne k hv hk
theorem OwnV.dep (h : OwnV w base V n L) (hb : ∀ k, footV V L k → w'.heap[k]? = w.heap[k]?) : OwnV w' base V n L :=
  ⟨h.1, own_dep h.2.1 fun k hk => hb k (.inl hk), fun e he => (h.2.2.1 e he).dep fun k hk => hb k (.inr ⟨e, he, hk⟩), h.2.2.2⟩
theorem OwnV.lt (h : OwnV w base V n L) (k : Nat) (hk : footV V L k) : base ≤ k ∧ k < w.heap.size := by
  rcases hk with hk | ⟨e, he, hk⟩
  · exact h.2.1.lt k hk
  · exact (h.2.2.1 e he).lt k hk
theorem OwnV.holds (h : OwnV w base V n L) : Holds w (footV V L) fun w => OwnV w base V n L := ⟨fun k hk => (h.lt k hk).2, h, fun _ hb => h.dep hb⟩
theorem OwnV.below (h : OwnV w base V n L) (hb : Below w.heap.size w w') : OwnV w' base V n L := h.dep fun k hk => hb.block k (h.lt k hk).2
theorem OwnV.alloc (h : OwnV w base V n L) (o : Obj) : OwnV (w.alloc o) base V n L := h.dep fun k hk => Below.heap_alloc w o k (h.lt k hk).2
theorem OwnV.lower {b : Nat} (h : OwnV w base V n L) (hb : b ≤ base) : OwnV w b V n L := ⟨h.1, own_base h.2.1 hb, fun e he => (h.2.2.1 e he).lower hb, h.2.2.2⟩
theorem OwnV.slice (h : OwnV w base V n L) : ∃ A c, V = .slice A n c := own_slice h.2.1
theorem OwnV.none_ (w : World) (base : Nat) : OwnV w base (.slice none 0 0) 0 [] := ⟨rfl, World.ownsRow_nil _ _ _ _, by simp, by simp⟩
theorem OwnV.made (h : w.ownsRow base 26 3 V n (madeCells (Value.agg #[.bool false, .slice none 0 0, .slice none 0 0]).cells (n * 3)).toList) : OwnV w base V n (List.replicate n El.zero) := by
  refine ⟨by simp, by rw [flat_zero] at h; exact h, fun e he => ?_, ?_⟩
  · obtain rfl := (List.mem_replicate.1 he).2
    exact El.own_zero _ _
  · rw [List.pairwise_replicate]
    exact .inr fun k hk => absurd hk (El.foot_zero k)
/-- A new element behind the others. -/
theorem OwnV.append {V' : Value} {e : El} (h : OwnV w base V n L) (ho : w'.ownsRow base 26 3 V' (n + 1) (flat L ++ [.bool e.g, e.v, e.u])) (hg : w.grownBy w' V.ownBlock) (he : e.own w base) (hf : ∀ x ∈ L, Far x e) : OwnV w' base V' (n + 1) (L ++ [e]) := by
  refine ⟨by simp [h.1], by rw [flat_append, flat_one]; exact ho, fun x hx => ?_, ?_⟩
  · rcases List.mem_append.1 hx with hx | hx
    · exact (h.2.2.1 x hx).dep fun k hk => hg.block k ((h.2.2.1 x hx).lt k hk).2 fun e => el_other (h.2.2.1 x hx) h.2.1 (by decide) k hk e.symm
    · obtain rfl := List.mem_singleton.1 hx
      exact he.dep fun k hk => hg.block k (he.lt k hk).2 fun e => el_other he h.2.1 (by decide) k hk e.symm
  · rw [List.pairwise_append]
    refine ⟨h.2.2.2, by simp, fun x hx y hy => ?_⟩
    obtain rfl := List.mem_singleton.1 hy
    exact hf x hx
/-- An element stored in its place. -/
theorem OwnV.store {g c i : Nat} {e : El} (h : OwnV w base (.slice (some ⟨g, 0, none⟩) n c) n L) (hi : i < n) (he : e.own w base) (hf : ∀ x ∈ L, Far x e) :
    OwnV (((w.setCell ⟨g, i * 3, none⟩ (.bool e.g)).setCell ⟨g, i * 3 + 1, none⟩ e.v).setCell ⟨g, i * 3 + 2, none⟩ e.u) base (.slice (some ⟨g, 0, none⟩) n c) n (L.set i e) ∧
      Wrote (blk (.slice (some ⟨g, 0, none⟩) n c)) w (((w.setCell ⟨g, i * 3, none⟩ (.bool e.g)).setCell ⟨g, i * 3 + 1, none⟩ e.v).setCell ⟨g, i * 3 + 2, none⟩ e.u) := by
  have hgb : blk (.slice (some ⟨g, 0, none⟩) n c) g := rfl
  have hW : Wrote (blk (.slice (some ⟨g, 0, none⟩) n c)) w (((w.setCell ⟨g, i * 3, none⟩ (.bool e.g)).setCell ⟨g, i * 3 + 1, none⟩ e.v).setCell ⟨g, i * 3 + 2, none⟩ e.u) :=
    Wrote.setCell (p := ⟨g, i * 3 + 2, none⟩) (Wrote.setCell (p := ⟨g, i * 3 + 1, none⟩) (Wrote.setCell (p := ⟨g, i * 3, none⟩) (Wrote.refl _ w) hgb _) hgb _) hgb _
  refine ⟨⟨by simp [h.1], ?_, fun x hx => ?_, ?_⟩, hW⟩
  · rw [flat_set _ _ _ (by rw [h.1]; exact hi)]
    exact (((h.2.1.stored _ _).1.stored _ _).1.stored _ _).1
  · have key : ∀ x : El, x.own w base → x.own (((w.setCell ⟨g, i * 3, none⟩ (.bool e.g)).setCell ⟨g, i * 3 + 1, none⟩ e.v).setCell ⟨g, i * 3 + 2, none⟩ e.u) base := fun x hx =>
      hx.dep fun k hk => hW.block k (hx.lt k hk).2 fun hb => el_other hx h.2.1 (by decide) k hk hb
    rcases List.mem_or_eq_of_mem_set hx with hx | rfl
    · exact key x (h.2.2.1 x hx)
    · exact key x he
  · exact pairwise_set i h.2.2.2 fun x hx => ⟨hf x hx, (hf x hx).symm⟩
theorem OwnV.cells {g c i : Nat} (h : OwnV w base (.slice (some ⟨g, 0, none⟩) n c) n L) (hi : i < L.length) :
    w.cell? ⟨g, i * 3, none⟩ = some (.bool L[i].g) ∧ w.cell? ⟨g, i * 3 + 1, none⟩ = some L[i].v ∧ w.cell? ⟨g, i * 3 + 2, none⟩ = some L[i].u := by
  obtain ⟨h0, h1, h2⟩ := flat_at L i hi
  have hn := h.1
  exact ⟨(h.2.1.cellAt _ (by omega)).trans h0, (h.2.1.cellAt _ (by omega)).trans h1, (h.2.1.cellAt _ (by omega)).trans h2⟩
theorem OwnV.frozen {g c : Nat} (h : OwnV w base (.slice (some ⟨g, 0, none⟩) n c) n L) (j : Nat) : w.frozen? ⟨g, j, none⟩ = false := h.2.1.frozenAt j
/-- What the walk asks ahead of a store of a whole element. -/
theorem OwnV.room {g c i : Nat} (h : OwnV w base (.slice (some ⟨g, 0, none⟩) n c) n L) (hi : i < n) :
    ∃ x0 x1 x2, w.cell? ⟨g, i * 3, none⟩ = some x0 ∧ w.cell? ⟨g, i * 3 + 1, none⟩ = some x1 ∧ w.cell? ⟨g, i * 3 + 2, none⟩ = some x2 ∧ w.frozen? ⟨g, i * 3, none⟩ = false ∧ w.frozen? ⟨g, i * 3 + 1, none⟩ = false ∧ w.frozen? ⟨g, i * 3 + 2, none⟩ = false := by
  obtain ⟨h0, h1, h2⟩ := h.cells (i := i) (by rw [h.1]; exact hi)
  exact ⟨_, _, _, h0, h1, h2, h.frozen _, h.frozen _, h.frozen _⟩
theorem OwnV.far_new {e : El} {b : Nat} (h : OwnV w base V n L) (he : e.own w' b) (hb : w.heap.size ≤ b) : ∀ x ∈ L, Far x e := fun x hx k hk hk' => by
  have h1 := ((h.2.2.1 x hx).lt k hk).2
  have h2 := (he.lt k hk').1
  omega
end

/-- A fraction that lies at place o of block b. -/
def RatAt (w : World) (b o : Nat) (r : RD) : Prop :=
  ∃ A n c B m d, w.cell? ⟨b, o, none⟩ = some (.bool r.g) ∧ w.cell? ⟨b, o + 1, none⟩ = some (.slice A n c) ∧ w.cell? ⟨b, o + 2, none⟩ = some (.slice B m d) ∧ InI w A n r.xs ∧ Room A n c ∧ InI w B m r.ds ∧ Room B m d
/-- A list of fractions that is handed to a function. -/
def InV (w : World) (A : Option Addr) (n : Nat) (rs : List RD) : Prop :=
  rs.length = n ∧ n ≤ 1048576 ∧ (n = 0 ∨ ∃ b o, A = some ⟨b, o, none⟩ ∧ b < w.heap.size ∧ ∀ j (h : j < rs.length), RatAt w b (o + j * 3) rs[j])
theorem RatAt.below {w w' : World} {b o : Nat} {r : RD} (h : RatAt w b o r) (hlt : b < w.heap.size) (hb : Below w.heap.size w w') : RatAt w' b o r := by
  obtain ⟨A, n, c, B, m, d, h0, h1, h2, h3, h4, h5, h6⟩ := h
  exact ⟨A, n, c, B, m, d, (hb.cell (p := ⟨b, o, none⟩) hlt).trans h0, (hb.cell (p := ⟨b, o + 1, none⟩) hlt).trans h1, (hb.cell (p := ⟨b, o + 2, none⟩) hlt).trans h2, h3.below hb, h4, h5.below hb, h6⟩
theorem InV.below {w w' : World} {A : Option Addr} {n : Nat} {rs : List RD} (h : InV w A n rs) (hb : Below w.heap.size w w') : InV w' A n rs := by
  refine ⟨h.1, h.2.1, ?_⟩
  rcases h.2.2 with h0 | ⟨b, o, hA, hlt, hat⟩
  · exact .inl h0
  · exact .inr ⟨b, o, hA, Nat.lt_of_lt_of_le hlt hb.size, fun j hj => (hat j hj).below hlt hb⟩
/-- Limbs that a machine's int holds. -/
def RD.fits (r : RD) : Prop := (r.xs.length ≤ 1048576 ∧ r.ds.length ≤ 1048576) ∧ (∀ z ∈ r.xs, -9223372036854775808 ≤ z ∧ z ≤ 9223372036854775807) ∧ ∀ z ∈ r.ds, -9223372036854775808 ≤ z ∧ z ≤ 9223372036854775807
theorem OwnV.in_ {w : World} {base n c : Nat} {A : Option Addr} {L : List El} {rs : List RD} (h : OwnV w base (.slice A n c) n L) (hh : Has L rs) (hn : n ≤ 1048576) (hf : ∀ r ∈ rs, r.fits) : InV w A n rs := by
  have hl := hh.length
  have hl' := h.1
  refine ⟨by omega, hn, ?_⟩
  by_cases h0 : n = 0
  · exact .inl h0
  right
  rcases h.2.1.2 with ⟨_, h1⟩ | ⟨g, cap, cur, hv, _, hg, _⟩
  · exact absurd h1 h0
  · cases hv
    refine ⟨g, 0, rfl, ?_, fun j hj => ?_⟩
    · exact (h.2.1.lt g rfl).2
    · rw [Nat.zero_add]
      obtain ⟨c0, c1, c2⟩ := h.cells (i := j) (by omega)
      obtain ⟨e0, e1, e2, e3, e4⟩ := hh.at_ j (by omega) hj
      obtain ⟨o1, o2, _⟩ := h.2.2.1 L[j] (List.getElem_mem _)
      obtain ⟨⟨f1, f2⟩, f3, f4⟩ := hf rs[j] (List.getElem_mem _)
      obtain ⟨A1, d1, hA1⟩ := own_slice o1
      obtain ⟨A2, d2, hA2⟩ := own_slice o2
      rw [hA1, e1, e2] at o1
      rw [hA2, e3, e4] at o2
      rw [e0] at c0
      rw [hA1, e1] at c1
      rw [hA2, e3] at c2
      exact ⟨A1, _, d1, A2, _, d2, c0, c1, c2, ⟨rfl, f1, Reads.of_own o1, f3⟩, room_own o1, ⟨rfl, f2, Reads.of_own o2, f4⟩, room_own o2⟩

/-- How many values a list of fractions holds. -/
def RD.tot (r : RD) : Nat := r.xs.length + r.ds.length
def tot : List RD → Nat
  | [] => 0
  | r :: rs => r.tot + tot rs
theorem tot_take_succ : ∀ {rs : List RD} {j : Nat} {r : RD}, rs[j]? = some r → tot (rs.take (j + 1)) = tot (rs.take j) + r.tot
  | [], _, _, h => by simp at h
  | x :: rs, 0, r, h => by simp at h; subst h; simp [tot]
  | x :: rs, j + 1, r, h => by
    have := tot_take_succ (rs := rs) (j := j) (r := r) (by simpa using h)
    simp only [List.take_succ_cons, tot, this]; omega
theorem tot_take_le : ∀ (rs : List RD) (j : Nat), tot (rs.take j) ≤ tot rs
  | [], _ => by simp
  | x :: rs, 0 => by simp [tot]
  | x :: rs, j + 1 => by have := tot_take_le rs j; simp only [List.take_succ_cons, tot]; omega
theorem tot_at {rs : List RD} {j : Nat} {r : RD} (h : rs[j]? = some r) : r.tot ≤ tot rs := by
  have h1 := tot_take_succ h
  have h2 := tot_take_le rs (j + 1)
  omega
/-- A list of fractions that a call hands back: in memory of its own. -/
def ResV (w w' : World) (V : Value) (rs : List RD) : Prop := rs.length + tot rs ≤ 1048576 ∧ (∀ r ∈ rs, r.fits) ∧ ∃ L, OwnV w' w.heap.size V rs.length L ∧ Has L rs
end Go.Proofs.Ytjggdbakbhacjaa
