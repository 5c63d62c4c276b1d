/- Lists of vectors in memory; what NullVectors returns. -/
import Derived.Test.YthjbfdifeffilaaGreatNul
namespace Go.Proofs.YthjbfdifeffilaaGreat
set_option maxRecDepth 100000
open Go.RowKit

theorem Tryz.infoV : (Tryz.prog.info? 23).map (fun i => (i.zero, i.size, i.bytes)) = some (some (.slice none 0 0), 1, 24) := by kernel_rfl
theorem infoV_parts : ∃ i, Tryz.prog.info? 23 = some i ∧ i.zero = some (.slice none 0 0) ∧ i.size = 1 ∧ i.bytes = 24 := by
  have h := Tryz.infoV
  cases hq : Tryz.prog.info? 23 with
  | none => rw [hq] at h; cases h
  | some i =>
    rw [hq] at h
    simp at h
    exact ⟨i, rfl, h.1, h.2.1, h.2.2⟩
/-- A list of vectors of the call's own. -/
def OwnVV (w : World) (base : Nat) (V : Value) (n : Nat) (Rs : List (Value × List El)) : Prop :=
  Rs.length = n ∧ w.ownsRow base 23 1 V n (Rs.map Prod.fst) ∧ (∀ p ∈ Rs, ∃ k, OwnV w base p.1 k p.2) ∧ Rs.Pairwise fun p q => ∀ k, footV p.1 p.2 k → ¬ footV q.1 q.2 k
def footVV (V : Value) (Rs : List (Value × List El)) (k : Nat) : Prop := V.ownBlock = some k ∨ ∃ p ∈ Rs, footV p.1 p.2 k
def HasVV : List (Value × List El) → List (List RD) → Prop
  | [], [] => True
  | p :: Rs, v :: vs => Has p.2 v ∧ HasVV Rs vs
  | _, _ => False
theorem HasVV.append : ∀ {L M : List (Value × List El)} {rs ss : List (List RD)}, HasVV L rs → HasVV M ss → HasVV (L ++ M) (rs ++ ss)
  | [], _, [], _, _, k => k
  | _ :: _, _, _ :: _, _, h, k => ⟨h.1, HasVV.append h.2 k⟩
theorem HasVV.length : ∀ {L : List (Value × List El)} {rs : List (List RD)}, HasVV L rs → L.length = rs.length
  | [], [], _ => rfl
  | p :: L, r :: rs, h => by simp [HasVV.length h.2]
section
variable {w w' : World} {base n : Nat} {V V' : Value} {Rs : List (Value × List El)}
theorem OwnVV.lt (h : OwnVV w base V n Rs) (k : Nat) (hk : footVV V Rs k) : base ≤ k ∧ k < w.heap.size := by
  rcases hk with hk | ⟨p, hp, hk⟩
  · exact h.2.1.lt k hk
  · obtain ⟨m, ho⟩ := h.2.2.1 p hp
    exact ho.lt k hk
theorem OwnVV.dep (h : OwnVV w base V n Rs) (hb : ∀ k, footVV V Rs k → w'.heap[k]? = w.heap[k]?) : OwnVV w' base V n Rs :=
  ⟨h.1, own_dep h.2.1 fun k hk => hb k (.inl hk), fun p hp => by
    obtain ⟨m, ho⟩ := h.2.2.1 p hp
    exact ⟨m, ho.dep fun k hk => hb k (.inr ⟨p, hp, hk⟩)⟩, h.2.2.2⟩
theorem OwnVV.below (h : OwnVV w base V n Rs) (hb : Below w.heap.size w w') : OwnVV w' base V n Rs := h.dep fun k hk => hb.block k (h.lt k hk).2
theorem OwnVV.none_ (w : World) (base : Nat) : OwnVV w base (.slice none 0 0) 0 [] := ⟨rfl, World.ownsRow_nil _ _ _ _, by simp, by simp⟩
theorem OwnVV.empty (w : World) : OwnVV (w.alloc (.cells #[] 23)) w.heap.size (.slice (some ⟨w.heap.size, 0, none⟩) 0 0) 0 [] := ⟨rfl, by
  refine ⟨rfl, .inr ⟨w.heap.size, 0, #[], rfl, Nat.le_refl _, heap_alloc_new w _, ?_⟩⟩
  simp, by simp, by simp⟩
theorem OwnVV.slice (h : OwnVV w base V n Rs) : ∃ A c, V = .slice A n c := own_slice h.2.1
theorem OwnVV.lower {b : Nat} (h : OwnVV w base V n Rs) (hb : b ≤ base) : OwnVV w b V n Rs := ⟨h.1, own_base h.2.1 hb, fun p hp => by
  obtain ⟨m, ho⟩ := h.2.2.1 p hp
  exact ⟨m, ho.lower hb⟩, h.2.2.2⟩
/-- The block of the list is no vector's. -/
theorem vv_other {p : Value × List El} {k : Nat} {base' : Nat} (ho : OwnV w base' p.1 k p.2) (h : w.ownsRow base 23 1 V n (Rs.map Prod.fst)) : ∀ j, footV p.1 p.2 j → ¬ V.ownBlock = some j := by
  rintro j (hj | ⟨x, hx, hj⟩) hv
  · exact own_other h ho.2.1 (by decide) j hv hj
  · exact el_other (ho.2.2.1 x hx) h (by decide) j hj hv
theorem OwnVV.append {p : Value × List El} (h : OwnVV w base V n Rs) (ho : w'.ownsRow base 23 1 V' (n + 1) (Rs.map Prod.fst ++ [p.1])) (hg : w.grownBy w' V.ownBlock) (he : ∃ k, OwnV w base p.1 k p.2) (hf : ∀ q ∈ Rs, ∀ k, footV q.1 q.2 k → ¬ footV p.1 p.2 k) : OwnVV w' base V' (n + 1) (Rs ++ [p]) := by
  refine ⟨by simp [h.1], by rw [List.map_append]; exact ho, fun q hq => ?_, ?_⟩
  · have key : ∃ k, OwnV w base q.1 k q.2 := by
      rcases List.mem_append.1 hq with hq | hq
      · exact h.2.2.1 q hq
      · obtain rfl := List.mem_singleton.1 hq; exact he
    obtain ⟨k, hk⟩ := key
    exact ⟨k, hk.dep fun j hj => hg.block j (hk.lt j hj).2 fun e => vv_other hk h.2.1 j hj e.symm⟩
  · rw [List.pairwise_append]
    refine ⟨h.2.2.2, by simp, fun x hx y hy => ?_⟩
    obtain rfl := List.mem_singleton.1 hy
    exact hf x hx
end
section
variable {P : Program} {w2 : World} {ops : Array Oper} {o : Oper} {a : Act}
theorem wpList_append_vv {rest : List Oper} {Q : Exit → Act → World → Prop} (hgd : o.guard = none) (s x : Operand) (t : TypeId) (ho : o.op = .call { callee := .builtin .append, args := #[s, x], argTypes := #[t, t] })
    (base : Nat) (i : TypeInfo) (ht : P.underlying t = some (.slice 23)) (hi : P.info? 23 = some i) (hz : i.zero = some (.slice none 0 0)) (hsize : i.size = 1) (hby : i.bytes = 24)
    (V : Value) (n : Nat) (Rs : List (Value × List El)) (hs : a.eval s = V) (hown : OwnVV w2 base V n Rs) (p : Value × List El) (hx : a.eval x = .slice (some ⟨w2.heap.size, 0, none⟩) 1 1) (he : ∃ k, OwnV w2 base p.1 k p.2) (hf : ∀ q ∈ Rs, ∀ k, footV q.1 q.2 k → ¬ footV p.1 p.2 k) (ho1 : p.1.oneCell' = true) (h63 : n + 1 ≤ maxLen) (hbytes : (n + 1) * 24 ≤ 140737488355328) (hbase : base ≤ w2.heap.size) (tl : TypeId)
    (h : ∀ V' w', OwnVV w' base V' (n + 1) (Rs ++ [p]) → (w2.alloc (.cells #[p.1] tl)).grownBy w' V.ownBlock → wpList P ops Q rest (a.put o.dst V') w') : wpList P ops Q (o :: rest) a (w2.alloc (.cells #[p.1] tl)) := by
  refine wpList_plain hgd fun K hK => ?_
  have hal : Below w2.heap.size w2 (w2.alloc (.cells #[p.1] tl)) := (Below.refl _ _).alloc (Nat.le_refl _) _
  have hown' := hown.below hal
  obtain ⟨V', w', hrun, h2, h3, _⟩ := run_append_own (P := P) (w2.alloc (.cells #[p.1] tl)) base t o.type 23 i (.slice none 0 0) 1 24 ht hi hz hsize hby rfl (by decide) V n (Rs.map Prod.fst) hown'.2.1 ⟨w2.heap.size, 0, none⟩ 1 1 [p.1] rfl (fun j u hj => by
    have hbx := Box.new w2 tl #[p.1]
    rw [Addr.add_lit, Nat.zero_add, hbx.cell j]
    simpa using hj) (by intro u hu; rw [List.mem_singleton] at hu; subst hu; exact ho1) h63 hbytes (by simp; omega)
  have happ := hown'.append (p := p) h2 h3 (by obtain ⟨k, hk⟩ := he; exact ⟨k, hk.below hal⟩) hf
  unfold Oper.wp execOp
  simp only [ho, resolve, invoke, builtin, Sem.run_bind, Sem.run_pure, Result.andThen_ok, List.map_toArray, List.map_cons, List.map_nil, hs, hx, hrun]
  exact hK _ _ (h V' w' happ h3)
end
/-- The null vectors of the first i columns. -/
noncomputable def nulls (K : Nat) (R : List RD) (pv : List Nat) (i : Nat) : List (List RD) := ((List.range i).filter fun k => !pv.contains k).map fun k => nvec K R pv k pv.length
theorem nulls_in {K i : Nat} {R : List RD} {pv : List Nat} (h : i ∈ pv) : nulls K R pv (i + 1) = nulls K R pv i := by
  unfold nulls
  rw [List.range_succ, List.filter_append]
  simp [h]
theorem nulls_new {K i : Nat} {R : List RD} {pv : List Nat} (h : ¬ i ∈ pv) : nulls K R pv (i + 1) = nulls K R pv i ++ [nvec K R pv i pv.length] := by
  unfold nulls
  rw [List.range_succ, List.filter_append]
  simp [h]
theorem nulls_le (K : Nat) (R : List RD) (pv : List Nat) (i : Nat) : (nulls K R pv i).length ≤ i := by
  unfold nulls
  rw [List.length_map]
  exact Nat.le_trans (List.length_filter_le _ _) (by simp)
theorem nulls_goods {K : Nat} (hK : K ≤ 24) (R : List RD) (pv : List Nat) (i : Nat) : ∀ v ∈ nulls K R pv i, Goods v := by
  intro v hv
  obtain ⟨k, _, rfl⟩ := List.mem_map.1 hv
  exact nvec_goods hK R pv k _
/-- Vectors that a call hands back: in memory of their own. -/
def ResVV (w w' : World) (V : Value) (vss : List (List RD)) : Prop := vss.length ≤ 1024 ∧ (∀ v ∈ vss, Goods v) ∧ ∃ Rs, OwnVV w' w.heap.size V vss.length Rs ∧ HasVV Rs vss
theorem resVV_nil (w w' : World) : ResVV w w' (.slice none 0 0) [] := ⟨by simp, by simp, [], OwnVV.none_ _ _, trivial⟩
def NullVectorsIs (p k : Int) (rs : List RD) (vss : List (List RD)) (b : Bool) : Prop := (Elim p k rs ∧ vss = nulls k.toNat (fin p k rs).rs (fin p k rs).pv k.toNat ∧ b = true) ∨ (¬ Elim p k rs ∧ vss = [] ∧ b = false)
theorem nullVectors_unique {p k : Int} {rs : List RD} {v v' : List (List RD)} {b b' : Bool} (h : NullVectorsIs p k rs v b) (h' : NullVectorsIs p k rs v' b') : v = v' ∧ b = b' := by
  rcases h with ⟨a, rfl, rfl⟩ | ⟨a, rfl, rfl⟩ <;> rcases h' with ⟨c, rfl, rfl⟩ | ⟨c, rfl, rfl⟩
  · exact ⟨rfl, rfl⟩
  · exact absurd a c
  · exact absurd c a
  · exact ⟨rfl, rfl⟩
def NullEnd (Q : List (List RD) → Bool → Prop) (w w' : World) (e : Ending) : Prop := ∃ vss V b, e = .returned (.tuple #[V, .bool b]) ∧ Q vss b ∧ ResVV w w' V vss ∧ Below w.heap.size w w'
end Go.Proofs.YthjbfdifeffilaaGreat
