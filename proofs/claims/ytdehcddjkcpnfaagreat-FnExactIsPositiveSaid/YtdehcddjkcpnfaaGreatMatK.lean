/- Lists of fractions: some elements copied into another list (the builtin copy on elements of three cells). -/
import Derived.Test.YtdehcddjkcpnfaaGreatMatC
import Derived.Laws.CopyOwn
namespace Go.Proofs.YtdehcddjkcpnfaaGreat
set_option maxRecDepth 100000
open Go.RowKit

theorem flat_take : ∀ (L : List El) (o : Nat), flat (L.take o) = (flat L).take (o * 3)
  | [], o => by simp [flat]
  | e :: L, 0 => by simp [flat]
  | e :: L, o + 1 => by
    rw [List.take_succ_cons, flat_cons, flat_cons, flat_take L o, show (o + 1) * 3 = o * 3 + 1 + 1 + 1 by omega]
    simp
theorem flat_drop : ∀ (L : List El) (o : Nat), flat (L.drop o) = (flat L).drop (o * 3)
  | [], o => by simp [flat]
  | e :: L, 0 => by simp
  | e :: L, o + 1 => by
    rw [List.drop_succ_cons, flat_cons, flat_drop L o, show (o + 1) * 3 = o * 3 + 1 + 1 + 1 by omega]
    simp
theorem splice_len {α : Type} {l m : List α} {o : Nat} (h : o + m.length ≤ l.length) : (l.take o ++ m ++ l.drop (o + m.length)).length = l.length := by
  simp only [List.length_append, List.length_take, List.length_drop]; omega
theorem take_splice {α : Type} {l m : List α} {o k : Nat} (h : o + m.length ≤ k) (hk : k ≤ l.length) : (l.take o ++ m ++ l.drop (o + m.length)).take k = (l.take k).take o ++ m ++ (l.take k).drop (o + m.length) := by
  have h1 : (l.take o ++ m).length = o + m.length := by simp only [List.length_append, List.length_take]; omega
  rw [List.take_append, h1, List.take_of_length_le (by omega), List.take_take, Nat.min_eq_left (by omega), List.drop_take]
theorem Has.take : ∀ {L : List El} {rs : List RD} (o : Nat), Has L rs → Has (L.take o) (rs.take o)
  | [], [], _, _ => by simp [Has]
  | _ :: _, _ :: _, 0, _ => by simp [Has]
  | _ :: _, _ :: _, o + 1, h => ⟨h.1, Has.take o h.2⟩
theorem Has.drop : ∀ {L : List El} {rs : List RD} (o : Nat), Has L rs → Has (L.drop o) (rs.drop o)
  | [], [], _, _ => by simp [Has]
  | _ :: _, _ :: _, 0, h => h
  | _ :: _, _ :: _, o + 1, h => Has.drop o h.2
theorem pairwise_splice {R : El → El → Prop} {L M : List El} (hs : ∀ a b, R a b → R b a) (h : L.Pairwise R) (k : M.Pairwise R) (hx : ∀ x ∈ L, ∀ y ∈ M, R x y) (o q : Nat) (hoq : o ≤ q) : (L.take o ++ M ++ L.drop q).Pairwise R := by
  have h0 : (L.take o ++ L.drop q).Pairwise R := by
    have : (L.take o ++ L.drop q).Sublist L := by
      have h1 : (L.drop q).Sublist (L.drop o) := by
        rw [show q = o + (q - o) by omega, ← List.drop_drop]
        exact List.drop_sublist _ _
      have h2 := List.Sublist.append (List.Sublist.refl (L.take o)) h1
      rwa [List.take_append_drop] at h2
    exact h.sublist this
  rw [List.pairwise_append] at h0
  rw [List.pairwise_append, List.pairwise_append]
  refine ⟨⟨h0.1, k, fun x hx' y hy => hx x (List.mem_of_mem_take hx') y hy⟩, h0.2.1, fun x hx' y hy => ?_⟩
  rcases List.mem_append.1 hx' with h1 | h1
  · exact h0.2.2 x h1 y hy
  · exact hs _ _ (hx y (List.mem_of_mem_drop hy) x h1)
/-- Elements laid over others. -/
theorem OwnV.splice {w w' : World} {base b2 G N c m : Nat} {V2 : Value} {L M : List El} {o : Nat} {cur : Array Value} (h : OwnV w base (.slice (some ⟨G, 0, none⟩) N c) N L) (hM : OwnV w b2 V2 m M) (hb : base ≤ b2) (hf : ∀ x ∈ L, ∀ y ∈ M, Far x y) (ho : o + m ≤ N)
    (hg : w.heap[G]? = some (.cells cur 30 (0, 0))) (hw : w' = w.setRow G (cur.toList.take (o * 3) ++ flat M ++ cur.toList.drop (o * 3 + (flat M).length)).toArray) :
    OwnV w' base (.slice (some ⟨G, 0, none⟩) N c) N (L.take o ++ M ++ L.drop (o + m)) := by
  subst hw
  have hl := h.1
  have hm := hM.1
  have hfl : (flat M).length = m * 3 := by rw [flat_length, hm]
  have key : ∀ x : El, x.own w base → x.own (w.setRow G (cur.toList.take (o * 3) ++ flat M ++ cur.toList.drop (o * 3 + (flat M).length)).toArray) base := fun x hx => hx.dep fun k hk => setRow_other w G k _ fun e => by
    subst e
    exact el_other hx h.2.1 (by decide) k hk rfl
  refine ⟨by simp only [List.length_append, List.length_take, List.length_drop]; omega, ?_, fun x hx => ?_, ?_⟩
  · obtain ⟨hlen, hor⟩ := h.2.1
    refine ⟨by rw [flat_length]; simp only [List.length_append, List.length_take, List.length_drop]; omega, ?_⟩
    rcases hor with ⟨hv, _⟩ | ⟨g, cap, cur', hv, h1, h2, h3, h4, h5, h6⟩
    · cases hv
    · cases hv
      rw [hg] at h2
      injection h2 with h2
      injection h2 with h2
      subst h2
      have hcl : cur.toList.length = c * 3 := by simpa using h5
      refine .inr ⟨G, c, _, rfl, h1, setRow_heap w G _ _ _ _ hg, h3, h4, ?_, ?_⟩
      · rw [List.size_toArray, splice_len (by rw [hcl, hfl]; omega), hcl]
      · rw [List.toList_toArray, take_splice (by rw [hfl]; omega) (by rw [hcl]; omega), h6, flat_append, flat_append, flat_take, flat_drop, hfl, Nat.add_mul]
  · rcases List.mem_append.1 hx with hx | hx
    · rcases List.mem_append.1 hx with hx | hx
      · exact key x (h.2.2.1 x (List.mem_of_mem_take hx))
      · exact key x ((hM.2.2.1 x hx).lower hb)
    · exact key x (h.2.2.1 x (List.mem_of_mem_drop hx))
  · exact pairwise_splice (fun _ _ k => k.symm) h.2.2.2 hM.2.2.2 hf _ _ (by omega)
theorem flat_one_cell {w : World} {base n : Nat} {V : Value} {L : List El} (h : OwnV w base V n L) : ∀ v ∈ flat L, v.oneCell' = true := by
  intro v hv
  obtain ⟨e, he, hv⟩ := List.mem_flatMap.1 hv
  obtain ⟨A, c, hA⟩ := own_slice (h.2.2.1 e he).1
  obtain ⟨B, d, hB⟩ := own_slice (h.2.2.1 e he).2.1
  simp only [El.cells, List.mem_cons, List.not_mem_nil, or_false] at hv
  rcases hv with rfl | rfl | rfl
  · rfl
  · rw [hA]; rfl
  · rw [hB]; rfl
section
variable {P : Program}
theorem run_copy3 (w : World) (dT sT ty elem : TypeId) (g o dLen dCap : Nat) (a : Addr) (sLen sCap : Nat) (cur : Array Value) (t : TypeId) (cs : List Value)
    (hu : P.underlying dT = some (.slice elem)) (hs : (P.info? elem).map (·.size) = some 3)
    (hg : w.heap[g]? = some (.cells cur t (0, 0))) (hn : cs.length = Nat.min sLen dLen * 3)
    (hsrc : ∀ j v, cs[j]? = some v → w.cell? (a.add j) = some v) (hfit : o + cs.length ≤ cur.size) (h1 : ∀ v ∈ cs, v.oneCell' = true) :
    (Builtin.copy_ #[dT, sT] ty #[.slice (some ⟨g, o, none⟩) dLen dCap, .slice (some a) sLen sCap]).run P w =
      .ok (goInt (Nat.min sLen dLen)) (w.setRow g (cur.toList.take o ++ cs ++ cur.toList.drop (o + cs.length)).toArray) := by
  have hl := run_loadCells_list (P := P) w a cs hsrc
  have hst := run_storeCells_at P g o t cs 0 cur w hg (by simpa using hfit) h1
  cases hq : P.info? elem with
  | none => simp [hq] at hs
  | some i =>
    have hi : i.size = 3 := by simpa [hq] using hs
    simp [Builtin.copy_, run_underlying hu, Builtin.lenOf, Builtin.firstCells, sizeOf, typeInfo, hq, hi, ← hn, hl, hst]
/-- The walk over a copy of whole elements: the target within a list of the call's own, the source another one. -/
theorem wpList_copy_el {w : World} {ops : Array Oper} {rest : List Oper} {o : Oper} {a : Act} {Q : Exit → Act → World → Prop} (hgd : o.guard = none) (d s : Operand) (dT sT : TypeId)
    (ho : o.op = .call { callee := .builtin .copy, args := #[d, s], argTypes := #[dT, sT] }) (hu : P.underlying dT = some (.slice 30)) (hsz : (P.info? 30).map (·.size) = some 3)
    (G off N c m c2 g2 dc : Nat) (hd : a.eval d = .slice (some ⟨G, off * 3, none⟩) m dc) (hs : a.eval s = .slice (some ⟨g2, 0, none⟩) m c2)
    (base b2 : Nat) (L M : List El) (h : OwnV w base (.slice (some ⟨G, 0, none⟩) N c) N L) (hM : OwnV w b2 (.slice (some ⟨g2, 0, none⟩) m c2) m M) (hb : base ≤ b2) (hf : ∀ x ∈ L, ∀ y ∈ M, Far x y) (hle : off + m ≤ N) (W : World) (hB : Below base W w)
    (k : ∀ w', OwnV w' base (.slice (some ⟨G, 0, none⟩) N c) N (L.take off ++ M ++ L.drop (off + m)) → Below base W w' → Wrote (fun k => k = G) w w' → wpList P ops Q rest (a.put o.dst (goInt m)) w') : wpList P ops Q (o :: rest) a w := by
  refine wpList_plain hgd fun K hK => ?_
  obtain ⟨hlen, hor⟩ := h.2.1
  rcases hor with ⟨hv, _⟩ | ⟨g, cap, cur, hv, h1, h2, h3, h4, h5, h6⟩
  · cases hv
  cases hv
  have hfl : (flat M).length = m * 3 := by rw [flat_length, hM.1]
  have hrun := run_copy3 (P := P) w dT sT o.type 30 G (off * 3) m dc ⟨g2, 0, none⟩ m c2 cur 30 (flat M) hu hsz h2 (by rw [hfl, show Nat.min m m = m from Nat.min_self m]) (fun j v hj => by
    obtain ⟨hjl, hje⟩ := List.getElem?_eq_some_iff.1 hj
    have := hM.2.1.cellAt j (by omega)
    rw [Addr.add_lit, Nat.zero_add]
    rw [this]; exact hj) (by rw [h5, hfl]; omega) (flat_one_cell hM)
  rw [show Nat.min m m = m from Nat.min_self m] at hrun
  unfold Oper.wp
  simp [execOp, ho, resolve, invoke, builtin, hd, hs, hrun, Result.andThen]
  refine hK _ _ (k _ (OwnV.splice h hM hb hf hle h2 (by rw [List.append_assoc])) (below_setRow hB h1 _) ⟨rfl, rfl, rfl, by simp [World.setRow], fun j _ hj => setRow_other w G j _ hj⟩)
end
end Go.Proofs.YtdehcddjkcpnfaaGreat
