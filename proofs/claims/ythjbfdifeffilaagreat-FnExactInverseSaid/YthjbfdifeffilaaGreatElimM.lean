/- Matrices of the call's own, changed in place: two elements exchanged; what a list in memory says of one element. -/
import Derived.Test.YthjbfdifeffilaaGreatElim
import Derived.Test.YthjbfdifeffilaaGreatMatI6
import Derived.Test.YthjbfdifeffilaaGreatMatK
namespace Go.Proofs.YthjbfdifeffilaaGreat
set_option maxRecDepth 100000
open Go.RowKit

theorem OwnV.far {w : World} {base n : Nat} {V : Value} {L : List El} (h : OwnV w base V n L) {i j : Nat} (hi : i < L.length) (hj : j < L.length) (e : i ≠ j) : Far L[i] L[j] := by
  have hp := List.pairwise_iff_getElem.1 h.2.2.2
  rcases Nat.lt_or_gt_of_ne e with h1 | h1
  · exact hp i j hi hj h1
  · exact (hp j i hj hi h1).symm
/-- Two elements exchanged. -/
theorem OwnV.swap {w W : World} {base G n c a b : Nat} {L : List El} {g1 g2 : Bool} {v1 v2 u1 u2 : Value} {n1 n2 m1 m2 : Nat} {xs1 xs2 ys1 ys2 : List Value} (h : OwnV w base (.slice (some ⟨G, 0, none⟩) n c) n L) (_hab : a ≠ b)
    (ha : L[a]? = some ⟨g1, v1, n1, xs1, u1, m1, ys1⟩) (hb : L[b]? = some ⟨g2, v2, n2, xs2, u2, m2, ys2⟩)
    (hW : W = (((((w.setCell ⟨G, a * 3, none⟩ (.bool g2)).setCell ⟨G, a * 3 + 1, none⟩ v2).setCell ⟨G, a * 3 + 2, none⟩ u2).setCell ⟨G, b * 3, none⟩ (.bool g1)).setCell ⟨G, b * 3 + 1, none⟩ v1).setCell ⟨G, b * 3 + 2, none⟩ u1) :
    OwnV W base (.slice (some ⟨G, 0, none⟩) n c) n ((L.set a ⟨g2, v2, n2, xs2, u2, m2, ys2⟩).set b ⟨g1, v1, n1, xs1, u1, m1, ys1⟩) ∧ Wrote (fun k => k = G) w W := by
  obtain ⟨hal, hae⟩ := List.getElem?_eq_some_iff.1 ha
  obtain ⟨hbl, hbe⟩ := List.getElem?_eq_some_iff.1 hb
  have hWr : Wrote (fun k => k = G) w W := by
    subst hW
    exact ((((((Wrote.refl (fun k => k = G) w).setCell (p := ⟨G, a * 3, none⟩) rfl _).setCell (p := ⟨G, a * 3 + 1, none⟩) rfl _).setCell (p := ⟨G, a * 3 + 2, none⟩) rfl _).setCell (p := ⟨G, b * 3, none⟩) rfl _).setCell (p := ⟨G, b * 3 + 1, none⟩) rfl _).setCell (p := ⟨G, b * 3 + 2, none⟩) rfl _
  have hmem : ∀ x ∈ (L.set a ⟨g2, v2, n2, xs2, u2, m2, ys2⟩).set b ⟨g1, v1, n1, xs1, u1, m1, ys1⟩, x ∈ L := fun x hx => by
    rcases List.mem_or_eq_of_mem_set hx with hx | rfl
    · rcases List.mem_or_eq_of_mem_set hx with hx | rfl
      · exact hx
      · exact List.mem_of_getElem? hb
    · exact List.mem_of_getElem? ha
  refine ⟨⟨by simp [h.1], ?_, fun x hx => ?_, ?_⟩, hWr⟩
  · rw [flat_set _ _ _ (by simpa using hbl), flat_set _ _ _ hal]
    subst hW
    exact ((((((h.2.1.stored _ _).1.stored _ _).1.stored _ _).1.stored _ _).1.stored _ _).1.stored _ _).1
  · have hx := h.2.2.1 x (hmem x hx)
    exact hx.dep fun k hk => hWr.block k (hx.lt k hk).2 fun e => by subst e; exact el_other hx h.2.1 (by decide) k hk rfl
  · rw [List.pairwise_iff_getElem]
    have key : ∀ i (hi : i < ((L.set a ⟨g2, v2, n2, xs2, u2, m2, ys2⟩).set b ⟨g1, v1, n1, xs1, u1, m1, ys1⟩).length), ∃ i', ∃ h' : i' < L.length, ((L.set a ⟨g2, v2, n2, xs2, u2, m2, ys2⟩).set b ⟨g1, v1, n1, xs1, u1, m1, ys1⟩)[i] = L[i'] ∧ ((i = b ∧ i' = a) ∨ (i = a ∧ i' = b) ∨ (i ≠ a ∧ i ≠ b ∧ i' = i)) := by
      intro i hi
      rw [List.getElem_set]
      by_cases e : b = i
      · exact ⟨a, hal, by rw [if_pos e, hae], .inl ⟨e.symm, rfl⟩⟩
      · rw [List.getElem_set]
        by_cases e' : a = i
        · exact ⟨b, hbl, by rw [if_neg e, if_pos e', hbe], .inr (.inl ⟨e'.symm, rfl⟩)⟩
        · exact ⟨i, by simpa using hi, by rw [if_neg e, if_neg e'], .inr (.inr ⟨Ne.symm e', Ne.symm e, rfl⟩)⟩
    intro i j hi hj hij
    obtain ⟨i', hi', e1, c1⟩ := key i hi
    obtain ⟨j', hj', e2, c2⟩ := key j hj
    rw [e1, e2]
    exact h.far hi' hj' (by omega)
/-- What the walk asks of one element of a list of the call's own. -/
theorem OwnV.el {w : World} {base G n c i : Nat} {L : List El} (h : OwnV w base (.slice (some ⟨G, 0, none⟩) n c) n L) (hi : i < n) :
    ∃ g A k c' xs B m d ys, L[i]? = some (El.mk g (.slice A k c') k xs (.slice B m d) m ys) ∧ (w.cell? ⟨G, i * 3, none⟩ = some (.bool g) ∧ w.cell? ⟨G, i * 3 + 1, none⟩ = some (.slice A k c') ∧ w.cell? ⟨G, i * 3 + 2, none⟩ = some (.slice B m d)) ∧
      w.frozen? ⟨G, i * 3, none⟩ = false ∧ w.frozen? ⟨G, i * 3 + 1, none⟩ = false ∧ w.frozen? ⟨G, i * 3 + 2, none⟩ = false := by
  have hl : i < L.length := by rw [h.1]; exact hi
  obtain ⟨h0, h1, h2⟩ := h.cells hl
  obtain ⟨A, c', hA⟩ := own_slice (h.elem hl).1
  obtain ⟨B, d, hB⟩ := own_slice (h.elem hl).2.1
  have e : L[i] = El.mk L[i].g L[i].v L[i].n L[i].xs L[i].u L[i].m L[i].ys := rfl
  rw [hA, hB] at e
  rw [hA] at h1
  rw [hB] at h2
  exact ⟨_, A, _, c', _, B, _, d, _, by rw [List.getElem?_eq_getElem hl, e], ⟨h0, h1, h2⟩, h.frozen _, h.frozen _, h.frozen _⟩
theorem Has.get {L : List El} {rs : List RD} (h : Has L rs) {i : Nat} {e : El} (he : L[i]? = some e) : ∃ r, rs[i]? = some r ∧ e.has r := by
  obtain ⟨hl, rfl⟩ := List.getElem?_eq_some_iff.1 he
  have hr : i < rs.length := by rw [← h.length]; exact hl
  exact ⟨rs[i], List.getElem?_eq_getElem hr, h.at_ i hl hr⟩
theorem has_swap {L : List El} {rs : List RD} {a b : Nat} {e1 e2 : El} {r1 r2 : RD} (h : Has L rs) (ha : L[a]? = some e1) (hb : L[b]? = some e2) (ra : rs[a]? = some r1) (rb : rs[b]? = some r2) : Has ((L.set a e2).set b e1) ((rs.set a r2).set b r1) := by
  obtain ⟨q1, hq1, k1⟩ := h.get ha
  obtain ⟨q2, hq2, k2⟩ := h.get hb
  obtain rfl : q1 = r1 := by rw [ra] at hq1; exact (Option.some.inj hq1).symm
  obtain rfl : q2 = r2 := by rw [rb] at hq2; exact (Option.some.inj hq2).symm
  exact (h.set a k2).set b k1
theorem two_mats2 {w : World} {b b' : Nat} {t t' : TypeId} {x y z x' y' z' : Value} (h : Hid (Box w b t #[x, y, z])) (k : Hid (Box w b' t' #[x', y', z'])) :
    w.cell? ⟨b, 2, none⟩ = some z ∧ w.cell? ⟨b', 0, none⟩ = some x' ∧ w.cell? ⟨b', 1, none⟩ = some y' ∧ w.cell? ⟨b', 2, none⟩ = some z' := ⟨h.out.cell 2, k.out.cell 0, k.out.cell 1, k.out.cell 2⟩
theorem far_old {w1 w2 : World} {base b2 n m : Nat} {V V2 : Value} {L M : List El} (h : OwnV w1 base V n L) (k : OwnV w2 b2 V2 m M) (hb : w1.heap.size ≤ b2) : ∀ x ∈ L, ∀ y ∈ M, Far x y := fun x hx y hy j h1 h2 => by
  have a1 := ((h.2.2.1 x hx).lt j h1).2
  have a2 := ((k.2.2.1 y hy).lt j h2).1
  omega
theorem at3s {w : World} {b o : Nat} {x y z : Value} (h : Hid (At3 w b o x y z)) : w.cell? ⟨b, o, none⟩ = some x ∧ w.cell? ⟨b, o + 1, none⟩ = some y ∧ w.cell? ⟨b, o + 2, none⟩ = some z := h.out
/-- A row laid over another one. -/
theorem splice_row {P K n : Nat} {rs ss : List RD} (hl : rs.length = P * K) (hn : n < P) (hs : ss.length = K) : rs.take (n * K) ++ ss ++ rs.drop (n * K + K) = mk P K fun a b => if a = n then (ss[b]?).getD RD.zero else cell K rs a b := by
  have hr := row_le (K := K) hn
  refine mk_of (by simp only [List.length_append, List.length_take, List.length_drop]; omega) fun a b ha hb => ?_
  have ht : (rs.take (n * K)).length = n * K := by rw [List.length_take]; omega
  have hts : (rs.take (n * K) ++ ss).length = n * K + K := by rw [List.length_append, ht, hs]
  unfold cell
  rcases Nat.lt_trichotomy a n with h | h | h
  · have h1 := row_le (K := K) h
    rw [List.append_assoc, List.getElem?_append_left (by omega), List.getElem?_take_of_lt (by omega), if_neg (by omega)]
  · subst h
    rw [List.getElem?_append_left (by omega), List.getElem?_append_right (by omega), ht, if_pos rfl, Nat.add_sub_cancel_left]
  · have h1 : (n + 1) * K ≤ a * K := Nat.mul_le_mul_right K h
    rw [Nat.add_mul, Nat.one_mul] at h1
    rw [List.getElem?_append_right (by omega), hts, List.getElem?_drop, if_neg (by omega), show n * K + K + (a * K + b - (n * K + K)) = a * K + b by omega]
theorem has_splice {L M : List El} {rs ss : List RD} {o m : Nat} (h : Has L rs) (k : Has M ss) : Has (L.take o ++ M ++ L.drop (o + m)) (rs.take o ++ ss ++ rs.drop (o + m)) := ((h.take o).append k).append (h.drop (o + m))
section
variable {P : Program}
theorem run_copy_zero (w : World) (dT sT ty elem : TypeId) (A B : Option Addr) (dLen dCap sCap s : Nat) (hu : P.underlying dT = some (.slice elem)) (hs : (P.info? elem).map (·.size) = some s) :
    (Builtin.copy_ #[dT, sT] ty #[.slice A dLen dCap, .slice B 0 sCap]).run P w = .ok (goInt 0) w := by
  cases hq : P.info? elem with
  | none => simp [hq] at hs
  | some i =>
    cases B with
    | none => cases A <;> simp [Builtin.copy_, run_underlying hu, Builtin.lenOf, Builtin.firstCells, sizeOf, typeInfo, hq, storeCells]
    | some b =>
      have hl := run_loadCells_list (P := P) w b [] (fun j v h => by simp at h)
      simp at hl
      cases A <;> simp [Builtin.copy_, run_underlying hu, Builtin.lenOf, Builtin.firstCells, sizeOf, typeInfo, hq, hl, Result.andThen, storeCells]
/-- The walk over a copy out of an empty list. -/
theorem wpList_copy_zero {w : World} {ops : Array Oper} {rest : List Oper} {o : Oper} {a : Act} {Q : Exit → Act → World → Prop} (hgd : o.guard = none) (d s : Operand) (dT sT : TypeId)
    (ho : o.op = .call { callee := .builtin .copy, args := #[d, s], argTypes := #[dT, sT] }) (elem : TypeId) (hu : P.underlying dT = some (.slice elem)) (sz : Nat) (hsz : (P.info? elem).map (·.size) = some sz)
    (A B : Option Addr) (dl dc sc : Nat) (hd : a.eval d = .slice A dl dc) (hs : a.eval s = .slice B 0 sc)
    (k : wpList P ops Q rest (a.put o.dst (goInt 0)) w) : wpList P ops Q (o :: rest) a w := by
  refine wpList_plain hgd fun K hK => ?_
  have hrun := run_copy_zero (P := P) w dT sT o.type elem A B dl dc sc sz hu hsz
  unfold Oper.wp
  simp [execOp, ho, resolve, invoke, builtin, hd, hs, hrun, Result.andThen]
  exact hK _ _ k
end
/-- The blocks of these elements are those of the others, or new. -/
def FootIn (w : World) (L L' : List El) : Prop := ∀ x ∈ L', ∀ k, x.foot k → (∃ y ∈ L, y.foot k) ∨ w.heap.size ≤ k
theorem FootIn.refl (w : World) (L : List El) : FootIn w L L := fun x hx _ hk => .inl ⟨x, hx, hk⟩
theorem FootIn.swap {w : World} {L L1 : List El} {a b : Nat} {e1 e2 : El} (h : FootIn w L L1) (ha : L1[a]? = some e1) (hb : L1[b]? = some e2) : FootIn w L ((L1.set a e2).set b e1) := fun x hx k hk => by
  refine h x ?_ k hk
  rcases List.mem_or_eq_of_mem_set hx with hx | rfl
  · rcases List.mem_or_eq_of_mem_set hx with hx | rfl
    · exact hx
    · exact List.mem_of_getElem? hb
  · exact List.mem_of_getElem? ha
theorem FootIn.splice {w w2 : World} {L L1 M : List El} {b2 m o q : Nat} {V : Value} (h : FootIn w L L1) (hM : OwnV w2 b2 V m M) (hb : w.heap.size ≤ b2) : FootIn w L (L1.take o ++ (M ++ L1.drop q)) := fun x hx k hk => by
  rcases List.mem_append.1 hx with hx | hx
  · exact h x (List.mem_of_mem_take hx) k hk
  · rcases List.mem_append.1 hx with hx | hx
    · exact .inr (Nat.le_trans hb ((hM.2.2.1 x hx).lt k hk).1)
    · exact h x (List.mem_of_mem_drop hx) k hk
theorem FootIn.trans {w w' : World} {L L1 L2 : List El} (h : FootIn w L L1) (k : FootIn w' L1 L2) (hs : w.heap.size ≤ w'.heap.size) : FootIn w L L2 := fun x hx j hj => by
  rcases k x hx j hj with ⟨y, hy, hyj⟩ | h1
  · exact h y hy j hyj
  · exact .inr (Nat.le_trans hs h1)
/-- What a function leaves that changes a matrix in place. -/
def Changed (base : Nat) (G n c : Nat) (L : List El) (zs : List RD) (w w' : World) : Prop := (∃ L', OwnV w' base (.slice (some ⟨G, 0, none⟩) n c) n L' ∧ Has L' zs ∧ FootIn w L L') ∧ Wrote (fun k => k = G) w w'
def UnitEnd (Q : Prop) (e : Ending) : Prop := e = .returned (.tuple #[]) ∧ Q
end Go.Proofs.YthjbfdifeffilaaGreat
