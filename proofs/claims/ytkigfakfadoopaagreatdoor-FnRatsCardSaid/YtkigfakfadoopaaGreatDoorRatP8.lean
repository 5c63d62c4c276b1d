/- Contract of ParseRat, by the program: the table of small fractions, filled in whatever order; looked up. -/
import Derived.Test.YtkigfakfadoopaaGreatDoorRatP7
import Derived.Maps.Own
import Derived.Maps.OwnSet
import Derived.DeepKeys4
import Derived.RegionTactic
namespace Go.Proofs.YtkigfakfadoopaaGreatDoor
set_option maxRecDepth 100000
open Go.RowKit Go.ChangeMaps
open Go.Maps (Keyed)

section
variable {P : Program} {k e t : TypeId} {T : Value → Value → Prop}
/-- Block b is a map whose entries are all of T. -/
def TabAt (P : Program) (k : TypeId) (T : Value → Value → Prop) (w0 : World) (b : Nat) (w : World) : Prop :=
  (∃ es clock, w.heap[b]? = some (.map es clock) ∧ ∀ x ∈ es.toList, (∃ l, keyOf P k x.key = some l) ∧ T x.key x.val) ∧ Below w0.heap.size w0 w ∧ w0.heap.size ≤ b
theorem TabAt.below {w0 w w' : World} {b : Nat} (h : TabAt P k T w0 b w) (hb : Below w.heap.size w w') : TabAt P k T w0 b w' := by
  obtain ⟨⟨es, clock, h1, h2⟩, h3, h4⟩ := h
  have hlt : b < w.heap.size := by
    rcases Nat.lt_or_ge b w.heap.size with h | h
    · exact h
    · rw [Array.getElem?_eq_none h] at h1; cases h1
  exact ⟨⟨es, clock, (hb.block b hlt).trans h1, h2⟩, h3.trans (hb.mono h3.size), h4⟩
theorem TabAt.insert {w0 w : World} {b : Nat} (h : TabAt P k T w0 b w) (K : Keyed P k) (ht : P.underlying t = some (.map k e)) {key val : Value} (hkey : ∃ l, keyOf P k key = some l) (hin : T key val) :
    ∃ w', (Instr.mapUpdate t (.map (some b)) key val).run P w = .ok () w' ∧ TabAt P k T w0 b w' := by
  obtain ⟨⟨es, clock, hb, hes⟩, hB, hbase⟩ := h
  obtain ⟨l, hl⟩ := hkey
  have below : ∀ o, Below w0.heap.size w0 (setBlock w b o) := fun o => ⟨hB.os, hB.tape, hB.output, by have := hB.size; simp [setBlock]; omega, fun i hi => by
    have h1 := heap_setBlock_other hb o (i := i) (by omega)
    rw [h1]; exact hB.block i hi⟩
  rcases K.find w hl es.toList (fun x hx => (hes x hx).1) with ⟨h1, h2⟩ | ⟨j, e0, h1, h2, h3⟩
  · refine ⟨_, by simp [Instr.mapUpdate, run_underlying ht, MapKept.run_getObj_map hb, K.check w false hl, h1, MapKept.run_setObj_map _ hb, Result.andThen]; rfl, ⟨_, _, heap_setBlock_same hb _, fun x hx => ?_⟩, below _, hbase⟩
    simp only [Array.toList_push, List.mem_append, List.mem_singleton] at hx
    rcases hx with hx | rfl
    · exact hes x hx
    · exact ⟨⟨l, hl⟩, hin⟩
  · have hj : es[j]? = some e0 := by simpa using h2
    refine ⟨_, by simp [Instr.mapUpdate, run_underlying ht, MapKept.run_getObj_map hb, K.check w false hl, h1, hj, h3, K.stays w hl, MapKept.run_setObj_map _ hb, Result.andThen]; rfl, ⟨_, _, heap_setBlock_same hb _, fun x hx => ?_⟩, below _, hbase⟩
    obtain ⟨i, hi, rfl⟩ := List.mem_iff_getElem.1 hx
    simp only [Array.getElem_toList, Array.getElem_modify]
    split
    · exact ⟨⟨l, hl⟩, hin⟩
    · exact hes _ (by simp)
/-- A look-up in such a map: nothing, or what T has. -/
theorem TabAt.look {w0 w : World} {b : Nat} (h : TabAt P k T w0 b w) (K : Keyed P k) (ht : P.underlying t = some (.map k e)) {key z : Value} (hkey : ∃ l, keyOf P k key = some l) (hz : ∀ w, (zeroValue e).run P w = .ok z w) :
    ∃ v q, (Instr.lookup t (.map (some b)) key true).run P w = .ok (.tuple #[v, .bool q]) w ∧ ((q = true ∧ T key v) ∨ (q = false ∧ v = z)) := by
  obtain ⟨⟨es, clock, hb, hes⟩, hB, hbase⟩ := h
  obtain ⟨l, hl⟩ := hkey
  rcases K.find w hl es.toList (fun x hx => (hes x hx).1) with ⟨h1, h2⟩ | ⟨j, e0, h1, h2, h3⟩
  · exact ⟨z, false, by simp [Instr.lookup, run_underlying ht, MapKept.run_getObj_map hb, K.check w _ hl, h1, hz, Result.andThen], .inr ⟨rfl, rfl⟩⟩
  · refine ⟨e0.val, true, by simp [Instr.lookup, run_underlying ht, MapKept.run_getObj_map hb, K.check w _ hl, h1, Result.andThen], .inl ⟨rfl, ?_⟩⟩
    have := (hes e0 (List.mem_of_getElem? h2)).2
    rwa [h3] at this
end
/-! A bag of seven operations that come up in whatever order. -/
def lst (b0 b1 b2 b3 b4 b5 b6 : Bool) : Array Bool := #[true, true, true, b0, true, true, b1, true, true, b2, true, true, b3, true, true, b4, true, true, b5, true, true, b6, false, false]
def rdy (b0 b1 b2 b3 b4 b5 b6 : Bool) : List Nat :=
  (bif b0 then [] else [3]) ++ (bif b1 then [] else [6]) ++ (bif b2 then [] else [9]) ++ (bif b3 then [] else [12]) ++ (bif b4 then [] else [15]) ++ (bif b5 then [] else [18]) ++ (bif b6 then [] else [21]) ++ (bif (b0 && b1 && b2 && b3 && b4 && b5 && b6) then [22] else [])
def cnt (b0 b1 b2 b3 b4 b5 b6 : Bool) : Nat := (!b0).toNat + (!b1).toNat + (!b2).toNat + (!b3).toNat + (!b4).toNat + (!b5).toNat + (!b6).toNat
theorem rdy_ne : ∀ b0 b1 b2 b3 b4 b5 b6, rdy b0 b1 b2 b3 b4 b5 b6 ≠ [] := by
  intro b0 b1 b2 b3 b4 b5 b6
  cases b0 <;> cases b1 <;> cases b2 <;> cases b3 <;> cases b4 <;> cases b5 <;> cases b6 <;> decide
theorem rdy_mem : ∀ b0 b1 b2 b3 b4 b5 b6, cnt b0 b1 b2 b3 b4 b5 b6 ≠ 0 → ∀ i ∈ rdy b0 b1 b2 b3 b4 b5 b6,
    (i = 3 ∧ b0 = false) ∨ (i = 6 ∧ b1 = false) ∨ (i = 9 ∧ b2 = false) ∨ (i = 12 ∧ b3 = false) ∨ (i = 15 ∧ b4 = false) ∨ (i = 18 ∧ b5 = false) ∨ (i = 21 ∧ b6 = false) := by
  intro b0 b1 b2 b3 b4 b5 b6
  cases b0 <;> cases b1 <;> cases b2 <;> cases b3 <;> cases b4 <;> cases b5 <;> cases b6 <;> decide
theorem cnt_all : ∀ b0 b1 b2 b3 b4 b5 b6, cnt b0 b1 b2 b3 b4 b5 b6 = 0 → b0 = true ∧ b1 = true ∧ b2 = true ∧ b3 = true ∧ b4 = true ∧ b5 = true ∧ b6 = true := by
  intro b0 b1 b2 b3 b4 b5 b6
  cases b0 <;> cases b1 <;> cases b2 <;> cases b3 <;> cases b4 <;> cases b5 <;> cases b6 <;> decide
theorem bag {P : Program} {ops : Array Oper} {Q : Exit → Act → World → Prop} {a : Act} {I : World → Prop} (hr : ∀ b0 b1 b2 b3 b4 b5 b6, Region.ready .any ops (lst b0 b1 b2 b3 b4 b5 b6) = rdy b0 b1 b2 b3 b4 b5 b6)
    (st : ∀ i, i = 3 ∨ i = 6 ∨ i = 9 ∨ i = 12 ∨ i = 15 ∨ i = 18 ∨ i = 21 → ∀ (w : World) (K : Act → World → Prop), I w → (∀ w', I w' → K a w') → wpOp P ops Q i K a w)
    (fin : ∀ w, I w → wpAny P .any ops Q 2 (lst true true true true true true true) a w) :
    ∀ k b0 b1 b2 b3 b4 b5 b6 w, cnt b0 b1 b2 b3 b4 b5 b6 = k → I w → wpAny P .any ops Q (2 + k) (lst b0 b1 b2 b3 b4 b5 b6) a w
  | 0, b0, b1, b2, b3, b4, b5, b6, w, hc, hI => by
    obtain ⟨rfl, rfl, rfl, rfl, rfl, rfl, rfl⟩ := cnt_all _ _ _ _ _ _ _ hc
    exact fin w hI
  | k + 1, b0, b1, b2, b3, b4, b5, b6, w, hc, hI => by
    have ih := bag hr st fin k
    refine ⟨fun h => absurd ((hr ..).symm.trans h) (rdy_ne _ _ _ _ _ _ _), fun i hi => ?_⟩
    rw [hr] at hi
    unfold cnt at hc ih
    rcases rdy_mem b0 b1 b2 b3 b4 b5 b6 (by unfold cnt; omega) i hi with ⟨rfl, rfl⟩ | ⟨rfl, rfl⟩ | ⟨rfl, rfl⟩ | ⟨rfl, rfl⟩ | ⟨rfl, rfl⟩ | ⟨rfl, rfl⟩ | ⟨rfl, rfl⟩
    · exact st 3 (by omega) w _ hI fun w' hI' => ih true b1 b2 b3 b4 b5 b6 w' (by simp at hc ⊢; omega) hI'
    · exact st 6 (by omega) w _ hI fun w' hI' => ih b0 true b2 b3 b4 b5 b6 w' (by simp at hc ⊢; omega) hI'
    · exact st 9 (by omega) w _ hI fun w' hI' => ih b0 b1 true b3 b4 b5 b6 w' (by simp at hc ⊢; omega) hI'
    · exact st 12 (by omega) w _ hI fun w' hI' => ih b0 b1 b2 true b4 b5 b6 w' (by simp at hc ⊢; omega) hI'
    · exact st 15 (by omega) w _ hI fun w' hI' => ih b0 b1 b2 b3 true b5 b6 w' (by simp at hc ⊢; omega) hI'
    · exact st 18 (by omega) w _ hI fun w' hI' => ih b0 b1 b2 b3 b4 true b6 w' (by simp at hc ⊢; omega) hI'
    · exact st 21 (by omega) w _ hI fun w' hI' => ih b0 b1 b2 b3 b4 b5 true w' (by simp at hc ⊢; omega) hI'
/-- An insertion, as one operation of a region. -/
theorem ins_step {P : Program} {ops : Array Oper} {Q : Exit → Act → World → Prop} {i : Nat} {o : Oper} {a : Act} {w w0 : World} {K : Act → World → Prop} {k e t : TypeId} {T : Value → Value → Prop} {b : Nat} (ho : ops[i]? = some o) (hw : Region.wanted o (yielded ops a.tmps) = true) (hd : o.dst = none) {m x v : Operand} (hop : o.op = .insert t m x v)
    (KL : Keyed P k) (ht : P.underlying t = some (.map k e)) (hm : a.eval m = .map (some b)) {key val : Value} (hx : a.eval x = key) (hv : a.eval v = val) (hkey : ∃ l, keyOf P k key = some l) (hin : T key val) (hT : TabAt P k T w0 b w) (hK : ∀ w', TabAt P k T w0 b w' → K a w') : wpOp P ops Q i K a w := by
  obtain ⟨w', hrun, hT'⟩ := hT.insert KL ht hkey hin
  refine wpOp_step ho fun K' hK' => ?_
  rw [if_pos hw]
  unfold Oper.wp
  simp [execOp, hop, hm, hx, hv, hrun, Result.andThen]
  show K' (a.put o.dst undef) w'
  rw [hd]
  exact hK' _ _ (hK w' hT')
/-- A key of two strings is read. -/
theorem key_two {P : Program} {k s : TypeId} {f0 f1 : Field} {m : Nat} (hk : P.underlying k = some (.struct #[f0, f1])) (h1 : P.keyType k = true) (h2 : P.cellsOf k = 2) (hm : P.types.size = m + 1) (t0 : f0.type = s) (t1 : f1.type = s) (o0 : f0.offset = 0) (o1 : f1.offset = 1) (n0 : (f0.name != "_") = true) (n1 : (f1.name != "_") = true)
    (hs : P.underlying s = some .string) (hc : P.cellsOf s = 1) {a b : ByteArray} (ha : a.size ≤ maxLen) (hb : b.size ≤ maxLen) : ∃ l, keyOf P k (.agg #[.string a, .string b]) = some l := by
  have n0' : f0.name ≠ "_" := by simpa using n0
  have n1' : f1.name ≠ "_" := by simpa using n1
  simp [keyOf, hk, h1, Value.formed, h2, Program.keyLits, hm, Value.cells, hc, hs, ha, hb, t0, t1, o0, o1, n0', n1']
theorem laidOutP : laidOutB Tryz.prog = true := by kernel_rfl
theorem keyLaw : Keyed Tryz.prog 45 := Keyed.of_law (deep_law_laid laidOutP (m := 3) (by omega) (of_decide_eq_true (by kernel_rfl)) (by kernel_rfl) (by kernel_rfl))
theorem key_reads {a b : ByteArray} (ha : a.size ≤ maxLen) (hb : b.size ≤ maxLen) : ∃ l, keyOf Tryz.prog 45 (.agg #[.string a, .string b]) = some l :=
  key_two Tryz.underlying45 (by kernel_rfl) (by kernel_rfl) (m := Tryz.prog.types.size - 1) (by kernel_rfl) rfl rfl rfl rfl rfl rfl Tryz.underlying9 (by kernel_rfl) ha hb
/-- The rows of the table. -/
def SmallIs (a b : ByteArray) (x y : Int) : Prop :=
  (a = ⟨#[48]⟩ ∧ b = ⟨#[49]⟩ ∧ x = 0 ∧ y = 1) ∨ (a = ⟨#[49]⟩ ∧ b = ⟨#[49]⟩ ∧ x = 1 ∧ y = 1) ∨ (a = ⟨#[45, 49]⟩ ∧ b = ⟨#[49]⟩ ∧ x = -1 ∧ y = 1) ∨ (a = ⟨#[50]⟩ ∧ b = ⟨#[49]⟩ ∧ x = 2 ∧ y = 1) ∨
    (a = ⟨#[45, 50]⟩ ∧ b = ⟨#[49]⟩ ∧ x = -2 ∧ y = 1) ∨ (a = ⟨#[49]⟩ ∧ b = ⟨#[50]⟩ ∧ x = 1 ∧ y = 2) ∨ (a = ⟨#[45, 49]⟩ ∧ b = ⟨#[50]⟩ ∧ x = -1 ∧ y = 2)
def SmallT (key val : Value) : Prop := ∃ a b x y, key = .agg #[.string a, .string b] ∧ val = .agg #[.int .i64 x, .int .i64 y] ∧ SmallIs a b x y
def SmallMEnd (w w' : World) (e : Ending) : Prop := ∃ b, e = .returned (.map (some b)) ∧ TabAt Tryz.prog 45 SmallT w b w'
set_option maxHeartbeats 1600000 in
theorem impl_smallRats (w : World) : Calls Tryz.prog 23 #[] w fun e w' => SmallMEnd w w' e := by
  go_enter Tryz.func23, Tryz.ntmps23
  go_wp2_with fail
  refine wp_region_any (by kernel_rfl) ?_
  refine wpAny_take (i := 1) (v := .agg #[.string ⟨#[48]⟩, .string ⟨#[49]⟩]) rfl (by kernel_rfl) (by kernel_rfl) (by kernel_rfl) (fun _ _ _ h => h) (Or.inl ⟨by rfl, fun w => by go_simp⟩) ?_
  simp only [Act.put]
  refine wpAny_take (i := 2) (v := .agg #[.int .i64 0, .int .i64 1]) rfl (by kernel_rfl) (by kernel_rfl) (by kernel_rfl) (fun _ _ _ h => h) (Or.inl ⟨by rfl, fun w => by go_simp⟩) ?_
  simp only [Act.put]
  refine wpAny_take (i := 4) (v := .agg #[.string ⟨#[49]⟩, .string ⟨#[49]⟩]) rfl (by kernel_rfl) (by kernel_rfl) (by kernel_rfl) (fun _ _ _ h => h) (Or.inl ⟨by rfl, fun w => by go_simp⟩) ?_
  simp only [Act.put]
  refine wpAny_take (i := 5) (v := .agg #[.int .i64 1, .int .i64 1]) rfl (by kernel_rfl) (by kernel_rfl) (by kernel_rfl) (fun _ _ _ h => h) (Or.inl ⟨by rfl, fun w => by go_simp⟩) ?_
  simp only [Act.put]
  refine wpAny_take (i := 7) (v := .agg #[.string ⟨#[45, 49]⟩, .string ⟨#[49]⟩]) rfl (by kernel_rfl) (by kernel_rfl) (by kernel_rfl) (fun _ _ _ h => h) (Or.inl ⟨by rfl, fun w => by go_simp⟩) ?_
  simp only [Act.put]
  refine wpAny_take (i := 8) (v := .agg #[.int .i64 (-1), .int .i64 1]) rfl (by kernel_rfl) (by kernel_rfl) (by kernel_rfl) (fun _ _ _ h => h) (Or.inl ⟨by rfl, fun w => by go_simp⟩) ?_
  simp only [Act.put]
  refine wpAny_take (i := 10) (v := .agg #[.string ⟨#[50]⟩, .string ⟨#[49]⟩]) rfl (by kernel_rfl) (by kernel_rfl) (by kernel_rfl) (fun _ _ _ h => h) (Or.inl ⟨by rfl, fun w => by go_simp⟩) ?_
  simp only [Act.put]
  refine wpAny_take (i := 11) (v := .agg #[.int .i64 2, .int .i64 1]) rfl (by kernel_rfl) (by kernel_rfl) (by kernel_rfl) (fun _ _ _ h => h) (Or.inl ⟨by rfl, fun w => by go_simp⟩) ?_
  simp only [Act.put]
  refine wpAny_take (i := 13) (v := .agg #[.string ⟨#[45, 50]⟩, .string ⟨#[49]⟩]) rfl (by kernel_rfl) (by kernel_rfl) (by kernel_rfl) (fun _ _ _ h => h) (Or.inl ⟨by rfl, fun w => by go_simp⟩) ?_
  simp only [Act.put]
  refine wpAny_take (i := 14) (v := .agg #[.int .i64 (-2), .int .i64 1]) rfl (by kernel_rfl) (by kernel_rfl) (by kernel_rfl) (fun _ _ _ h => h) (Or.inl ⟨by rfl, fun w => by go_simp⟩) ?_
  simp only [Act.put]
  refine wpAny_take (i := 16) (v := .agg #[.string ⟨#[49]⟩, .string ⟨#[50]⟩]) rfl (by kernel_rfl) (by kernel_rfl) (by kernel_rfl) (fun _ _ _ h => h) (Or.inl ⟨by rfl, fun w => by go_simp⟩) ?_
  simp only [Act.put]
  refine wpAny_take (i := 17) (v := .agg #[.int .i64 1, .int .i64 2]) rfl (by kernel_rfl) (by kernel_rfl) (by kernel_rfl) (fun _ _ _ h => h) (Or.inl ⟨by rfl, fun w => by go_simp⟩) ?_
  simp only [Act.put]
  refine wpAny_take (i := 19) (v := .agg #[.string ⟨#[45, 49]⟩, .string ⟨#[50]⟩]) rfl (by kernel_rfl) (by kernel_rfl) (by kernel_rfl) (fun _ _ _ h => h) (Or.inl ⟨by rfl, fun w => by go_simp⟩) ?_
  simp only [Act.put]
  refine wpAny_take (i := 20) (v := .agg #[.int .i64 (-1), .int .i64 2]) rfl (by kernel_rfl) (by kernel_rfl) (by kernel_rfl) (fun _ _ _ h => h) (Or.inl ⟨by rfl, fun w => by go_simp⟩) ?_
  simp only [Act.put]
  refine wpAny_ready (rs := [0]) (by kernel_rfl) (by simp) (AllReady.cons rfl (fun K hK => ?_) AllReady.nil)
  go_simp
  refine hK _ _ ?_
  refine bag (I := TabAt Tryz.prog 45 SmallT w w.heap.size) ?hr ?st ?fin 7 false false false false false false false _ rfl ?hI
  case hr =>
    intro b0 b1 b2 b3 b4 b5 b6
    cases b0 <;> cases b1 <;> cases b2 <;> cases b3 <;> cases b4 <;> cases b5 <;> cases b6 <;> kernel_rfl
  case st =>
    rintro i (rfl | rfl | rfl | rfl | rfl | rfl | rfl) w' K hI hK
    · exact ins_step (P := Tryz.prog) rfl (by rfl) rfl rfl keyLaw Tryz.underlying50 rfl rfl rfl (key_reads (by decide) (by decide)) ⟨_, _, _, _, rfl, rfl, by unfold SmallIs; simp⟩ hI hK
    · exact ins_step (P := Tryz.prog) rfl (by rfl) rfl rfl keyLaw Tryz.underlying50 rfl rfl rfl (key_reads (by decide) (by decide)) ⟨_, _, _, _, rfl, rfl, by unfold SmallIs; simp⟩ hI hK
    · exact ins_step (P := Tryz.prog) rfl (by rfl) rfl rfl keyLaw Tryz.underlying50 rfl rfl rfl (key_reads (by decide) (by decide)) ⟨_, _, _, _, rfl, rfl, by unfold SmallIs; simp⟩ hI hK
    · exact ins_step (P := Tryz.prog) rfl (by rfl) rfl rfl keyLaw Tryz.underlying50 rfl rfl rfl (key_reads (by decide) (by decide)) ⟨_, _, _, _, rfl, rfl, by unfold SmallIs; simp⟩ hI hK
    · exact ins_step (P := Tryz.prog) rfl (by rfl) rfl rfl keyLaw Tryz.underlying50 rfl rfl rfl (key_reads (by decide) (by decide)) ⟨_, _, _, _, rfl, rfl, by unfold SmallIs; simp⟩ hI hK
    · exact ins_step (P := Tryz.prog) rfl (by rfl) rfl rfl keyLaw Tryz.underlying50 rfl rfl rfl (key_reads (by decide) (by decide)) ⟨_, _, _, _, rfl, rfl, by unfold SmallIs; simp⟩ hI hK
    · exact ins_step (P := Tryz.prog) rfl (by rfl) rfl rfl keyLaw Tryz.underlying50 rfl rfl rfl (key_reads (by decide) (by decide)) ⟨_, _, _, _, rfl, rfl, by unfold SmallIs; simp⟩ hI hK
  case hI => exact ⟨⟨_, _, (MapKept.heap_alloc _ _).1, by simp⟩, (Below.refl _ _).drew.alloc (Nat.le_refl _) _, Nat.le_refl _⟩
  case fin =>
    intro w' hI
    have HI := Lib.hid hI
    clear hI
    refine wpAny_ready (rs := [22]) (by kernel_rfl) (by simp) (AllReady.cons rfl (fun K hK => ?_) AllReady.nil)
    go_simp
    refine hK _ _ ?_
    refine wpAny_ready (rs := [23]) (by kernel_rfl) (by simp) (AllReady.cons rfl (fun K hK => ?_) AllReady.nil)
    go_simp
    refine hK _ _ ?_
    refine wpAny_done (by kernel_rfl) ?_ _
    go_wp2_with fail
    go_ret
    exact ⟨_, rfl, HI.out⟩
end Go.Proofs.YtkigfakfadoopaaGreatDoor
