/- Structures in memory: lists of joints and of members that may be read, or are of the call's own. -/
import Derived.Test.YtipmeijfmiiedaaStD
import Derived.Test.YtipmeijfmiiedaaLpM
namespace Go.Proofs.Ytipmeijfmiiedaa
set_option maxRecDepth 100000
open Go.RowKit

theorem Try.infoJ : (Try.prog.info? 79).map (fun i => (i.zero, i.size, i.bytes)) = some (some (.agg #[.string ByteArray.empty, .int .i64 0, .int .i64 0, .bool false]), 4, 40) := by kernel_rfl
theorem Try.infoM : (Try.prog.info? 99).map (fun i => (i.zero, i.size, i.bytes)) = some (some (.agg #[.int .i64 0, .int .i64 0, .int .i64 0]), 3, 24) := by kernel_rfl
def jtot (js : List JD) : Nat := (js.map (·.name.size)).sum
theorem jtot_take_succ {js : List JD} {i : Nat} {j : JD} (h : js[i]? = some j) : jtot (js.take (i + 1)) = jtot (js.take i) + j.name.size := by
  obtain ⟨hi, rfl⟩ := List.getElem?_eq_some_iff.1 h
  simp only [jtot, List.take_succ_eq_append_getElem hi, List.map_append, List.sum_append, List.map_cons, List.map_nil, List.sum_cons, List.sum_nil, Nat.add_zero]
theorem jtot_at {js : List JD} {j : JD} (h : j ∈ js) : j.name.size ≤ jtot js := by
  unfold jtot
  induction js with
  | nil => cases h
  | cons a l ih =>
    rw [List.map_cons, List.sum_cons]
    rcases List.mem_cons.1 h with rfl | h
    · omega
    · have := ih h; omega
/-- An element at place o of block b. -/
def AtJ (w : World) (b o : Nat) (j : JD) : Prop := w.cell? ⟨b, o, none⟩ = some (.string j.name) ∧ w.cell? ⟨b, o + 1, none⟩ = some (.int .i64 j.x) ∧ w.cell? ⟨b, o + 2, none⟩ = some (.int .i64 j.y) ∧ w.cell? ⟨b, o + 3, none⟩ = some (.bool j.fixed)
theorem AtJ.below {w w' : World} {b o : Nat} {j : JD} (h : AtJ w b o j) (hlt : b < w.heap.size) (hb : Below w.heap.size w w') : AtJ w' b o j := ⟨(hb.cell (p := ⟨b, o, none⟩) hlt).trans h.1, (hb.cell (p := ⟨b, o + 1, none⟩) hlt).trans h.2.1, (hb.cell (p := ⟨b, o + 2, none⟩) hlt).trans h.2.2.1, (hb.cell (p := ⟨b, o + 3, none⟩) hlt).trans h.2.2.2⟩
theorem AtJ.drew {w : World} {b o : Nat} {j : JD} (h : AtJ w b o j) : AtJ w.drew b o j := h
theorem Reads.atJ {w : World} {A : Option Addr} {js : List JD} {i : Nat} (h : Reads w A (jcells js)) (hi : i < js.length) : ∃ b o, A = some ⟨b, o, none⟩ ∧ b < w.heap.size ∧ ∃ j, js[i]? = some j ∧ AtJ w b (o + i * 4) j := by
  have hl := jcells_length js
  obtain ⟨b, o, hA, hlt, hc⟩ := h.at_ (by omega)
  refine ⟨b, o, hA, hlt, js[i], List.getElem?_eq_getElem hi, ?_⟩
  have hat := jcells_at js i js[i] (List.getElem?_eq_getElem hi)
  have key : ∀ k v, (jcells js)[i * 4 + k]? = some v → w.cell? ⟨b, o + i * 4 + k, none⟩ = some v := fun k v hv => by
    obtain ⟨hk, he⟩ := List.getElem?_eq_some_iff.1 hv
    rw [Nat.add_assoc, hc _ hk, he]
  exact ⟨key 0 _ hat.1, key 1 _ hat.2.1, key 2 _ hat.2.2.1, key 3 _ hat.2.2.2⟩
def JFit (j : JD) : Prop := j.name.size ≤ 1048576 ∧ (-9223372036854775808 ≤ j.x ∧ j.x ≤ 9223372036854775807) ∧ -9223372036854775808 ≤ j.y ∧ j.y ≤ 9223372036854775807
/-- A list that may be read. -/
def InJ (w : World) (A : Option Addr) (n : Nat) (js : List JD) : Prop := js.length = n ∧ n ≤ 1048576 ∧ Reads w A (jcells js) ∧ ∀ j ∈ js, JFit j
theorem InJ.at_ {w : World} {A : Option Addr} {n : Nat} {js : List JD} (h : InJ w A n js) (i : Nat) (hi : i < n) : ∃ b o, A = some ⟨b, o, none⟩ ∧ b < w.heap.size ∧ ∃ j, js[i]? = some j ∧ AtJ w b (o + i * 4) j ∧ JFit j := by
  obtain ⟨b, o, h1, h2, j, h3, h4⟩ := h.2.2.1.atJ (i := i) (by rw [h.1]; exact hi)
  exact ⟨b, o, h1, h2, j, h3, h4, h.2.2.2 j (List.mem_of_getElem? h3)⟩
theorem InJ.below {w w' : World} {A : Option Addr} {n : Nat} {js : List JD} (h : InJ w A n js) (hb : Below w.heap.size w w') : InJ w' A n js := ⟨h.1, h.2.1, h.2.2.1.below hb, h.2.2.2⟩
theorem InJ.drew {w : World} {A : Option Addr} {n : Nat} {js : List JD} (h : InJ w A n js) : InJ w.drew A n js := h
theorem reads_ownJ {w : World} {base : Nat} {E : TypeId} {A : Option Addr} {n c : Nat} {js : List JD} (h : w.ownsRow base E 4 (.slice A n c) n (jcells js)) : Reads w A (jcells js) := by
  rcases h.2 with ⟨hv, rfl⟩ | ⟨g, cap, cur, hv, _⟩
  · have := h.1
    exact .inl (List.eq_nil_of_length_eq_zero (by simpa using this))
  · cases hv
    by_cases h0 : n = 0
    · subst h0
      have := h.1
      exact .inl (List.eq_nil_of_length_eq_zero (by simpa using this))
    refine .inr ⟨g, 0, rfl, (h.lt g rfl).2, fun j hj => ?_⟩
    have h1 := h.1
    rw [Nat.zero_add, h.cellAt j (by omega), List.getElem?_eq_getElem hj]
theorem own_lenJ {w : World} {base : Nat} {E : TypeId} {v : Value} {n : Nat} {js : List JD} (h : w.ownsRow base E 4 v n (jcells js)) : js.length = n := by
  have := h.1
  rw [jcells_length] at this
  omega
/-- An element at place o of block b. -/
def AtM (w : World) (b o : Nat) (j : MD) : Prop := w.cell? ⟨b, o, none⟩ = some (.int .i64 j.a) ∧ w.cell? ⟨b, o + 1, none⟩ = some (.int .i64 j.b) ∧ w.cell? ⟨b, o + 2, none⟩ = some (.int .i64 j.k)
theorem AtM.below {w w' : World} {b o : Nat} {j : MD} (h : AtM w b o j) (hlt : b < w.heap.size) (hb : Below w.heap.size w w') : AtM w' b o j := ⟨(hb.cell (p := ⟨b, o, none⟩) hlt).trans h.1, (hb.cell (p := ⟨b, o + 1, none⟩) hlt).trans h.2.1, (hb.cell (p := ⟨b, o + 2, none⟩) hlt).trans h.2.2⟩
theorem AtM.drew {w : World} {b o : Nat} {j : MD} (h : AtM w b o j) : AtM w.drew b o j := h
theorem Reads.atM {w : World} {A : Option Addr} {js : List MD} {i : Nat} (h : Reads w A (mcells js)) (hi : i < js.length) : ∃ b o, A = some ⟨b, o, none⟩ ∧ b < w.heap.size ∧ ∃ j, js[i]? = some j ∧ AtM w b (o + i * 3) j := by
  have hl := mcells_length js
  obtain ⟨b, o, hA, hlt, hc⟩ := h.at_ (by omega)
  refine ⟨b, o, hA, hlt, js[i], List.getElem?_eq_getElem hi, ?_⟩
  have hat := mcells_at js i js[i] (List.getElem?_eq_getElem hi)
  have key : ∀ k v, (mcells js)[i * 3 + k]? = some v → w.cell? ⟨b, o + i * 3 + k, none⟩ = some v := fun k v hv => by
    obtain ⟨hk, he⟩ := List.getElem?_eq_some_iff.1 hv
    rw [Nat.add_assoc, hc _ hk, he]
  exact ⟨key 0 _ hat.1, key 1 _ hat.2.1, key 2 _ hat.2.2⟩
def MFit (j : MD) : Prop := (-9223372036854775808 ≤ j.a ∧ j.a ≤ 9223372036854775807) ∧ (-9223372036854775808 ≤ j.b ∧ j.b ≤ 9223372036854775807) ∧ -9223372036854775808 ≤ j.k ∧ j.k ≤ 9223372036854775807
/-- A list that may be read. -/
def InM (w : World) (A : Option Addr) (n : Nat) (js : List MD) : Prop := js.length = n ∧ n ≤ 1048576 ∧ Reads w A (mcells js) ∧ ∀ j ∈ js, MFit j
theorem InM.at_ {w : World} {A : Option Addr} {n : Nat} {js : List MD} (h : InM w A n js) (i : Nat) (hi : i < n) : ∃ b o, A = some ⟨b, o, none⟩ ∧ b < w.heap.size ∧ ∃ j, js[i]? = some j ∧ AtM w b (o + i * 3) j ∧ MFit j := by
  obtain ⟨b, o, h1, h2, j, h3, h4⟩ := h.2.2.1.atM (i := i) (by rw [h.1]; exact hi)
  exact ⟨b, o, h1, h2, j, h3, h4, h.2.2.2 j (List.mem_of_getElem? h3)⟩
theorem InM.below {w w' : World} {A : Option Addr} {n : Nat} {js : List MD} (h : InM w A n js) (hb : Below w.heap.size w w') : InM w' A n js := ⟨h.1, h.2.1, h.2.2.1.below hb, h.2.2.2⟩
theorem InM.drew {w : World} {A : Option Addr} {n : Nat} {js : List MD} (h : InM w A n js) : InM w.drew A n js := h
theorem reads_ownM {w : World} {base : Nat} {E : TypeId} {A : Option Addr} {n c : Nat} {js : List MD} (h : w.ownsRow base E 3 (.slice A n c) n (mcells js)) : Reads w A (mcells js) := by
  rcases h.2 with ⟨hv, rfl⟩ | ⟨g, cap, cur, hv, _⟩
  · have := h.1
    exact .inl (List.eq_nil_of_length_eq_zero (by simpa using this))
  · cases hv
    by_cases h0 : n = 0
    · subst h0
      have := h.1
      exact .inl (List.eq_nil_of_length_eq_zero (by simpa using this))
    refine .inr ⟨g, 0, rfl, (h.lt g rfl).2, fun j hj => ?_⟩
    have h1 := h.1
    rw [Nat.zero_add, h.cellAt j (by omega), List.getElem?_eq_getElem hj]
theorem own_lenM {w : World} {base : Nat} {E : TypeId} {v : Value} {n : Nat} {js : List MD} (h : w.ownsRow base E 3 v n (mcells js)) : js.length = n := by
  have := h.1
  rw [mcells_length] at this
  omega
/-- A structure that may be read. -/
def InT (w : World) (A : Option Addr) (n : Nat) (js : List JD) (B : Option Addr) (m : Nat) (ms : List MD) : Prop := InJ w A n js ∧ InM w B m ms
theorem InT.below {w w' : World} {A : Option Addr} {n : Nat} {js : List JD} {B : Option Addr} {m : Nat} {ms : List MD} (h : InT w A n js B m ms) (hb : Below w.heap.size w w') : InT w' A n js B m ms := ⟨h.1.below hb, h.2.below hb⟩
/-- The two lists of a structure of the call's own. -/
def OwnT (w : World) (base : Nat) (A : Option Addr) (n c : Nat) (js : List JD) (B : Option Addr) (m d : Nat) (ms : List MD) : Prop :=
  w.ownsRow base 79 4 (.slice A n c) n (jcells js) ∧ w.ownsRow base 99 3 (.slice B m d) m (mcells ms) ∧ Apart (.slice B m d) (.slice A n c)
def footT (v u : Value) (k : Nat) : Prop := v.ownBlock = some k ∨ u.ownBlock = some k
section
variable {w w' : World} {base : Nat} {A B : Option Addr} {n c m d : Nat} {js : List JD} {ms : List MD}
theorem OwnT.dep (h : OwnT w base A n c js B m d ms) (hb : ∀ k, footT (.slice A n c) (.slice B m d) k → w'.heap[k]? = w.heap[k]?) : OwnT w' base A n c js B m d ms :=
  ⟨own_dep h.1 fun k hk => hb k (.inl hk), own_dep h.2.1 fun k hk => hb k (.inr hk), h.2.2⟩
theorem OwnT.lt (h : OwnT w base A n c js B m d ms) (k : Nat) (hk : footT (.slice A n c) (.slice B m d) k) : base ≤ k ∧ k < w.heap.size := by
  rcases hk with hk | hk
  · exact h.1.lt k hk
  · exact h.2.1.lt k hk
theorem OwnT.holds (h : OwnT w base A n c js B m d ms) : Holds w (footT (.slice A n c) (.slice B m d)) fun w => OwnT w base A n c js B m d ms :=
  ⟨fun k hk => (h.lt k hk).2, h, fun _ hb => h.dep hb⟩
theorem OwnT.lower {b : Nat} (h : OwnT w base A n c js B m d ms) (hb : b ≤ base) : OwnT w b A n c js B m d ms := ⟨own_base h.1 hb, own_base h.2.1 hb, h.2.2⟩
theorem tnow {F : Nat → Prop} (h : Hid (Holds w F fun w => OwnT w base A n c js B m d ms)) : OwnT w base A n c js B m d ms := h.out.now
def TFit (n : Nat) (js : List JD) (m : Nat) (ms : List MD) : Prop := js.length = n ∧ ms.length = m ∧ (∀ j ∈ js, JFit j) ∧ ∀ j ∈ ms, MFit j
theorem OwnT.in_ (h : OwnT w base A n c js B m d ms) (hf : TFit n js m ms) (hn : n ≤ 1048576) (hm : m ≤ 1048576) : InT w A n js B m ms :=
  ⟨⟨hf.1, hn, reads_ownJ h.1, hf.2.2.1⟩, ⟨hf.2.1, hm, reads_ownM h.2.1, hf.2.2.2⟩⟩
theorem tin {F : Nat → Prop} (h : Hid (Holds w F fun w => OwnT w base A n c js B m d ms)) (hf : Hid (TFit n js m ms)) (hn : n ≤ 1048576) (hm : m ≤ 1048576) : InT w A n js B m ms := h.out.now.in_ hf.out hn hm
end
end Go.Proofs.Ytipmeijfmiiedaa
