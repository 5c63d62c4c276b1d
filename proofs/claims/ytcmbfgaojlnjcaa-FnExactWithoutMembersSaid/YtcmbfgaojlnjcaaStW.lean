/- A structure without some members: data, a list of joints copied, a number sought in a list. -/
import Derived.Test.YtcmbfgaojlnjcaaStF
import Derived.Test.YtcmbfgaojlnjcaaGA
namespace Go.Proofs.Ytcmbfgaojlnjcaa
set_option maxRecDepth 100000
open Go.RowKit

def keepTo (ms : List MD) (l : List Int) (k : Nat) : List MD := (List.range k).filterMap fun i => if ((i : Nat) : Int) ∈ l then none else ms[i]?
theorem keepTo_no {ms : List MD} {l : List Int} {k : Nat} (h : ((k : Nat) : Int) ∈ l) : keepTo ms l (k + 1) = keepTo ms l k := by
  unfold keepTo
  rw [List.range_succ, List.filterMap_append]
  simp [h]
theorem keepTo_yes {ms : List MD} {l : List Int} {k : Nat} {m : MD} (h : ¬ ((k : Nat) : Int) ∈ l) (hm : ms[k]? = some m) : keepTo ms l (k + 1) = keepTo ms l k ++ [m] := by
  unfold keepTo
  rw [List.range_succ, List.filterMap_append]
  simp [h, hm]
theorem keepTo_le (ms : List MD) (l : List Int) (k : Nat) : (keepTo ms l k).length ≤ k := by
  unfold keepTo
  exact Nat.le_trans (List.length_filterMap_le _ _) (by simp)
theorem keepTo_mem {ms : List MD} {l : List Int} {k : Nat} {m : MD} (h : m ∈ keepTo ms l k) : m ∈ ms := by
  obtain ⟨i, _, hi⟩ := List.mem_filterMap.1 h
  split at hi
  · cases hi
  · exact List.mem_of_getElem? hi
def WithoutMembersIs (js : List JD) (ms : List MD) (l : List Int) (js' : List JD) (ms' : List MD) : Prop := js' = js ∧ ms' = keepTo ms l ms.length
theorem withoutMembers_unique {js : List JD} {ms : List MD} {l : List Int} {a c : List JD} {b d : List MD} (h : WithoutMembersIs js ms l a b) (h' : WithoutMembersIs js ms l c d) : a = c ∧ b = d := ⟨h.1.trans h'.1.symm, h.2.trans h'.2.symm⟩
/-- A structure handed back: its lists in memory of the call's own. -/
def ResTS (w w' : World) (v : Value) (js : List JD) (u : Value) (ms : List MD) : Prop :=
  w'.ownsRow w.heap.size 36 4 v js.length (jcells js) ∧ w'.ownsRow w.heap.size 79 3 u ms.length (mcells ms) ∧ Apart u v ∧ js.length ≤ 1048576 ∧ ms.length ≤ 1048576 ∧ (∀ j ∈ js, JFit j) ∧ ∀ m ∈ ms, MFit m
def WithoutEnd (js : List JD) (ms : List MD) (l : List Int) (w w' : World) (e : Ending) : Prop := ∃ js' v ms' u, e = .returned (.agg #[v, u]) ∧ WithoutMembersIs js ms l js' ms' ∧ ResTS w w' v js' u ms' ∧ Below w.heap.size w w'
/-- A list that may be read, behind one of the call's own; elements of any size. -/
theorem wpList_append_reads_sz {P : Program} {w : World} {ops : Array Oper} {rest : List Oper} {o : Oper} {a : Act} {Q : Exit → Act → World → Prop} (hgd : o.guard = none) (s x : Operand) (t : TypeId)
    (ho : o.op = .call { callee := .builtin .append, args := #[s, x], argTypes := #[t, t] })
    (base : Nat) (e : TypeId) (i : TypeInfo) (z : Value) (size bytes : Nat) (ht : P.underlying t = some (.slice e)) (hi : P.info? e = some i) (hz : i.zero = some z)
    (hsize : i.size = size) (hby : i.bytes = bytes) (hzs : z.cells.size = size) (hsz : 0 < size)
    (v : Value) (n : Nat) (xs : List Value) (hs : a.eval s = v) (hown : w.ownsRow base e size v n xs)
    (A : Option Addr) (m c : Nat) (news : List Value) (hx : a.eval x = .slice A m c) (hl : news.length = m * size) (hr : Reads w A news) (h1 : ∀ u ∈ news, u.oneCell' = true)
    (h63 : n + m ≤ maxLen) (hbytes : (n + m) * bytes ≤ 140737488355328) (hbase : base ≤ w.heap.size)
    (h : ∀ v' w', w'.ownsRow base e size v' (n + m) (xs ++ news) → w.grownBy w' v.ownBlock → wpList P ops Q rest (a.put o.dst v') w') : wpList P ops Q (o :: rest) a w := by
  cases A with
  | some ad =>
    refine wpList_append_own_at w hgd s x t ho base e i z size bytes ht hi hz hsize hby hzs hsz v n xs hs hown ad m c news hx hl (fun j u hu => ?_) h1 h63 hbytes hbase (fun v' w' h2 h3 _ _ => h v' w' h2 h3)
    rcases hr with rfl | ⟨b, of, he, _, hc⟩
    · simp at hu
    · cases he
      obtain ⟨hj, rfl⟩ := List.getElem?_eq_some_iff.1 hu
      rw [Addr.add_lit]
      exact hc j hj
  | none =>
    have hn0 : news = [] := by
      rcases hr with h | ⟨b, of, he, _⟩
      · exact h
      · cases he
    subst hn0
    obtain rfl : m = 0 := by
      rcases Nat.eq_zero_or_pos m with h0 | h0
      · exact h0
      · have := Nat.mul_pos h0 hsz
        simp at hl
        omega
    have hrun := run_append_none (P := P) w base t o.type e i ht hi v n xs (by rw [hsize]; exact hown) c
    refine wpList_plain hgd fun K hK => ?_
    unfold Oper.wp execOp
    simp only [ho, resolve, invoke, builtin, Sem.run_bind, Sem.run_pure, Result.andThen_ok, List.map_toArray, List.map_cons, List.map_nil, hs, hx, hrun]
    exact hK _ _ (h v w (by simpa using hown) (World.grownBy.refl _ _))
theorem jcells_one (js : List JD) : ∀ u ∈ jcells js, u.oneCell' = true := fun u hu => by
  obtain ⟨j, _, hj⟩ := List.mem_flatMap.1 hu
  simp only [JD.cells, List.mem_cons, List.not_mem_nil, or_false] at hj
  rcases hj with rfl | rfl | rfl | rfl <;> rfl
theorem mcells_one (ms : List MD) : ∀ u ∈ mcells ms, u.oneCell' = true := fun u hu => by
  obtain ⟨j, _, hj⟩ := List.mem_flatMap.1 hu
  simp only [MD.cells, List.mem_cons, List.not_mem_nil, or_false] at hj
  rcases hj with rfl | rfl | rfl <;> rfl
theorem cellsI_get {w : World} {b o k : Nat} {la : List Int} {z : Int} (hc : CellsAt w b o (la.map (.int .i64))) (hk : la[k]? = some z) : w.cell? ⟨b, o + k, none⟩ = some (.int .i64 z) := by
  obtain ⟨hlt, rfl⟩ := List.getElem?_eq_some_iff.1 hk
  exact (hc k (by simpa using hlt)).trans (by simp)
/-- An element of a list that was handed in. -/
theorem inI_get {w : World} {A : Option Addr} {n : Nat} {xs : List Int} (h : InI w A n xs) {k : Nat} (hk : k < n) : ∃ b o z, A = some ⟨b, o, none⟩ ∧ xs[k]? = some z ∧ w.cell? ⟨b, o + k, none⟩ = some (.int .i64 z) ∧ b < w.heap.size := by
  have hkx : k < xs.length := by rw [h.1]; exact hk
  obtain ⟨b, o, hA, hb, hc⟩ := h.2.2.1.at_ (by simp; omega)
  exact ⟨b, o, xs[k], hA, List.getElem?_eq_getElem hkx, cellsI_get hc (List.getElem?_eq_getElem hkx), hb⟩
set_option maxHeartbeats 800000 in
theorem spec_l12Has (X : Option Addr) (nx cx : Nat) (xs : List Int) (i : Int) (w : World) (h : InI w X nx xs) :
    Calls Try.prog 74 #[.slice X nx cx, .int .i64 i] w fun e w' => (∃ b, e = .returned (.bool b) ∧ (b = true ↔ i ∈ xs)) ∧ w' = w := by
  have hm := h.2.1
  have HL : Hid (xs.length = nx) := h.1
  have HV := Lib.hid h
  clear h
  go_enter Try.func74, Try.ntmps74
  go_wp2_with fail
  go_loopw [6, 9] (fun _ y wr => ∃ k : Nat, wr = w ∧ k ≤ nx ∧ y = .int .i64 k ∧ Hid (¬ i ∈ xs.take k)) (fun _ y _ => nx - (intOf y).toNat)
  case atStart => exact ⟨0, rfl, Nat.zero_le _, rfl, by unfold Hid; simp⟩
  case round =>
    obtain ⟨k, rfl, hk, rfl, HN⟩ := hrel
    by_cases hlt : k < nx
    · obtain ⟨b2, o2, z, rfl, hz, hcell, hb2⟩ := inI_get HV.out hlt
      have HZ := Lib.hid hz
      have hk0 : (0 : Int) ≤ (k : Int) := by omega
      have hk1 : (k : Int) < (nx : Int) := by omega
      clear hz
      by_cases he : z = i
      · subst he
        have HF : Hid (∃ b, (Ending.returned (.bool true)) = .returned (.bool b) ∧ (b = true ↔ z ∈ xs)) := ⟨true, rfl, ⟨fun _ => List.mem_of_getElem? HZ.out, fun _ => rfl⟩⟩
        go_wp2_with fail
        go_ret
        exact ⟨HF.out, rfl⟩
      · have hq : (z == i) = false := by simpa using he
        have HN2 : Hid (¬ i ∈ xs.take (k + 1)) := by
          obtain ⟨h1, h2⟩ := List.getElem?_eq_some_iff.1 HZ.out
          unfold Hid
          rw [List.take_succ_eq_append_getElem h1, List.mem_append, h2]
          intro q
          rcases q with q | q
          · exact HN.out q
          · exact he (List.mem_singleton.1 q).symm
        clear HN he
        go_wp2_with fail
        go_roundw
        case rel => exact ⟨k + 1, trivial, by omega, by go_num, HN2⟩
        case measure => simp [intOf]; omega
    · have HF : Hid (∃ b, (Ending.returned (.bool false)) = .returned (.bool b) ∧ (b = true ↔ i ∈ xs)) := ⟨false, rfl, ⟨fun q => (by cases q), fun q => absurd (by rw [List.take_of_length_le (by rw [HL.out]; omega)]; exact q) HN.out⟩⟩
      clear HN
      go_wp2_with fail
      go_ret
      exact ⟨HF.out, rfl⟩
set_option maxHeartbeats 800000 in
theorem clone_joints (A : Option Addr) (n c : Nat) (js : List JD) (w : World) (h : InJ w A n js) :
    Calls Try.prog 75 #[.slice A n c] w fun e w' => ToJEnd n js w w' e := by
  obtain ⟨i0, hi, hz0, hz1, hz2⟩ := info_parts Try.infoJ
  have heq := fun wx => Lib.run_eql_slice_nil (P := Try.prog) wx 45 36 A n c 0 0 Try.underlying45
  have hm := h.2.1
  have HL : Hid (js.length = n) := h.1
  have HV := Lib.hid h
  clear h
  cases A with
  | none =>
    have hx : Hid (jcells js = []) := by
      rcases HV.out.2.2.1 with h | ⟨b, o, he, _⟩
      · exact h
      · cases he
    have hn0 : n = 0 := by
      have := jcells_length js
      rw [hx.out, HL.out] at this
      simp at this
      omega
    subst hn0
    go_enter Try.func75, Try.ntmps75
    go_wp2_with fail
    go_ret
    exact ⟨_, rfl, by rw [hx.out]; exact World.ownsRow_nil _ _ _ _, Below.refl _ _⟩
  | some ad =>
    obtain ⟨W1, hW⟩ : ∃ W, W = w.alloc (.cells #[] 36) := ⟨_, rfl⟩
    have hb1 : Below w.heap.size w W1 := by rw [hW]; exact (Below.refl _ _).alloc (Nat.le_refl _) _
    have HO : Hid (W1.ownsRow w.heap.size 36 4 (.slice (some ⟨w.heap.size, 0, none⟩) 0 0) 0 []) := by rw [hW]; exact World.ownsRow_lit w #[] 0 (Nat.le_refl _) (by simp) (by simp)
    have HV1 := Lib.hid (HV.out.below hb1)
    have HB1 := Lib.hid hb1
    have hbs : w.heap.size ≤ W1.heap.size := hb1.size
    clear hb1
    go_enter Try.func75, Try.ntmps75
    go_wp2_with (at_builtin; rw [← hW]; refine wpList_append_reads_sz rfl _ _ 45 rfl w.heap.size 36 i0 (.agg #[.string ByteArray.empty, .int .i64 0, .int .i64 0, .bool false]) 4 40 Try.underlying45 hi hz0 hz1 hz2 rfl (by decide) _ _ _ rfl HO.out (some ad) n c (jcells js) rfl (by rw [jcells_length, HL.out]) HV1.out.2.2.1 (jcells_one js) (by unfold maxLen; omega) (by omega) hbs ?_)
    intro v' w' hown hg
    rw [← hW] at hg
    have hfin : Hid (ToJEnd n js w w' (.returned v')) := by
      refine ⟨v', rfl, by simpa using hown, ?_⟩
      exact HB1.out.grown hg hbs (fun k hk => by cases hk; exact Nat.le_refl _)
    clear hown hg hW
    go_wp2_with fail
    go_ret
    exact hfin.out
end Go.Proofs.Ytcmbfgaojlnjcaa
