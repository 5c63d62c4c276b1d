/- Structures: a structure that came in, opened; held by the helpers of the laws. -/
import Derived.Test.YtipmeijfmiiedaaStM5
import Derived.Lib.SmallJoins
namespace Go.Proofs.Ytipmeijfmiiedaa
set_option maxRecDepth 100000
open Go.RowKit Go.ChangeShapes Go.WideShapes Go.Deep Go.Joins

instance : Inhabited JD := ⟨JD.zero⟩
instance : Inhabited MD := ⟨MD.zero⟩
section
variable {P : Program} {H : Type} {enc : TypeId × Value → H} {w : World} {sp : Nat → Bool} {hd : Bool}
theorem cells_J {t : TypeId} {f0 f1 f2 f3 : Field} {cs : List Value} {y : DataW H × List MemPlace} {fuel : Nat} (hs : P.underlying t = some (.struct #[f0, f1, f2, f3])) (hone : oneCellFields P #[f0, f1, f2, f3] = true) (hC : P.cellsOf t = 4) (hk0 : P.underlying f0.type = some .string) (hk1 : P.underlying f1.type = some (.int .i64)) (hk2 : P.underlying f2.type = some (.int .i64)) (hk3 : P.underlying f3.type = some .bool)
    (hf : DataW.trod enc P w 0 sp hd fuel t cs = some y) : ∃ s x y f, cs = [.string s, .int .i64 x, .int .i64 y, .bool f] ∧ s.size ≤ maxLen ∧ (-9223372036854775808 ≤ x ∧ x ≤ 9223372036854775807) ∧ (-9223372036854775808 ≤ y ∧ y ≤ 9223372036854775807) := by
  obtain ⟨xs, n, _, _, hl, hlen, hf⟩ := DataW.trod_struct hs hf
  rw [hC] at hl
  match cs, hl, xs, hlen with
  | [c0, c1, c2, c3], _, [y0, y1, y2, y3], _ =>
    obtain ⟨o0, k0⟩ := hone_of hone 0 f0 rfl
    have t0 : DataW.trod enc P w 0 sp hd n f0.type [c0] = some y0 := by simpa [Value.cells, o0, k0] using hf 0 f0 rfl
    obtain ⟨s, hp0, _, b0⟩ := DataW.trod_string hk0 t0
    obtain rfl : c0 = .string s := by simpa using hp0
    obtain ⟨o1, k1⟩ := hone_of hone 1 f1 rfl
    have t1 : DataW.trod enc P w 0 sp hd n f1.type [c1] = some y1 := by simpa [Value.cells, o1, k1] using hf 1 f1 rfl
    obtain ⟨x, hp1, _, b1⟩ := DataW.trod_int hk1 t1
    obtain rfl : c1 = .int .i64 x := by simpa using hp1
    obtain ⟨o2, k2⟩ := hone_of hone 2 f2 rfl
    have t2 : DataW.trod enc P w 0 sp hd n f2.type [c2] = some y2 := by simpa [Value.cells, o2, k2] using hf 2 f2 rfl
    obtain ⟨y, hp2, _, b2⟩ := DataW.trod_int hk2 t2
    obtain rfl : c2 = .int .i64 y := by simpa using hp2
    obtain ⟨o3, k3⟩ := hone_of hone 3 f3 rfl
    have t3 : DataW.trod enc P w 0 sp hd n f3.type [c3] = some y3 := by simpa [Value.cells, o3, k3] using hf 3 f3 rfl
    obtain ⟨f, hp3, _⟩ := DataW.trod_bool hk3 t3
    obtain rfl : c3 = .bool f := by simpa using hp3
    exact ⟨s, x, y, f, rfl, b0, bounds_i64 b1, bounds_i64 b2⟩
theorem isJ_of {T t : TypeId} {f0 f1 f2 f3 : Field} {A : Option Addr} {len cap : Nat} {d : DataW H} {ps : List MemPlace} (hT : P.underlying T = some (.slice t)) (hs : P.underlying t = some (.struct #[f0, f1, f2, f3])) (hone : oneCellFields P #[f0, f1, f2, f3] = true) (hC : P.cellsOf t = 4) (hk0 : P.underlying f0.type = some .string) (hk1 : P.underlying f1.type = some (.int .i64)) (hk2 : P.underlying f2.type = some (.int .i64)) (hk3 : P.underlying f3.type = some .bool)
    (h : DataW.Trod enc P w 0 sp hd T (Value.slice A len cap) d ps) : ∃ js, IsJ w A len js := by
  obtain ⟨fuel, hf⟩ := h
  rcases open_slice hT hf with ⟨hcs, _⟩ | ⟨a, l, c, m, n, D, Pl, hcs, _, hl, hm, hmm, _, hi⟩
  · simp [Value.cells] at hcs
    obtain ⟨rfl, rfl, rfl⟩ := hcs
    exact ⟨[], rfl, Nat.zero_le _, .inl rfl, fun j hj => by cases hj⟩
  · simp [Value.cells] at hcs
    obtain ⟨rfl, rfl, rfl⟩ := hcs
    by_cases h0 : len = 0
    · subst h0; exact ⟨[], rfl, Nat.zero_le _, .inl rfl, fun j hj => by cases hj⟩
    have hle : len ≤ m := by rw [hmm]; split <;> omega
    obtain ⟨b, o, spot⟩ := a
    have hspot : spot = none := by
      obtain ⟨cs', hc', ht'⟩ := hi 0 (by omega)
      rw [hC] at hc'
      obtain ⟨_, hcl, hat⟩ := World.cells?_some hc'
      have h1 := hat 0 (by omega)
      rw [List.getElem?_eq_getElem (by omega)] at h1
      simpa [Addr.add] using World.cell?_spot h1
    subst hspot
    have hall : ∀ i, i < len → ∃ j : JD, AtJ w b (o + i * 4) j ∧ j.name.size ≤ maxLen ∧ (-9223372036854775808 ≤ j.x ∧ j.x ≤ 9223372036854775807) ∧ -9223372036854775808 ≤ j.y ∧ j.y ≤ 9223372036854775807 := fun i hil => by
      obtain ⟨cs', hc', ht'⟩ := hi i (by omega)
      rw [hC] at hc'
      obtain ⟨_, hcl, hat⟩ := World.cells?_some hc'
      obtain ⟨s, x, y, f, rfl, b0, b1, b2⟩ := cells_J hs hone hC hk0 hk1 hk2 hk3 ht'
      have key : ∀ k v, k < 4 → [.string s, .int .i64 x, .int .i64 y, .bool f][k]? = some v → w.cell? ⟨b, o + i * 4 + k, none⟩ = some v := fun k v hk hv => by
        have e0 := hat k (by omega)
        rw [Go.Deep.add_add, Addr.add_lit, ← Nat.add_assoc] at e0
        exact e0.trans hv
      exact ⟨⟨s, x, y, f⟩, ⟨key 0 _ (by decide) rfl, key 1 _ (by decide) rfl, key 2 _ (by decide) rfl, key 3 _ (by decide) rfl⟩, b0, b1, b2⟩
    obtain ⟨r, hr⟩ := choose_lt hall
    have hlen : ((List.range len).map r).length = len := by simp
    refine ⟨(List.range len).map r, hlen, by omega, .inr ⟨b, o, rfl, ?_, fun j hj => ?_⟩, fun x hx => ?_⟩
    · exact World.block_lt_of_cell? _ _ (hr 0 (by omega)).1.1
    · rw [jcells_length, hlen] at hj
      have hq : j = j / 4 * 4 + j % 4 := by omega
      have hm' : j % 4 = 0 ∨ j % 4 = 1 ∨ j % 4 = 2 ∨ j % 4 = 3 := by omega
      have hat := (hr (j / 4) (by omega)).1
      have hce := jcells_at ((List.range len).map r) (j / 4) (r (j / 4)) (by rw [List.getElem?_map, List.getElem?_range (by omega)]; rfl)
      have fin : ∀ k v, j % 4 = k → w.cell? ⟨b, o + j / 4 * 4 + k, none⟩ = some v → (jcells ((List.range len).map r))[j / 4 * 4 + k]? = some v → w.cell? ⟨b, o + j, none⟩ = some (jcells ((List.range len).map r))[j] := fun k v hk h1 h2 => by
        have e1 : j / 4 * 4 + k = j := by omega
        rw [Nat.add_assoc, e1] at h1
        rw [h1, ← h2]
        simp only [e1]
        exact List.getElem?_eq_getElem _
      rcases hm' with hm' | hm' | hm' | hm'
      · exact fin 0 _ hm' hat.1 hce.1
      · exact fin 1 _ hm' hat.2.1 hce.2.1
      · exact fin 2 _ hm' hat.2.2.1 hce.2.2.1
      · exact fin 3 _ hm' hat.2.2.2 hce.2.2.2
    · obtain ⟨i, hi', rfl⟩ := List.mem_map.1 hx
      exact (hr i (by simpa using hi')).2
theorem cells_M {t : TypeId} {f0 f1 f2 : Field} {cs : List Value} {y : DataW H × List MemPlace} {fuel : Nat} (hs : P.underlying t = some (.struct #[f0, f1, f2])) (hone : oneCellFields P #[f0, f1, f2] = true) (hC : P.cellsOf t = 3) (hk0 : P.underlying f0.type = some (.int .i64)) (hk1 : P.underlying f1.type = some (.int .i64)) (hk2 : P.underlying f2.type = some (.int .i64))
    (hf : DataW.trod enc P w 0 sp hd fuel t cs = some y) : ∃ x y z, cs = [.int .i64 x, .int .i64 y, .int .i64 z] ∧ (-9223372036854775808 ≤ x ∧ x ≤ 9223372036854775807) ∧ (-9223372036854775808 ≤ y ∧ y ≤ 9223372036854775807) ∧ (-9223372036854775808 ≤ z ∧ z ≤ 9223372036854775807) := by
  obtain ⟨xs, n, _, _, hl, hlen, hf⟩ := DataW.trod_struct hs hf
  rw [hC] at hl
  match cs, hl, xs, hlen with
  | [c0, c1, c2], _, [y0, y1, y2], _ =>
    obtain ⟨o0, k0⟩ := hone_of hone 0 f0 rfl
    have t0 : DataW.trod enc P w 0 sp hd n f0.type [c0] = some y0 := by simpa [Value.cells, o0, k0] using hf 0 f0 rfl
    obtain ⟨x, hp0, _, b0⟩ := DataW.trod_int hk0 t0
    obtain rfl : c0 = .int .i64 x := by simpa using hp0
    obtain ⟨o1, k1⟩ := hone_of hone 1 f1 rfl
    have t1 : DataW.trod enc P w 0 sp hd n f1.type [c1] = some y1 := by simpa [Value.cells, o1, k1] using hf 1 f1 rfl
    obtain ⟨y, hp1, _, b1⟩ := DataW.trod_int hk1 t1
    obtain rfl : c1 = .int .i64 y := by simpa using hp1
    obtain ⟨o2, k2⟩ := hone_of hone 2 f2 rfl
    have t2 : DataW.trod enc P w 0 sp hd n f2.type [c2] = some y2 := by simpa [Value.cells, o2, k2] using hf 2 f2 rfl
    obtain ⟨z, hp2, _, b2⟩ := DataW.trod_int hk2 t2
    obtain rfl : c2 = .int .i64 z := by simpa using hp2
    exact ⟨x, y, z, rfl, bounds_i64 b0, bounds_i64 b1, bounds_i64 b2⟩
theorem isM_of {T t : TypeId} {f0 f1 f2 : Field} {A : Option Addr} {len cap : Nat} {d : DataW H} {ps : List MemPlace} (hT : P.underlying T = some (.slice t)) (hs : P.underlying t = some (.struct #[f0, f1, f2])) (hone : oneCellFields P #[f0, f1, f2] = true) (hC : P.cellsOf t = 3) (hk0 : P.underlying f0.type = some (.int .i64)) (hk1 : P.underlying f1.type = some (.int .i64)) (hk2 : P.underlying f2.type = some (.int .i64))
    (h : DataW.Trod enc P w 0 sp hd T (Value.slice A len cap) d ps) : ∃ js, IsM w A len js := by
  obtain ⟨fuel, hf⟩ := h
  rcases open_slice hT hf with ⟨hcs, _⟩ | ⟨a, l, c, m, n, D, Pl, hcs, _, hl, hm, hmm, _, hi⟩
  · simp [Value.cells] at hcs
    obtain ⟨rfl, rfl, rfl⟩ := hcs
    exact ⟨[], rfl, Nat.zero_le _, .inl rfl, fun j hj => by cases hj⟩
  · simp [Value.cells] at hcs
    obtain ⟨rfl, rfl, rfl⟩ := hcs
    by_cases h0 : len = 0
    · subst h0; exact ⟨[], rfl, Nat.zero_le _, .inl rfl, fun j hj => by cases hj⟩
    have hle : len ≤ m := by rw [hmm]; split <;> omega
    obtain ⟨b, o, spot⟩ := a
    have hspot : spot = none := by
      obtain ⟨cs', hc', ht'⟩ := hi 0 (by omega)
      rw [hC] at hc'
      obtain ⟨_, hcl, hat⟩ := World.cells?_some hc'
      have h1 := hat 0 (by omega)
      rw [List.getElem?_eq_getElem (by omega)] at h1
      simpa [Addr.add] using World.cell?_spot h1
    subst hspot
    have hall : ∀ i, i < len → ∃ j : MD, AtM w b (o + i * 3) j ∧ MFit j := fun i hil => by
      obtain ⟨cs', hc', ht'⟩ := hi i (by omega)
      rw [hC] at hc'
      obtain ⟨_, hcl, hat⟩ := World.cells?_some hc'
      obtain ⟨x, y, z, rfl, b0, b1, b2⟩ := cells_M hs hone hC hk0 hk1 hk2 ht'
      have key : ∀ k v, k < 3 → [.int .i64 x, .int .i64 y, .int .i64 z][k]? = some v → w.cell? ⟨b, o + i * 3 + k, none⟩ = some v := fun k v hk hv => by
        have e0 := hat k (by omega)
        rw [Go.Deep.add_add, Addr.add_lit, ← Nat.add_assoc] at e0
        exact e0.trans hv
      exact ⟨⟨x, y, z⟩, ⟨key 0 _ (by decide) rfl, key 1 _ (by decide) rfl, key 2 _ (by decide) rfl⟩, b0, b1, b2⟩
    obtain ⟨r, hr⟩ := choose_lt hall
    have hlen : ((List.range len).map r).length = len := by simp
    refine ⟨(List.range len).map r, hlen, by omega, .inr ⟨b, o, rfl, ?_, fun j hj => ?_⟩, fun x hx => ?_⟩
    · exact World.block_lt_of_cell? _ _ (hr 0 (by omega)).1.1
    · rw [mcells_length, hlen] at hj
      have hq : j = j / 3 * 3 + j % 3 := by omega
      have hm' : j % 3 = 0 ∨ j % 3 = 1 ∨ j % 3 = 2 := by omega
      have hat := (hr (j / 3) (by omega)).1
      have hce := mcells_at ((List.range len).map r) (j / 3) (r (j / 3)) (by rw [List.getElem?_map, List.getElem?_range (by omega)]; rfl)
      have fin : ∀ k v, j % 3 = k → w.cell? ⟨b, o + j / 3 * 3 + k, none⟩ = some v → (mcells ((List.range len).map r))[j / 3 * 3 + k]? = some v → w.cell? ⟨b, o + j, none⟩ = some (mcells ((List.range len).map r))[j] := fun k v hk h1 h2 => by
        have e1 : j / 3 * 3 + k = j := by omega
        rw [Nat.add_assoc, e1] at h1
        rw [h1, ← h2]
        simp only [e1]
        exact List.getElem?_eq_getElem _
      rcases hm' with hm' | hm' | hm'
      · exact fin 0 _ hm' hat.1 hce.1
      · exact fin 1 _ hm' hat.2.1 hce.2.1
      · exact fin 2 _ hm' hat.2.2 hce.2.2
    · obtain ⟨i, hi', rfl⟩ := List.mem_map.1 hx
      exact (hr i (by simpa using hi')).2
theorem open_struct {r : Reach} {b0 : Nat} {M j m : TypeId} {q0 q1 f0 f1 f2 f3 k0 k1 k2 : Field} {v : Value} {d : DataW H} {ps : List MemPlace} (hM : P.underlying M = some (.struct #[q0, q1])) (hone : oneCellFields P #[q0, q1] = true) (hC : P.cellsOf M = 2)
    (hT0 : P.underlying q0.type = some (.slice j)) (hT1 : P.underlying q1.type = some (.slice m))
    (hj : P.underlying j = some (.struct #[f0, f1, f2, f3])) (hjo : oneCellFields P #[f0, f1, f2, f3] = true) (hjC : P.cellsOf j = 4) (hj0 : P.underlying f0.type = some .string) (hj1 : P.underlying f1.type = some (.int .i64)) (hj2 : P.underlying f2.type = some (.int .i64)) (hj3 : P.underlying f3.type = some .bool)
    (hm : P.underlying m = some (.struct #[k0, k1, k2])) (hmo : oneCellFields P #[k0, k1, k2] = true) (hmC : P.cellsOf m = 3) (hm0 : P.underlying k0.type = some (.int .i64)) (hm1 : P.underlying k1.type = some (.int .i64)) (hm2 : P.underlying k2.type = some (.int .i64))
    (hv : Value.okWide P w r b0 M v) (h : DataW.Trod enc P w 0 sp hd M v d ps) : ∃ A n c js B l e ms, v = .agg #[.slice A n c, .slice B l e] ∧ IsJ w A n js ∧ IsM w B l ms := by
  obtain ⟨v0, v1, y0, y1, n, rfl, _, _, t0, t1⟩ := Joins.open_agg2 hM hone hC hv h
  obtain ⟨A, len, cap, hA⟩ := slice_form hT0 t0
  obtain rfl : v0 = .slice A len cap := by simpa using hA
  obtain ⟨B, l, e, hB⟩ := slice_form hT1 t1
  obtain rfl : v1 = .slice B l e := by simpa using hB
  obtain ⟨js, h1⟩ := isJ_of hT0 hj hjo hjC hj0 hj1 hj2 hj3 (⟨n, by simpa [Value.cells] using t0⟩ : DataW.Trod enc P w 0 sp hd q0.type (Value.slice A len cap) y0.1 y0.2)
  obtain ⟨ms, h2⟩ := isM_of hT1 hm hmo hmC hm0 hm1 hm2 (⟨n, by simpa [Value.cells] using t1⟩ : DataW.Trod enc P w 0 sp hd q1.type (Value.slice B l e) y1.1 y1.2)
  exact ⟨A, len, cap, js, B, l, e, ms, rfl, h1, h2⟩
theorem open_joint {r : Reach} {b0 : Nat} {j : TypeId} {f0 f1 f2 f3 : Field} {v : Value} {d : DataW H} {ps : List MemPlace} (hj : P.underlying j = some (.struct #[f0, f1, f2, f3])) (hjo : oneCellFields P #[f0, f1, f2, f3] = true) (hjC : P.cellsOf j = 4) (hj0 : P.underlying f0.type = some .string) (hj1 : P.underlying f1.type = some (.int .i64)) (hj2 : P.underlying f2.type = some (.int .i64)) (hj3 : P.underlying f3.type = some .bool)
    (hv : Value.okWide P w r b0 j v) (h : DataW.Trod enc P w 0 sp hd j v d ps) : ∃ s x y f, v = .agg #[.string s, .int .i64 x, .int .i64 y, .bool f] ∧ s.size ≤ maxLen ∧ (-9223372036854775808 ≤ x ∧ x ≤ 9223372036854775807) ∧ -9223372036854775808 ≤ y ∧ y ≤ 9223372036854775807 := by
  obtain ⟨vs, rfl, hsz⟩ := okWide_struct hj hv
  obtain ⟨fuel, hf⟩ := h
  obtain ⟨s, x, y, f, he, h1⟩ := cells_J hj hjo hjC hj0 hj1 hj2 hj3 hf
  have : vs = #[.string s, .int .i64 x, .int .i64 y, .bool f] := by
    apply Array.toList_inj.1
    simpa [Value.cells] using he
  subst this
  exact ⟨s, x, y, f, rfl, h1⟩
end
end Go.Proofs.Ytipmeijfmiiedaa
