/- The map of the names of joints: each name and the first joint that has it, as data. -/
import Derived.Test.YtipmeijfmiiedaaStK2
import Derived.Maps.RangeWalk
import Derived.Maps.Views
namespace Go.Proofs.Ytipmeijfmiiedaa
set_option maxRecDepth 100000
open Go.RowKit
open Go.Maps (Tidy IsMap has size)

def keyT (s : ByteArray) : Lit := .string s.data.toList
theorem keyT_inj {s t : ByteArray} (h : keyT s = keyT t) : s = t := by
  unfold keyT at h
  obtain ⟨⟨x⟩⟩ := s
  obtain ⟨⟨y⟩⟩ := t
  simpa using h
theorem keyT_key (s : ByteArray) : WideAt.IsKeyLit (keyT s) := by
  unfold keyT
  simp [WideAt.IsKeyLit]
/-- The first joint from i on with this name. -/
def FirstFrom (js : List JD) (i : Nat) (s : ByteArray) (k : Nat) : Prop := i ≤ k ∧ (∃ j, js[k]? = some j ∧ j.name = s) ∧ ∀ k', i ≤ k' → k' < k → ∀ j, js[k']? = some j → j.name ≠ s
structure MapAt (D : DataW Unit) (js : List JD) (i : Nat) : Prop where
  tidy : Tidy D
  sz : size D ≤ js.length - i
  nd : size D = js.length - i ↔ ((js.drop i).map JD.name).Nodup
  keys : ∀ kl, has D kl = true ↔ ∃ k j, i ≤ k ∧ js[k]? = some j ∧ kl = keyT j.name
  val : ∀ s k, FirstFrom js i s k → ∀ z, D.atKey (keyT s) z = .lit (.int .i64 k)
theorem MapAt.start (js : List JD) : MapAt (.map []) js js.length := by
  refine ⟨Maps.tidy_empty, Nat.zero_le _, ?_, fun kl => ?_, fun s k h => ?_⟩
  · simp [size]
  · constructor
    · intro h; simp [has] at h
    · rintro ⟨k, j, h1, h2, _⟩
      rw [List.getElem?_eq_none h1] at h2; cases h2
  · obtain ⟨h1, ⟨j, h2, _⟩, _⟩ := h
    rw [List.getElem?_eq_none h1] at h2; cases h2
theorem MapAt.step {D : DataW Unit} {js : List JD} {i : Nat} {j : JD} (h : MapAt D js (i + 1)) (hj : js[i]? = some j) : MapAt (D.put (keyT j.name) (.lit (.int .i64 i))) js i := by
  obtain ⟨hi, hji⟩ := List.getElem?_eq_some_iff.1 hj
  have hk := keyT_key j.name
  have hsz := Maps.size_put (k := keyT j.name) h.tidy (.lit (.int .i64 (i : Int)))
  have hdrop : js.drop i = j :: js.drop (i + 1) := by rw [List.drop_eq_getElem_cons hi, hji]
  have hmem : has D (keyT j.name) = true ↔ j.name ∈ (js.drop (i + 1)).map JD.name := by
    rw [h.keys]
    constructor
    · rintro ⟨k, j', h1, h2, h3⟩
      refine List.mem_map.2 ⟨j', ?_, (keyT_inj h3).symm⟩
      refine List.mem_of_getElem? (i := k - (i + 1)) ?_
      rw [List.getElem?_drop, show i + 1 + (k - (i + 1)) = k by omega]
      exact h2
    · intro hm
      obtain ⟨j', h1, h2⟩ := List.mem_map.1 hm
      obtain ⟨q, hq⟩ := List.getElem?_of_mem h1
      rw [List.getElem?_drop] at hq
      exact ⟨i + 1 + q, j', by omega, hq, by rw [h2]⟩
  refine ⟨h.tidy.put hk _, ?_, ?_, fun kl => ?_, fun s k hf z => ?_⟩
  · rw [hsz]
    have := h.sz
    split <;> omega
  · rw [hsz, hdrop, List.map_cons, List.nodup_cons, ← hmem, ← h.nd]
    have := h.sz
    cases hh : has D (keyT j.name)
    · simp
      omega
    · simp
      omega
  · by_cases e : kl = keyT j.name
    · subst e
      rw [Maps.has_put_same h.tidy.isMap hk]
      exact ⟨fun _ => ⟨i, j, Nat.le_refl _, hj, rfl⟩, fun _ => rfl⟩
    · rw [Maps.has_put_other e, h.keys]
      constructor
      · rintro ⟨k, j', h1, h2⟩
        exact ⟨k, j', by omega, h2⟩
      · rintro ⟨k, j', h1, h2, h3⟩
        refine ⟨k, j', ?_, h2, h3⟩
        rcases Nat.lt_or_ge i k with h4 | h4
        · exact h4
        · exfalso
          obtain rfl : k = i := by omega
          rw [hj] at h2
          exact e (by rw [h3, Option.some.inj h2])
  · obtain ⟨h1, ⟨j', h2, h3⟩, h4⟩ := hf
    by_cases e : s = j.name
    · subst e
      obtain rfl : k = i := by
        rcases Nat.lt_or_ge i k with h5 | h5
        · exact absurd rfl (h4 i (Nat.le_refl _) h5 j hj)
        · omega
      rw [Maps.atKey_put_same h.tidy.isMap hk]
    · rw [Maps.atKey_put_other (fun q => e (keyT_inj q))]
      have hki : i + 1 ≤ k := by
        rcases Nat.lt_or_ge i k with h5 | h5
        · exact h5
        · exfalso
          obtain rfl : k = i := by omega
          rw [hj] at h2
          exact e (by rw [← h3, Option.some.inj h2])
      exact h.val s k ⟨hki, ⟨j', h2, h3⟩, fun k' q1 q2 => h4 k' (by omega) q2⟩ z
/-- Each name that is there has a first joint. -/
theorem firstFrom_ex {js : List JD} {i : Nat} {s : ByteArray} : ∀ {k : Nat}, i ≤ k → (∃ j, js[k]? = some j ∧ j.name = s) → ∃ k', FirstFrom js i s k' := by
  intro k
  induction k using Nat.strongRecOn with
  | ind k ih =>
    intro hk hj
    by_cases h : ∃ k', i ≤ k' ∧ k' < k ∧ ∃ j, js[k']? = some j ∧ j.name = s
    · obtain ⟨k', h1, h2, h3⟩ := h
      exact ih k' h2 h1 h3
    · exact ⟨k, hk, hj, fun k' h1 h2 j h3 h4 => h ⟨k', h1, h2, j, h3, h4⟩⟩
theorem firstFrom_unique {js : List JD} {i : Nat} {s : ByteArray} {k k' : Nat} (h : FirstFrom js i s k) (h' : FirstFrom js i s k') : k = k' := by
  obtain ⟨h1, ⟨j, h2, h3⟩, h4⟩ := h
  obtain ⟨g1, ⟨j', g2, g3⟩, g4⟩ := h'
  rcases Nat.lt_trichotomy k k' with q | q | q
  · exact absurd h3 (g4 k h1 q j h2)
  · exact q
  · exact absurd g3 (h4 k' g1 q j' g2)
end Go.Proofs.Ytipmeijfmiiedaa
