/- The factoring of a symmetric matrix, as data: by columns, by rows: the same numbers. -/
import Derived.Test.YtdehcddjkcpnfaaGreatEL
import Derived.Test.YtdehcddjkcpnfaaGreatSym
import Derived.Test.YtdehcddjkcpnfaaGreatMatS
namespace Go.Proofs.YtdehcddjkcpnfaaGreat
set_option maxRecDepth 100000
open Go.RowKit

/-- x without the products of the first j of three sequences. -/
noncomputable def restF (x : RD) (f g d : Nat → RD) : Nat → RD
  | 0 => x
  | j + 1 => rsub (restF x f g d j) (rmul (rmul (f j) (g j)) (d j))
theorem restF_congr {x : RD} {f g d f' g' d' : Nat → RD} : ∀ {j : Nat} (_ : ∀ t, t < j → f t = f' t ∧ g t = g' t ∧ d t = d' t), restF x f g d j = restF x f' g' d' j
  | 0, _ => rfl
  | j + 1, h => by
    obtain ⟨h1, h2, h3⟩ := h j (by omega)
    simp only [restF]
    rw [restF_congr (j := j) fun t ht => h t (by omega), h1, h2, h3]
theorem restF_good {x : RD} {f g d : Nat → RD} (hx : x.ok ∨ x = RD.zero) : ∀ j, (restF x f g d j).ok ∨ restF x f g d j = RD.zero
  | 0 => hx
  | _ + 1 => rsub_good _ _
theorem restF_ok {x : RD} {f g d : Nat → RD} : ∀ {j : Nat} (_ : (restF x f g d j).ok), x.ok ∧ ∀ t, t < j → (f t).ok ∧ (g t).ok ∧ (d t).ok
  | 0, h => ⟨h, fun t ht => absurd ht (Nat.not_lt_zero t)⟩
  | j + 1, h => by
    obtain ⟨h1, h2⟩ := rsub_ok h
    obtain ⟨h3, h4⟩ := restF_ok h1
    obtain ⟨h5, h6⟩ := rmul_ok h2
    obtain ⟨h7, h8⟩ := rmul_ok h5
    refine ⟨h3, fun t ht => ?_⟩
    by_cases e : t = j
    · subst e; exact ⟨h7, h8, h6⟩
    · exact h4 t (by omega)
/-- The sequence of a list. -/
def seq (l : List RD) (j : Nat) : RD := (l[j]?).getD RD.zero
theorem seq_of {l : List RD} {j : Nat} {r : RD} (h : l[j]? = some r) : seq l j = r := by unfold seq; rw [h]; rfl
/-- One column of the factor, the columns ahead of it given: its elements by row, and its number. -/
noncomputable def nextCol (n : Nat) (rs : List RD) (C : List ((Nat → RD) × RD)) (k : Nat) : (Nat → RD) × RD :=
  let x := C.foldl (fun y c => rsub y (rmul (rmul (c.1 k) (c.1 k)) c.2)) (cell n rs k k)
  (fun i => rdiv (C.foldl (fun y c => rsub y (rmul (rmul (c.1 i) (c.1 k)) c.2)) (cell n rs i k)) x, x)
noncomputable def fcols (n : Nat) (rs : List RD) : Nat → List ((Nat → RD) × RD)
  | 0 => []
  | k + 1 => fcols n rs k ++ [nextCol n rs (fcols n rs k) k]
/-- The factor's element, and its number. -/
noncomputable def fL (n : Nat) (rs : List RD) (i k : Nat) : RD := (nextCol n rs (fcols n rs k) k).1 i
noncomputable def fD (n : Nat) (rs : List RD) (k : Nat) : RD := (nextCol n rs (fcols n rs k) k).2
theorem fcols_fold (n : Nat) (rs : List RD) (x : RD) (i k : Nat) : ∀ j, (fcols n rs j).foldl (fun y c => rsub y (rmul (rmul (c.1 i) (c.1 k)) c.2)) x = restF x (fL n rs i) (fL n rs k) (fD n rs) j
  | 0 => rfl
  | j + 1 => by
    simp only [fcols, List.foldl_append, List.foldl_cons, List.foldl_nil, restF]
    rw [fcols_fold n rs x i k j]
    rfl
theorem fD_eq (n : Nat) (rs : List RD) (k : Nat) : fD n rs k = restF (cell n rs k k) (fL n rs k) (fL n rs k) (fD n rs) k := fcols_fold n rs _ k k k
theorem fL_eq (n : Nat) (rs : List RD) (i k : Nat) : fL n rs i k = rdiv (restF (cell n rs i k) (fL n rs i) (fL n rs k) (fD n rs) k) (fD n rs k) := by
  have h1 : fL n rs i k = rdiv ((fcols n rs k).foldl (fun y c => rsub y (rmul (rmul (c.1 i) (c.1 k)) c.2)) (cell n rs i k)) (fD n rs k) := rfl
  rw [h1, fcols_fold]
theorem fL_good (n : Nat) (rs : List RD) (i k : Nat) : (fL n rs i k).ok ∨ fL n rs i k = RD.zero := by rw [fL_eq]; exact rdiv_good _ _
/-- A number that is valid and positive. -/
def RD.pos (r : RD) : Prop := r.ok ∧ r.g = false ∧ r.xs ≠ []
theorem fD_row {n : Nat} {rs : List RD} {k : Nat} (h : (fD n rs k).ok) : ∀ t, t < k → (fL n rs k t).ok := fun t ht => by
  rw [fD_eq] at h
  exact ((restF_ok h).2 t ht).1
def FacOk (n : Nat) (rs : List RD) : Prop := ∀ k, k < n → (fD n rs k).pos
theorem FacOk.row {n : Nat} {rs : List RD} (h : FacOk n rs) {i k : Nat} (hi : i < n) (hk : k < i) : (fL n rs i k).ok := fD_row (h i hi).1 k hk
/-- The factor with the elements of which P holds put in. -/
noncomputable def lowP (n : Nat) (rs : List RD) (P : Nat → Nat → Bool) : List RD := mk n n fun r c => if c < r ∧ P r c = true then fL n rs r c else if r = c then R1 else R0
noncomputable def lowF (n : Nat) (rs : List RD) : List RD := mk n n fun r c => if c < r then fL n rs r c else if r = c then R1 else R0
noncomputable def numF (n : Nat) (rs : List RD) : List RD := (List.range n).map (fD n rs)
theorem lowP_length (n : Nat) (rs : List RD) (P : Nat → Nat → Bool) : (lowP n rs P).length = n * n := mk_length
theorem lowF_length (n : Nat) (rs : List RD) : (lowF n rs).length = n * n := mk_length
theorem numF_length (n : Nat) (rs : List RD) : (numF n rs).length = n := by simp [numF]
theorem lowP_ident (n : Nat) (rs : List RD) : lowP n rs (fun _ _ => false) = ident n := by
  symm
  refine mk_of (by simp [ident]) fun i j hi hj => ?_
  have hlt : i * n + j < n * n := cell_lt hi hj
  rw [if_neg fun h => by cases h.2]
  unfold cell ident
  rw [List.getElem?_map, List.getElem?_range hlt, Option.map_some, Option.getD_some, div_of hj, mod_of hj]
  by_cases h : i = j
  · rw [if_pos h, if_pos h, rint1]
  · rw [if_neg h, if_neg h, rint0]
theorem lowP_full {n : Nat} {rs : List RD} {P : Nat → Nat → Bool} (h : ∀ r c, r < n → c < r → P r c = true) : lowP n rs P = lowF n rs := mk_congr fun r c hr hc => by
  by_cases e : c < r
  · rw [if_pos ⟨e, h r c hr e⟩, if_pos e]
  · rw [if_neg fun k => e k.1, if_neg e]
theorem lowP_congr {n : Nat} {rs : List RD} {P Q : Nat → Nat → Bool} (h : ∀ r c, r < n → c < r → P r c = Q r c) : lowP n rs P = lowP n rs Q := mk_congr fun r c hr hc => by
  by_cases e : c < r
  · rw [h r c hr e]
  · have n1 : ¬ (c < r ∧ P r c = true) := fun k => e k.1
    have n2 : ¬ (c < r ∧ Q r c = true) := fun k => e k.1
    rw [if_neg n1, if_neg n2]
/-- One element is put in. -/
theorem lowP_set {n : Nat} {rs : List RD} {P Q : Nat → Nat → Bool} {i j : Nat} (hi : i < n) (hj : j < i) (hQ : ∀ r c, r < n → c < r → (Q r c = true ↔ P r c = true ∨ (r = i ∧ c = j))) : (lowP n rs P).set (i * n + j) (fL n rs i j) = lowP n rs Q := by
  unfold lowP
  rw [mk_set hi (by omega)]
  refine mk_congr fun r c hr hc => ?_
  by_cases e : r = i ∧ c = j
  · obtain ⟨rfl, rfl⟩ := e
    rw [if_pos ⟨rfl, rfl⟩, if_pos ⟨hj, (hQ r c hr hj).2 (.inr ⟨rfl, rfl⟩)⟩]
  · rw [if_neg e]
    by_cases e1 : c < r
    · have hiff := hQ r c hr e1
      by_cases e2 : P r c = true
      · rw [if_pos ⟨e1, e2⟩, if_pos ⟨e1, hiff.2 (.inl e2)⟩]
      · have n1 : ¬ (c < r ∧ P r c = true) := fun k => e2 k.2
        have n2 : ¬ (c < r ∧ Q r c = true) := fun k => (hiff.1 k.2).elim e2 e
        rw [if_neg n1, if_neg n2]
    · have n1 : ¬ (c < r ∧ P r c = true) := fun k => e1 k.1
      have n2 : ¬ (c < r ∧ Q r c = true) := fun k => e1 k.1
      rw [if_neg n1, if_neg n2]
theorem cell_lowP {n r c : Nat} {rs : List RD} {P : Nat → Nat → Bool} (hr : r < n) (hc : c < r) (h : P r c = true) : cell n (lowP n rs P) r c = fL n rs r c := by
  unfold lowP
  rw [cell_mk hr (by omega), if_pos ⟨hc, h⟩]
theorem lowP_good {n : Nat} {rs : List RD} {P : Nat → Nat → Bool} : ∀ x ∈ lowP n rs P, x.ok ∨ x = RD.zero := by
  refine mk_all.2 fun r c hr hc => ?_
  by_cases e : c < r ∧ P r c = true
  · rw [if_pos e]; exact fL_good _ _ _ _
  · rw [if_neg e]
    by_cases e2 : r = c
    · rw [if_pos e2]; exact .inl R1_ok
    · rw [if_neg e2]; exact .inl R0_ok
theorem lowF_ok {n : Nat} {rs : List RD} (h : FacOk n rs) : ∀ x ∈ lowF n rs, x.ok := by
  refine mk_all.2 fun r c hr hc => ?_
  by_cases e : c < r
  · rw [if_pos e]; exact h.row hr e
  · rw [if_neg e]
    by_cases e2 : r = c
    · rw [if_pos e2]; exact R1_ok
    · rw [if_neg e2]; exact R0_ok
theorem numF_ok {n : Nat} {rs : List RD} (h : FacOk n rs) : ∀ x ∈ numF n rs, x.ok := fun x hx => by
  obtain ⟨k, hk, rfl⟩ := List.mem_map.1 hx
  exact (h k (List.mem_range.1 hk)).1
/-! What Factor and IsPositive return. -/
def SymOk (p k : Int) (rs : List RD) : Prop := MOk p k rs ∧ p = k ∧ rs = trans p.toNat k.toNat rs
def FactorOk (p k : Int) (rs : List RD) : Prop := SymOk p k rs ∧ FacOk p.toNat rs
def FactorIs (p k : Int) (rs : List RD) (q j : Int) (r l : List RD) (b : Bool) : Prop :=
  (FactorOk p k rs ∧ q = p ∧ j = k ∧ r = lowF p.toNat rs ∧ l = numF p.toNat rs ∧ b = true) ∨ (¬ FactorOk p k rs ∧ q = 0 ∧ j = 0 ∧ r = [] ∧ l = [] ∧ b = false)
theorem factor_unique {p k : Int} {rs : List RD} {q j q' j' : Int} {r r' l l' : List RD} {b b' : Bool} (h : FactorIs p k rs q j r l b) (h' : FactorIs p k rs q' j' r' l' b') : q = q' ∧ j = j' ∧ r = r' ∧ l = l' ∧ b = b' := by
  rcases h with ⟨a, rfl, rfl, rfl, rfl, rfl⟩ | ⟨a, rfl, rfl, rfl, rfl, rfl⟩ <;> rcases h' with ⟨c, rfl, rfl, rfl, rfl, rfl⟩ | ⟨c, rfl, rfl, rfl, rfl, rfl⟩
  · exact ⟨rfl, rfl, rfl, rfl, rfl⟩
  · exact absurd a c
  · exact absurd c a
  · exact ⟨rfl, rfl, rfl, rfl, rfl⟩
def IsPositiveIs (p k : Int) (rs : List RD) (b : Bool) : Prop := b = true ↔ FactorOk p k rs
theorem isPositive_unique {p k : Int} {rs : List RD} {b b' : Bool} (h : IsPositiveIs p k rs b) (h' : IsPositiveIs p k rs b') : b = b' := by
  unfold IsPositiveIs at h h'
  rw [Bool.eq_iff_iff, h, h']
theorem isPositive_of {p k q j : Int} {rs r l : List RD} {b : Bool} (h : FactorIs p k rs q j r l b) : IsPositiveIs p k rs b := by
  rcases h with ⟨a, _, _, _, _, rfl⟩ | ⟨a, _, _, _, _, rfl⟩
  · exact ⟨fun _ => a, fun _ => rfl⟩
  · exact ⟨fun h => (by cases h), fun h => absurd h a⟩
end Go.Proofs.YtdehcddjkcpnfaaGreat
namespace Go.Proofs.YtdehcddjkcpnfaaGreat
set_option maxRecDepth 100000
open Go.RowKit

def ResMV (w w' : World) (V : Value) (rs : List RD) (U : Value) (ds : List RD) : Prop :=
  (rs.length + tot rs ≤ 1048576 ∧ (∀ r ∈ rs, r.fits) ∧ ds.length + tot ds ≤ 1048576 ∧ ∀ r ∈ ds, r.fits) ∧
    ∃ L K, OwnV w' w.heap.size V rs.length L ∧ Has L rs ∧ OwnV w' w.heap.size U ds.length K ∧ Has K ds ∧ ∀ j, footV V L j → ¬ footV U K j
def FactorEnd (p k : Int) (rs : List RD) (w w' : World) (e : Ending) : Prop :=
  ∃ q j r V l U b, e = .returned (.tuple #[.agg #[.int .i64 q, .int .i64 j, V], U, .bool b]) ∧ FactorIs p k rs q j r l b ∧ ResMV w w' V r U l ∧ Below w.heap.size w w'
theorem resMV_nil (w w' : World) : ResMV w w' (.slice none 0 0) [] (.slice none 0 0) [] :=
  ⟨⟨by simp [tot], by simp, by simp [tot], by simp⟩, [], [], OwnV.none_ _ _, trivial, OwnV.none_ _ _, trivial, fun j hj => by
    rcases hj with hj | ⟨y, hy, _⟩
    · simp [Value.ownBlock] at hj
    · simp at hy⟩
theorem factorEnd_no {p k : Int} {rs : List RD} {w w' : World} (h : ¬ FactorOk p k rs) (hb : Below w.heap.size w w') : FactorEnd p k rs w w' (.returned (.tuple #[.agg #[.int .i64 0, .int .i64 0, .slice none 0 0], .slice none 0 0, .bool false])) :=
  ⟨0, 0, [], _, [], _, false, rfl, .inr ⟨h, rfl, rfl, rfl, rfl, rfl⟩, resMV_nil _ _, hb⟩
theorem lowF_goods {n : Nat} {rs : List RD} (hn : n ≤ 24) (h : FacOk n rs) : Goods (lowF n rs) := ⟨by rw [lowF_length]; have := mul_le_576 hn hn; omega, fun r hr => .inl (lowF_ok h r hr)⟩
theorem numF_goods {n : Nat} {rs : List RD} (hn : n ≤ 24) (h : FacOk n rs) : Goods (numF n rs) := ⟨by rw [numF_length]; omega, fun r hr => .inl (numF_ok h r hr)⟩
theorem factorEnd_yes {n : Nat} {rs : List RD} {w w' : World} {V U : Value} {L K : List El} (h : FactorOk n n rs) (ho : OwnV w' w.heap.size V (n * n) L) (hh : Has L (lowF n rs)) (hd : OwnV w' w.heap.size U n K) (hk : Has K (numF n rs)) (hf : ∀ j, footV V L j → ¬ footV U K j) (hb : Below w.heap.size w w') :
    FactorEnd n n rs w w' (.returned (.tuple #[.agg #[.int .i64 n, .int .i64 n, V], U, .bool true])) := by
  have hn : n ≤ 24 := by have := h.1.1.1; omega
  have hfo : FacOk n rs := by have := h.2; simpa using this
  have g1 := lowF_goods hn hfo
  have g2 := numF_goods hn hfo
  refine ⟨n, n, lowF n rs, V, numF n rs, U, true, rfl, .inl ⟨h, rfl, rfl, by simp, by simp, rfl⟩, ⟨⟨g1.room, g1.fits, g2.room, g2.fits⟩, L, K, by rw [lowF_length]; exact ho, hh, by rw [numF_length]; exact hd, hk, hf⟩, hb⟩
def IsPosEnd (p k : Int) (rs : List RD) (w w' : World) (e : Ending) : Prop := ∃ b, e = .returned (.bool b) ∧ IsPositiveIs p k rs b ∧ Below w.heap.size w w'
end Go.Proofs.YtdehcddjkcpnfaaGreat
