/- Symmetric matrices, as data: what the functions of the chapter answer. -/
import Derived.Test.YthjbfdifeffilaaMatC
import Derived.Test.YthjbfdifeffilaaVecB
import Derived.Test.YthjbfdifeffilaaMatS1
namespace Go.Proofs.Ythjbfdifeffilaa
set_option maxRecDepth 100000
open Go.RowKit

def IsSymmetricIs (p k : Int) (rs : List RD) (b : Bool) : Prop := b = true ↔ MOk p k rs ∧ p = k ∧ rs = trans p.toNat k.toNat rs
theorem isSymmetric_unique {p k : Int} {rs : List RD} {b b' : Bool} (h : IsSymmetricIs p k rs b) (h' : IsSymmetricIs p k rs b') : b = b' := by
  unfold IsSymmetricIs at h h'
  rw [Bool.eq_iff_iff, h, h']
theorem sym_no {p k : Int} {rs : List RD} (h : ¬ (MOk p k rs ∧ p = k)) : IsSymmetricIs p k rs false := by
  unfold IsSymmetricIs
  exact ⟨fun h1 => (by cases h1), fun h1 => absurd ⟨h1.1, h1.2.1⟩ h⟩
theorem sym_of {p k q j : Int} {rs r : List RD} {b : Bool} (ht : TransposeIs p k rs q j r) (he : EqualMatricesIs p k rs q j r b) : IsSymmetricIs p k rs b := by
  unfold IsSymmetricIs
  unfold EqualMatricesIs at he
  rw [he]
  rcases ht with ⟨h, rfl, rfl, rfl⟩ | ⟨h, rfl, rfl, rfl⟩
  · exact ⟨fun ⟨h1, _, h2⟩ => ⟨h, h1, h2⟩, fun ⟨_, h1, h2⟩ => ⟨h1, h1.symm, h2⟩⟩
  · constructor
    · rintro ⟨rfl, rfl, rfl⟩
      exact absurd ⟨⟨by omega, by omega⟩, ⟨by omega, by omega⟩, by simp, by simp⟩ h
    · exact fun h1 => absurd h1.1 h
/-- A fraction and true, or the zero value and false. -/
def RatDoneIs (P : Prop) (v : RD) (g : Bool) (l d : List Int) (q : Bool) : Prop := ((P ∧ v.ok) ∧ RD.mk g l d = v ∧ q = true) ∨ (¬ (P ∧ v.ok) ∧ RD.mk g l d = RD.zero ∧ q = false)
theorem ratDone_unique {P : Prop} {v : RD} {g g' q q' : Bool} {l d l' d' : List Int} (h : RatDoneIs P v g l d q) (h' : RatDoneIs P v g' l' d' q') : g = g' ∧ l = l' ∧ d = d' ∧ q = q' := by
  rcases h with ⟨k, e, rfl⟩ | ⟨k, e, rfl⟩ <;> rcases h' with ⟨k', e', rfl⟩ | ⟨k', e', rfl⟩
  · have := e.trans e'.symm; cases this; exact ⟨rfl, rfl, rfl, rfl⟩
  · exact absurd k k'
  · exact absurd k' k
  · have := e.trans e'.symm; cases this; exact ⟨rfl, rfl, rfl, rfl⟩
theorem ratDone_no {P : Prop} {v : RD} (h : ¬ P) : RatDoneIs P v false [] [] false := .inr ⟨fun k => h k.1, rfl, rfl⟩
theorem ratDone_of {P : Prop} {v q : RD} {b : Bool} (hP : P) (he : v = q) (hg : q.ok ∨ q = RD.zero) (hb : b = true ↔ q.ok) : RatDoneIs P v q.g q.xs q.ds b := by
  subst he
  cases b
  · exact .inr ⟨fun h => (by have h1 := hb.2 h.2; cases h1), hg.resolve_left (fun h => (by have h1 := hb.2 h; cases h1)), rfl⟩
  · exact .inl ⟨⟨hP, hb.1 rfl⟩, rfl, rfl⟩
/-- The elements with equal row and column. -/
def diag (P : Nat) (rs : List RD) : List RD := (List.range P).map fun i => (rs[i * P + i]?).getD RD.zero
theorem diag_length (P : Nat) (rs : List RD) : (diag P rs).length = P := by simp [diag]
theorem diag_at {P i : Nat} {rs : List RD} {r : RD} (hi : i < P) (hr : rs[i * P + i]? = some r) : (diag P rs)[i]? = some r := by
  unfold diag
  rw [List.getElem?_map, List.getElem?_range hi, Option.map_some, hr, Option.getD_some]
theorem diag_ok {P : Nat} {rs : List RD} (h : MOk P P rs) : ∀ x ∈ diag P rs, x.ok := by
  intro x hx
  obtain ⟨i, hi, rfl⟩ := List.mem_map.1 hx
  obtain ⟨r, hr, hrk⟩ := h.at_ (List.mem_range.1 hi) (List.mem_range.1 hi)
  rw [hr]
  exact hrk
theorem diag_goods {P : Nat} {rs : List RD} (h : MOk P P rs) : Goods (diag P rs) := ⟨by rw [diag_length]; have := h.1; omega, fun x hx => .inl (diag_ok h x hx)⟩
def DiagonalOfIs (p k : Int) (rs r : List RD) : Prop := ((MOk p k rs ∧ p = k) ∧ r = diag p.toNat rs) ∨ (¬ (MOk p k rs ∧ p = k) ∧ r = [])
theorem diagonalOf_unique {p k : Int} {rs r r' : List RD} (h : DiagonalOfIs p k rs r) (h' : DiagonalOfIs p k rs r') : r = r' := by
  rcases h with ⟨a, rfl⟩ | ⟨a, rfl⟩ <;> rcases h' with ⟨b, rfl⟩ | ⟨b, rfl⟩
  · rfl
  · exact absurd a b
  · exact absurd b a
  · rfl
def TraceOfIs (p k : Int) (rs : List RD) (g : Bool) (l d : List Int) (q : Bool) : Prop := RatDoneIs (MOk p k rs ∧ p = k) (rsum (diag p.toNat rs) p.toNat) g l d q
theorem traceOf_unique {p k : Int} {rs : List RD} {g g' q q' : Bool} {l d l' d' : List Int} (h : TraceOfIs p k rs g l d q) (h' : TraceOfIs p k rs g' l' d' q') : g = g' ∧ l = l' ∧ d = d' ∧ q = q' := ratDone_unique h h'
def QuadraticFormIs (p k : Int) (rs v : List RD) (g : Bool) (l d : List Int) (q : Bool) : Prop :=
  RatDoneIs ((MOk p k rs ∧ VOk v ∧ (v.length : Int) = k) ∧ p = k ∧ ∀ x ∈ mapp p.toNat k.toNat rs v, x.ok) (rinner v (mapp p.toNat k.toNat rs v)) g l d q
theorem quadraticForm_unique {p k : Int} {rs v : List RD} {g g' q q' : Bool} {l d l' d' : List Int} (h : QuadraticFormIs p k rs v g l d q) (h' : QuadraticFormIs p k rs v g' l' d' q') : g = g' ∧ l = l' ∧ d = d' ∧ q = q' := ratDone_unique h h'
theorem quad_of {p k : Int} {rs v r : List RD} {g q : Bool} {l d : List Int} (ha : ApplyMatrixIs p k rs v r true) (hi : InnerProductIs v r g l d q) : QuadraticFormIs p k rs v g l d q := by
  rcases ha with ⟨⟨⟨hm, hv, hl⟩, hok⟩, rfl, _⟩ | ⟨_, _, h⟩
  case inr => cases h
  have hp := hm.1
  have hk := hm.2.1
  have hlen : (mapp p.toNat k.toNat rs v).length = p.toNat := by simp [mapp]
  have hpair : PairOk v (mapp p.toNat k.toNat rs v) ↔ p = k := by
    constructor
    · intro h
      have h1 := h.2.2
      rw [hlen] at h1
      omega
    · intro h
      exact ⟨hv, ⟨by rw [hlen]; omega, hok⟩, by rw [hlen]; omega⟩
  rcases hi with ⟨⟨h1, h2⟩, h3, h4⟩ | ⟨h1, h3, h4⟩
  · exact .inl ⟨⟨⟨⟨hm, hv, hl⟩, hpair.1 h1, hok⟩, h2⟩, h3, h4⟩
  · exact .inr ⟨fun h => h1 ⟨hpair.2 h.1.2.1, h.2⟩, h3, h4⟩
theorem quad_no {p k : Int} {rs v r : List RD} (ha : ApplyMatrixIs p k rs v r false) : QuadraticFormIs p k rs v false [] [] false := by
  rcases ha with ⟨_, _, h⟩ | ⟨hno, _⟩
  · cases h
  · exact ratDone_no fun h => hno ⟨h.1, h.2.2⟩
/-- The element before number i, or -1. -/
def lastAt (l : List Int) (i : Nat) : Int := if i = 0 then -1 else (l[i - 1]?).getD (-1)
theorem lastAt_zero (l : List Int) : lastAt l 0 = -1 := rfl
theorem lastAt_succ {l : List Int} {i : Nat} {x : Int} (h : l[i]? = some x) : lastAt l (i + 1) = x := by simp [lastAt, h]
/-- Number i is greater than the one before, and less than n. -/
def AscAt (n : Int) (l : List Int) (i : Nat) : Prop := ∀ x, l[i]? = some x → lastAt l i < x ∧ x < n
def AscIs (n : Int) (l : List Int) : Prop := ∀ i, i < l.length → AscAt n l i
theorem AscIs.ge {n : Int} {l : List Int} (h : AscIs n l) : ∀ (i : Nat) (x : Int), l[i]? = some x → (i : Int) ≤ x := by
  intro i
  induction i with
  | zero =>
    intro x hx
    obtain ⟨h0, _⟩ := List.getElem?_eq_some_iff.1 hx
    have h1 := (h 0 h0 x hx).1
    rw [lastAt_zero] at h1
    omega
  | succ i ih =>
    intro x hx
    obtain ⟨h0, _⟩ := List.getElem?_eq_some_iff.1 hx
    have hg : l[i]? = some l[i] := List.getElem?_eq_getElem (by omega)
    have h1 := (h (i + 1) h0 x hx).1
    rw [lastAt_succ hg] at h1
    have := ih _ hg
    omega
theorem AscIs.nat {n : Int} {l : List Int} (h : AscIs n l) {i : Nat} {x : Int} (hx : l[i]? = some x) : 0 ≤ x ∧ x < n := by
  obtain ⟨h0, _⟩ := List.getElem?_eq_some_iff.1 hx
  exact ⟨by have := h.ge i x hx; omega, (h i h0 x hx).2⟩
theorem AscIs.len {n : Int} {l : List Int} (h : AscIs n l) (hn : 0 ≤ n) : (l.length : Int) ≤ n := by
  rcases Nat.eq_zero_or_pos l.length with h0 | h0
  · omega
  · have hg : l[l.length - 1]? = some l[l.length - 1] := List.getElem?_eq_getElem (by omega)
    have h1 := h.ge _ _ hg
    have h2 := (h.nat hg).2
    omega
/-- The elements of these rows and of the columns with the same indices: the first u of them, row by row. -/
def subAt (P : Nat) (rs : List RD) (l : List Int) (i j : Nat) : RD := (rs[((l[i]?).getD 0).toNat * P + ((l[j]?).getD 0).toNat]?).getD RD.zero
def sub (P : Nat) (rs : List RD) (l : List Int) : List RD := (List.range (l.length * l.length)).map fun t => subAt P rs l (t / l.length) (t % l.length)
theorem sub_length (P : Nat) (rs : List RD) (l : List Int) : (sub P rs l).length = l.length * l.length := by simp [sub]
theorem sub_at {P i j : Nat} {rs : List RD} {l : List Int} {x y : Int} {r : RD} (hx : l[i]? = some x) (hy : l[j]? = some y) (hr : rs[x.toNat * P + y.toNat]? = some r) : (sub P rs l)[i * l.length + j]? = some r := by
  obtain ⟨h1, _⟩ := List.getElem?_eq_some_iff.1 hx
  obtain ⟨h2, _⟩ := List.getElem?_eq_some_iff.1 hy
  unfold sub
  rw [List.getElem?_map, List.getElem?_range (cell_lt h1 h2), Option.map_some, div_of h2, mod_of h2]
  unfold subAt
  rw [hx, hy, Option.getD_some, Option.getD_some, hr, Option.getD_some]
theorem sub_ok {P : Nat} {rs : List RD} {l : List Int} (h : MOk P P rs) (ha : AscIs P l) : ∀ x ∈ sub P rs l, x.ok := by
  intro x hx
  obtain ⟨t, ht, rfl⟩ := List.mem_map.1 hx
  have h0 := List.mem_range.1 ht
  have hl : 0 < l.length := by
    rcases Nat.eq_zero_or_pos l.length with h1 | h1
    · rw [h1] at h0; omega
    · exact h1
  have hj := Nat.mod_lt t hl
  have hi : t / l.length < l.length := by rw [Nat.div_lt_iff_lt_mul hl]; exact h0
  have e1 : l[t / l.length]? = some l[t / l.length] := List.getElem?_eq_getElem hi
  have e2 : l[t % l.length]? = some l[t % l.length] := List.getElem?_eq_getElem hj
  have n1 := ha.nat e1
  have n2 := ha.nat e2
  obtain ⟨r, hr, hrk⟩ := h.at_ (i := (l[t / l.length]).toNat) (j := (l[t % l.length]).toNat) (by omega) (by omega)
  unfold subAt
  rw [e1, e2, Option.getD_some, Option.getD_some, hr]
  exact hrk
def SubmatrixIs (p k : Int) (rs : List RD) (l : List Int) (q j : Int) (r : List RD) (b : Bool) : Prop :=
  (((MOk p k rs ∧ p = k) ∧ AscIs p l) ∧ q = l.length ∧ j = l.length ∧ r = sub p.toNat rs l ∧ b = true) ∨ (¬ ((MOk p k rs ∧ p = k) ∧ AscIs p l) ∧ q = 0 ∧ j = 0 ∧ r = [] ∧ b = false)
theorem submatrix_unique {p k : Int} {rs : List RD} {l : List Int} {q j q' j' : Int} {r r' : List RD} {b b' : Bool} (h : SubmatrixIs p k rs l q j r b) (h' : SubmatrixIs p k rs l q' j' r' b') : q = q' ∧ j = j' ∧ r = r' ∧ b = b' := by
  rcases h with ⟨a, rfl, rfl, rfl, rfl⟩ | ⟨a, rfl, rfl, rfl, rfl⟩ <;> rcases h' with ⟨b, rfl, rfl, rfl, rfl⟩ | ⟨b, rfl, rfl, rfl, rfl⟩
  · exact ⟨rfl, rfl, rfl, rfl⟩
  · exact absurd a b
  · exact absurd b a
  · exact ⟨rfl, rfl, rfl, rfl⟩
def BoolEnd (Q : Bool → Prop) (w w' : World) (e : Ending) : Prop := ∃ b, e = .returned (.bool b) ∧ Q b ∧ Below w.heap.size w w'
theorem diag_no {p k : Int} {rs : List RD} (h : ¬ (MOk p k rs ∧ p = k)) : DiagonalOfIs p k rs [] := .inr ⟨h, rfl⟩
theorem OwnV.wroteG {w w' : World} {base G n : Nat} {V : Value} {L : List El} (h : OwnV w base V n L) (hW : Wrote (fun k => k = G) w w') (hG : G < base) : OwnV w' base V n L := h.dep fun k hk => hW.block k (h.lt k hk).2 (by have := (h.lt k hk).1; omega)
/-- A list that a call has handed back, to be handed on. -/
theorem resV_in {w w' : World} {V : Value} {rs : List RD} {n : Nat} (h : ResV w w' V rs) (hn : rs.length = n) : ∃ A c, V = .slice A n c ∧ n ≤ c ∧ InV w' A n rs := by
  obtain ⟨h1, h2, L, ho, hh⟩ := h
  rw [hn] at ho h1
  obtain ⟨A, c, rfl⟩ := ho.slice
  exact ⟨A, c, rfl, own_le ho.2.1, ho.in_ hh (by omega) h2⟩
end Go.Proofs.Ythjbfdifeffilaa
