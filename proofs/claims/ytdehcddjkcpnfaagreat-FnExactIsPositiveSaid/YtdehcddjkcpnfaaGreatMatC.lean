/- Matrices in memory: what the functions on matrices end in; a list of fractions beside a variable that is written; rows of a list that was handed in. -/
import Derived.Test.YtdehcddjkcpnfaaGreatMat
import Derived.Test.YtdehcddjkcpnfaaGreatGV
namespace Go.Proofs.YtdehcddjkcpnfaaGreat
set_option maxRecDepth 100000
open Go.RowKit

theorem own_le {w : World} {base : Nat} {E : TypeId} {size n c : Nat} {A : Option Addr} {xs : List Value} (h : w.ownsRow base E size (.slice A n c) n xs) : n ≤ c := by
  rcases h.2 with ⟨hv, h0⟩ | ⟨g, cap, cur, hv, _, _, hc, _⟩
  · omega
  · cases hv; exact hc
/-- A list of fractions beside a box of another type, which is written. -/
theorem OwnV.box_set {w : World} {base n : Nat} {V : Value} {L : List El} {g i : Nat} {t : TypeId} {cs : Array Value} (h : OwnV w base V n L) (hb : Box w g t cs) (u : Value) (h1 : 30 ≠ t := by decide) (h2 : 3 ≠ t := by decide) : OwnV (w.setCell ⟨g, i, none⟩ u) base V n L := by
  refine h.dep fun k hk => Below.heap_setCell _ _ _ _ fun e => ?_
  subst e
  rcases hk with hk | ⟨x, hx, hk | hk⟩
  · exact ne_own hb h.2.1 h1 hk.symm
  · exact ne_own hb (h.2.2.1 x hx).1 h2 hk.symm
  · exact ne_own hb (h.2.2.1 x hx).2.1 h2 hk.symm
theorem OwnV.box_set3 {w : World} {base n : Nat} {V : Value} {L : List El} {g : Nat} {t : TypeId} {cs : Array Value} (h : OwnV w base V n L) (hb : Box w g t cs) (u0 u1 u2 : Value) (h1 : 30 ≠ t := by decide) (h2 : 3 ≠ t := by decide) :
    OwnV (((w.setCell ⟨g, 0, none⟩ u0).setCell ⟨g, 1, none⟩ u1).setCell ⟨g, 2, none⟩ u2) base V n L :=
  ((h.box_set hb u0 h1 h2).box_set (hb.set_ 0 u0) u1 h1 h2).box_set ((hb.set_ 0 u0).set_ 1 u1) u2 h1 h2
/-- A box of another type beside a list of fractions that is written. -/
theorem Box.wroteV {w w' : World} {g base n : Nat} {t : TypeId} {cs : Array Value} {V : Value} {L : List El} (h : Box w g t cs) (ho : OwnV w base V n L) (hW : Wrote (footV V L) w w') (h1 : 30 ≠ t := by decide) (h2 : 3 ≠ t := by decide) : Box w' g t cs := by
  refine (hW.block g h.lt fun hk => ?_).trans h
  rcases hk with hk | ⟨x, hx, hk | hk⟩
  · exact ne_own h ho.2.1 h1 hk.symm
  · exact ne_own h (ho.2.2.1 x hx).1 h2 hk.symm
  · exact ne_own h (ho.2.2.1 x hx).2.1 h2 hk.symm
def MatEnd (Q : Int → Int → List RD → Prop) (w w' : World) (e : Ending) : Prop := ∃ p k r V, e = .returned (.agg #[.int .i64 p, .int .i64 k, V]) ∧ Q p k r ∧ ResV w w' V r ∧ Below w.heap.size w w'
def MatOkEnd (Q : Int → Int → List RD → Bool → Prop) (w w' : World) (e : Ending) : Prop := ∃ p k r V b, e = .returned (.tuple #[.agg #[.int .i64 p, .int .i64 k, V], .bool b]) ∧ Q p k r b ∧ ResV w w' V r ∧ Below w.heap.size w w'
theorem matEnd_zero {Q : Int → Int → List RD → Prop} {w W : World} {g : Nat} (h : Q 0 0 []) (hb : Below w.heap.size w W) (hg : w.heap.size ≤ g) (u0 u1 u2 : Value) :
    MatEnd Q w (((W.setCell ⟨g, 0, none⟩ u0).setCell ⟨g, 1, none⟩ u1).setCell ⟨g, 2, none⟩ u2) (.returned (.agg #[.int .i64 0, .int .i64 0, .slice none 0 0])) := ⟨0, 0, [], _, rfl, h, resV_nil _ _, below_store3 hb hg _ _ _⟩
section
variable {w W : World} {gb n base : Nat} {cs : Array Value} {p k : Int} {V : Value} {r : List RD} {L : List El}
theorem matEnd_store {Q : Int → Int → List RD → Prop} (hbx : Box W gb 47 cs) (hg : w.heap.size ≤ gb) (hb : Below w.heap.size w W) (hQ : Q p k r) (hgd : Goods r) (hn : r.length = n) (ho : OwnV W base V n L) (hba : w.heap.size ≤ base) (hh : Has L r) :
    MatEnd Q w (((W.setCell ⟨gb, 0, none⟩ (.int .i64 p)).setCell ⟨gb, 1, none⟩ (.int .i64 k)).setCell ⟨gb, 2, none⟩ V) (.returned (.agg #[.int .i64 p, .int .i64 k, V])) :=
  ⟨p, k, r, V, rfl, hQ, resV_mk hgd hn ((ho.lower hba).box_set3 hbx _ _ _) hh, below_store3 hb hg _ _ _⟩
end
def MOkEnd (p k : Int) (rs : List RD) (w w' : World) (e : Ending) : Prop := ∃ b, e = .returned (.bool b) ∧ MatrixOkIs p k rs b ∧ Below w.heap.size w w'
def EqMEnd (p k : Int) (rs : List RD) (p' k' : Int) (ss : List RD) (w w' : World) (e : Ending) : Prop := ∃ b, e = .returned (.bool b) ∧ EqualMatricesIs p k rs p' k' ss b ∧ Below w.heap.size w w'
/-- Row u / K of a list that lies at A: where it lies. -/
def MRowAt (A A' : Option Addr) (K u : Nat) : Prop := K = 0 ∨ ∃ b o, A = some ⟨b, o, none⟩ ∧ A' = some ⟨b, o + u * 3, none⟩
def MRowEnd (A : Option Addr) (K u : Nat) (w w' : World) (e : Ending) : Prop := ∃ A' c', e = .returned (.slice A' K c') ∧ K ≤ c' ∧ MRowAt A A' K u ∧ Below w.heap.size w w'
theorem InV.row {w : World} {A A' : Option Addr} {n K i : Nat} {rs : List RD} (h : InV w A n rs) (hr : MRowAt A A' K (i * K)) (hle : i * K + K ≤ n) (hK : K ≤ 24) : InV w A' K (mrow K rs i) := by
  have hl : (mrow K rs i).length = K := by simp only [mrow, List.length_take, List.length_drop]; have := h.1; omega
  refine ⟨hl, by omega, ?_⟩
  rcases hr with h0 | ⟨b, o, rfl, rfl⟩
  · exact .inl h0
  · by_cases h0 : K = 0
    · exact .inl h0
    rcases h.2.2 with hn | ⟨b', o', hA, hlt, hat⟩
    · omega
    · cases hA
      refine .inr ⟨b, _, rfl, hlt, fun j hj => ?_⟩
      rw [hl] at hj
      have hx : i * K + j < rs.length := by have := h.1; omega
      have e : (mrow K rs i)[j] = rs[i * K + j] := by
        have := mrow_at (rs := rs) (i := i) hj
        rw [List.getElem?_eq_getElem (by rw [hl]; exact hj), List.getElem?_eq_getElem hx] at this
        exact Option.some.inj this
      rw [e, show o + i * K * 3 + j * 3 = o + (i * K + j) * 3 by omega]
      exact hat _ hx
/-- An element, as it lies there. -/
def AtEnd (r : RD) (w w' : World) (e : Ending) : Prop := ∃ A n c B m d, e = .returned (.agg #[.bool r.g, .slice A n c, .slice B m d]) ∧ InI w' A n r.xs ∧ Room A n c ∧ InI w' B m r.ds ∧ Room B m d ∧ Below w.heap.size w w'
theorem in_yes {n lo hi : Int} (h : (decide (lo ≤ n) && decide (n ≤ hi)) = true) : lo ≤ n ∧ n ≤ hi := by simpa using h
theorem prod576 {P K : Nat} (hP : P ≤ 24) (hK : K ≤ 24) : (0 : Int) ≤ (P : Int) * (K : Int) ∧ (P : Int) * (K : Int) ≤ 576 := by
  have h := mul_le_576 hP hK
  have e : ((P * K : Nat) : Int) = (P : Int) * (K : Int) := Int.natCast_mul _ _
  omega
/-- A list is told by its rows. -/
theorem mok_rows {P K : Nat} {rs : List RD} (hP : P ≤ 24) (hK : K ≤ 24) (hl : rs.length = P * K) (h : ∀ i, i < P → VOk (mrow K rs i)) : MOk P K rs := by
  refine ⟨by omega, by omega, by rw [hl]; exact Int.natCast_mul _ _, fun r hr => ?_⟩
  obtain ⟨t, ht, rfl⟩ := List.mem_iff_getElem.1 hr
  have hK0 : 0 < K := by
    rcases Nat.eq_zero_or_pos K with h0 | h0
    · subst h0; omega
    · exact h0
  have hi : t / K < P := by rw [Nat.div_lt_iff_lt_mul hK0]; omega
  have hj := Nat.mod_lt t hK0
  have he : t / K * K + t % K = t := by rw [Nat.mul_comm]; exact Nat.div_add_mod t K
  have := mrow_at (rs := rs) (i := t / K) hj
  rw [he, List.getElem?_eq_getElem ht] at this
  exact (h _ hi).2 _ (List.mem_of_getElem? this)
theorem box3_far {w : World} {b : Nat} {t : TypeId} {x y z : Value} (h : Hid (Box w b t #[x, y, z])) : w.cell? ⟨b, 0, none⟩ = some x ∧ w.cell? ⟨b, 1, none⟩ = some y ∧ w.cell? ⟨b, 2, none⟩ = some z := ⟨h.out.cell 0, h.out.cell 1, h.out.cell 2⟩
theorem Box.set3 {w : World} {g G : Nat} {t : TypeId} {cs : Array Value} (h : Box w g t cs) (hne : g ≠ G) (i j k : Nat) (u0 u1 u2 : Value) : Box (((w.setCell ⟨G, i, none⟩ u0).setCell ⟨G, j, none⟩ u1).setCell ⟨G, k, none⟩ u2) g t cs :=
  ((h.far (p := ⟨G, i, none⟩) hne u0).far (p := ⟨G, j, none⟩) hne u1).far (p := ⟨G, k, none⟩) hne u2
theorem Box.setAt2 {w : World} {g : Nat} {t : TypeId} {x y z : Value} (h : Box w g t #[x, y, z]) (u : Value) : Box (w.setCell ⟨g, 2, none⟩ u) g t #[x, y, u] := by
  have := h.set_ 2 u
  simpa using this
theorem two_mats {w : World} {b b' : Nat} {t t' : TypeId} {x y z x' y' z' : Value} (h : Hid (Box w b t #[x, y, z])) (k : Hid (Box w b' t' #[x', y', z'])) :
    w.cell? ⟨b, 0, none⟩ = some x ∧ w.cell? ⟨b, 1, none⟩ = some y ∧ w.cell? ⟨b, 2, none⟩ = some z ∧ w.cell? ⟨b', 0, none⟩ = some x' ∧ w.cell? ⟨b', 1, none⟩ = some y' ∧ w.cell? ⟨b', 2, none⟩ = some z' :=
  ⟨h.out.cell 0, h.out.cell 1, h.out.cell 2, k.out.cell 0, k.out.cell 1, k.out.cell 2⟩
/-- A variable's box is none of the list's blocks. -/
theorem box_main {w : World} {g base n : Nat} {t : TypeId} {cs : Array Value} {V : Value} {L : List El} (h : Box w g t cs) (ho : OwnV w base V n L) (h1 : 30 ≠ t := by decide) : some g ≠ V.ownBlock := ne_own h ho.2.1 h1
end Go.Proofs.YtdehcddjkcpnfaaGreat
