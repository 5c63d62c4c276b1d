/- What Reduce, RankOf and Determinant return, as relations; a matrix and a list of integers, handed back together. -/
import Derived.Test.YthjbfdifeffilaaGreatElimE
namespace Go.Proofs.YthjbfdifeffilaaGreat
set_option maxRecDepth 100000
open Go.RowKit

noncomputable def fin (p k : Int) (rs : List RD) : ES := est p.toNat k.toNat rs k.toNat
def pvs (pv : List Nat) : List Int := pv.map fun (x : Nat) => (x : Int)
theorem pvs_vals (pv : List Nat) : (pvs pv).map (Value.int .i64) = ivals pv := by simp [pvs, ivals, List.map_map, Function.comp_def]
theorem pvs_length (pv : List Nat) : (pvs pv).length = pv.length := by simp [pvs]
section
variable {p k : Int} {rs : List RD}
def RankOfIs (p k : Int) (rs : List RD) (r : Int) : Prop := (Elim p k rs ∧ r = ((fin p k rs).pv.length : Int)) ∨ (¬ Elim p k rs ∧ r = -1)
def ReduceIs (p k : Int) (rs : List RD) (q j : Int) (r : List RD) (l : List Int) (b : Bool) : Prop :=
  (Elim p k rs ∧ q = p ∧ j = k ∧ r = (fin p k rs).rs ∧ l = pvs (fin p k rs).pv ∧ b = true) ∨ (¬ Elim p k rs ∧ q = 0 ∧ j = 0 ∧ r = [] ∧ l = [] ∧ b = false)
noncomputable def detv (p k : Int) (rs : List RD) : RD := open Classical in if ((fin p k rs).pv.length : Int) < p then R0 else prod (fin p k rs).fs
def DeterminantIs (p k : Int) (rs : List RD) (g : Bool) (l d : List Int) (b : Bool) : Prop :=
  ((Elim p k rs ∧ p = k) ∧ RD.mk g l d = detv p k rs ∧ (b = true ↔ (detv p k rs).ok)) ∨ (¬ (Elim p k rs ∧ p = k) ∧ RD.mk g l d = RD.zero ∧ b = false)
end
/-- A matrix's elements and a list of integers of the call's own, handed back together. -/
def ResVI (w w' : World) (V : Value) (rs : List RD) (v : Value) (l : List Int) : Prop :=
  rs.length + tot rs ≤ 1048576 ∧ (∀ r ∈ rs, r.fits) ∧ l.length ≤ 1048576 ∧ ∃ L, OwnV w' w.heap.size V rs.length L ∧ Has L rs ∧ w'.ownsRow w.heap.size 3 1 v l.length (l.map (.int .i64)) ∧ Off v L
def RedMEnd (Q : Int → Int → List RD → List Int → Bool → Prop) (w w' : World) (e : Ending) : Prop :=
  ∃ q j r V l v b, e = .returned (.tuple #[.agg #[.int .i64 q, .int .i64 j, V], v, .bool b]) ∧ Q q j r l b ∧ ResVI w w' V r v l ∧ Below w.heap.size w w'
theorem resVI_nil (w w' : World) : ResVI w w' (.slice none 0 0) [] (.slice none 0 0) [] := ⟨by simp [tot], by simp, by simp, [], OwnV.none_ _ _, trivial, World.ownsRow_nil _ _ _ _, fun x hx => by cases hx⟩
theorem resVI_mk {w w' : World} {base n m : Nat} {V v : Value} {rs : List RD} {L : List El} {pv : List Nat} (hg : Goods rs) (hn : rs.length = n) (ho : OwnV w' base V n L) (hb : w.heap.size ≤ base) (hh : Has L rs) (hp : w'.ownsRow base 3 1 v m (ivals pv)) (hm : pv.length = m) (h24 : m ≤ 24) (hof : Off v L) : ResVI w w' V rs v (pvs pv) := by
  subst hn
  refine ⟨hg.room, hg.fits, by rw [pvs_length]; omega, L, ho.lower hb, hh, ?_, hof⟩
  rw [pvs_length, pvs_vals, hm]
  exact own_base hp hb
theorem ResVI.box3 {w w' : World} {V v : Value} {rs : List RD} {l : List Int} {g : Nat} {t : TypeId} {cs : Array Value} (h : ResVI w w' V rs v l) (hb : Box w' g t cs) (u0 u1 u2 : Value) (h1 : 35 ≠ t := by decide) (h2 : 3 ≠ t := by decide) : ResVI w (((w'.setCell ⟨g, 0, none⟩ u0).setCell ⟨g, 1, none⟩ u1).setCell ⟨g, 2, none⟩ u2) V rs v l := by
  obtain ⟨a, b, c, L, d, e, f, o⟩ := h
  exact ⟨a, b, c, L, d.box_set3 hb _ _ _ h1 h2, e, own_store3 f hb h2 _ _ _, o⟩
theorem off_mono {V : Value} {L M : List El} (h : Off V M) (hs : ∀ x ∈ L, x ∈ M) : Off V L := fun x hx => h x (hs x hx)
end Go.Proofs.YthjbfdifeffilaaGreat
