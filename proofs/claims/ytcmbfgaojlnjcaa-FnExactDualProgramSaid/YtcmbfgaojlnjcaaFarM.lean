/- A program of the call's own in a variable: its three lists, one of them replaced by a longer one; a program handed back. -/
import Derived.Test.YtcmbfgaojlnjcaaFarD
import Derived.Test.YtcmbfgaojlnjcaaLpS
import Derived.Test.YtcmbfgaojlnjcaaAppZ
import Derived.Test.YtcmbfgaojlnjcaaStepA
namespace Go.Proofs.Ytcmbfgaojlnjcaa
set_option maxRecDepth 100000
open Go.RowKit

theorem Try.infoLP : (Try.prog.info? 26).map (fun i => (i.zero, i.size, i.bytes)) = some (some (.agg #[.int .i64 0, .int .i64 0, .slice none 0 0, .slice none 0 0, .slice none 0 0]), 5, 88) := by kernel_rfl
/-- A variable that holds a program whose lists are of the call's own. -/
structure PM (base : Nat) (w : World) (g : Nat) (p k : Int) (A : Option Addr) (n c : Nat) (la : List Int) (B : Option Addr) (m d : Nat) (lb : List Int) (C : Option Addr) (l e : Nat) (lc : List Int) : Prop where
  box : Box w g 26 #[.int .i64 p, .int .i64 k, .slice A n c, .slice B m d, .slice C l e]
  own : OwnP w base A n c (la.map (.int .i64)) B m d (lb.map (.int .i64)) C l e (lc.map (.int .i64))
section
variable {w w' w1 : World} {base g : Nat} {p k : Int} {A B C A' : Option Addr} {n c m d l e n' c' : Nat} {la lb lc la' : List Int} {xs ys zs xs' : List Value}
theorem OwnP.boxSet (h : OwnP w base A n c xs B m d ys C l e zs) {cs : Array Value} {t : TypeId} (hb : Box w g t cs) (ht : 3 ≠ t) (i : Nat) (u : Value) : OwnP (w.setCell ⟨g, i, none⟩ u) base A n c xs B m d ys C l e zs :=
  ⟨own_box h.1 hb i u ht, own_box h.2.1 hb i u ht, own_box h.2.2.1 hb i u ht, h.2.2.2⟩
theorem OwnP.below (h : OwnP w base A n c xs B m d ys C l e zs) (hb : Below w.heap.size w w') : OwnP w' base A n c xs B m d ys C l e zs := h.dep fun k hk => hb.block k (h.lt k hk).2
theorem OwnP.growA (h : OwnP w base A n c xs B m d ys C l e zs) (ho : w1.ownsRow base 3 1 (.slice A' n' c') n' xs') (hg : w.grownBy w1 (Value.slice A n c).ownBlock) (hat : (Value.slice A' n' c').ownBlock = (Value.slice A n c).ownBlock ∨ (Value.slice A' n' c').ownBlock = some w.heap.size) : OwnP w1 base A' n' c' xs' B m d ys C l e zs :=
  ⟨ho, h.2.1.kept hg (apart_of h.2.2.2.1), h.2.2.1.kept hg (apart_of h.2.2.2.2.1), apart_grew h.2.2.2.1 (fun k hk => (h.2.1.lt k hk).2) hat, apart_grew h.2.2.2.2.1 (fun k hk => (h.2.2.1.lt k hk).2) hat, h.2.2.2.2.2⟩
theorem OwnP.growB (h : OwnP w base A n c xs B m d ys C l e zs) (ho : w1.ownsRow base 3 1 (.slice A' n' c') n' xs') (hg : w.grownBy w1 (Value.slice B m d).ownBlock) (hat : (Value.slice A' n' c').ownBlock = (Value.slice B m d).ownBlock ∨ (Value.slice A' n' c').ownBlock = some w.heap.size) : OwnP w1 base A n c xs A' n' c' xs' C l e zs :=
  ⟨h.1.kept hg (apart_of (Apart.symm h.2.2.2.1)), ho, h.2.2.1.kept hg (apart_of h.2.2.2.2.2), Apart.symm (apart_grew (Apart.symm h.2.2.2.1) (fun k hk => (h.1.lt k hk).2) hat), h.2.2.2.2.1, apart_grew h.2.2.2.2.2 (fun k hk => (h.2.2.1.lt k hk).2) hat⟩
theorem OwnP.growC (h : OwnP w base A n c xs B m d ys C l e zs) (ho : w1.ownsRow base 3 1 (.slice A' n' c') n' xs') (hg : w.grownBy w1 (Value.slice C l e).ownBlock) (hat : (Value.slice A' n' c').ownBlock = (Value.slice C l e).ownBlock ∨ (Value.slice A' n' c').ownBlock = some w.heap.size) : OwnP w1 base A n c xs B m d ys A' n' c' xs' :=
  ⟨h.1.kept hg (apart_of (Apart.symm h.2.2.2.2.1)), h.2.1.kept hg (apart_of (Apart.symm h.2.2.2.2.2)), ho, h.2.2.2.1, Apart.symm (apart_grew (Apart.symm h.2.2.2.2.1) (fun k hk => (h.1.lt k hk).2) hat), Apart.symm (apart_grew (Apart.symm h.2.2.2.2.2) (fun k hk => (h.2.1.lt k hk).2) hat)⟩
theorem PM.below (h : PM base w g p k A n c la B m d lb C l e lc) (hb : Below w.heap.size w w') : PM base w' g p k A n c la B m d lb C l e lc := ⟨h.box.below hb h.box.lt, h.own.below hb⟩
theorem PM.ne (h : PM base w g p k A n c la B m d lb C l e lc) : some g ≠ (Value.slice A n c).ownBlock ∧ some g ≠ (Value.slice B m d).ownBlock ∧ some g ≠ (Value.slice C l e).ownBlock :=
  ⟨ne_own h.box h.own.1 (by decide), ne_own h.box h.own.2.1 (by decide), ne_own h.box h.own.2.2.1 (by decide)⟩
/-- A longer list in the place of A. -/
theorem PM.setA (h : PM base w g p k A n c la B m d lb C l e lc) (ho : w1.ownsRow base 3 1 (.slice A' n' c') n' (la'.map (.int .i64))) (hg : w.grownBy w1 (Value.slice A n c).ownBlock) (hat : (Value.slice A' n' c').ownBlock = (Value.slice A n c).ownBlock ∨ (Value.slice A' n' c').ownBlock = some w.heap.size) :
    PM base (w1.setCell ⟨g, 2, none⟩ (.slice A' n' c')) g p k A' n' c' la' B m d lb C l e lc := by
  have hb : Box w1 g 26 _ := h.box.grown hg h.ne.1
  exact ⟨by simpa using hb.set_ 2 (.slice A' n' c'), (h.own.growA ho hg hat).boxSet hb (by decide) 2 _⟩
theorem PM.setB (h : PM base w g p k A n c la B m d lb C l e lc) (ho : w1.ownsRow base 3 1 (.slice A' n' c') n' (la'.map (.int .i64))) (hg : w.grownBy w1 (Value.slice B m d).ownBlock) (hat : (Value.slice A' n' c').ownBlock = (Value.slice B m d).ownBlock ∨ (Value.slice A' n' c').ownBlock = some w.heap.size) :
    PM base (w1.setCell ⟨g, 3, none⟩ (.slice A' n' c')) g p k A n c la A' n' c' la' C l e lc := by
  have hb : Box w1 g 26 _ := h.box.grown hg h.ne.2.1
  exact ⟨by simpa using hb.set_ 3 (.slice A' n' c'), (h.own.growB ho hg hat).boxSet hb (by decide) 3 _⟩
theorem PM.setC (h : PM base w g p k A n c la B m d lb C l e lc) (ho : w1.ownsRow base 3 1 (.slice A' n' c') n' (la'.map (.int .i64))) (hg : w.grownBy w1 (Value.slice C l e).ownBlock) (hat : (Value.slice A' n' c').ownBlock = (Value.slice C l e).ownBlock ∨ (Value.slice A' n' c').ownBlock = some w.heap.size) :
    PM base (w1.setCell ⟨g, 4, none⟩ (.slice A' n' c')) g p k A n c la B m d lb A' n' c' la' := by
  have hb : Box w1 g 26 _ := h.box.grown hg h.ne.2.2
  exact ⟨by simpa using hb.set_ 4 (.slice A' n' c'), (h.own.growC ho hg hat).boxSet hb (by decide) 4 _⟩
theorem PM.setP (h : PM base w g p k A n c la B m d lb C l e lc) (q : Int) : PM base (w.setCell ⟨g, 0, none⟩ (.int .i64 q)) g q k A n c la B m d lb C l e lc :=
  ⟨by simpa using h.box.set_ 0 (.int .i64 q), h.own.boxSet h.box (by decide) 0 _⟩
end
/-- A program handed back: its lists in memory of the call's own. -/
def ResP (w w' : World) (v : Value) (la : List Int) (u : Value) (lb : List Int) (t : Value) (lc : List Int) : Prop :=
  ResI w w' v la ∧ ResI w w' u lb ∧ ResI w w' t lc ∧ Apart u v ∧ Apart t v ∧ Apart t u ∧ I64s la ∧ I64s lb ∧ I64s lc
def ProgEnd (Q : LP → Prop) (w w' : World) (e : Ending) : Prop :=
  ∃ p k la v lb u lc t, e = .returned (.agg #[.int .i64 p, .int .i64 k, v, u, t]) ∧ Q ⟨p, k, la, lb, lc⟩ ∧ ResP w w' v la u lb t lc ∧ Below w.heap.size w w'
theorem progEnd_zero {Q : LP → Prop} {w w' : World} (h : Q ⟨0, 0, [], [], []⟩) (hb : Below w.heap.size w w') : ProgEnd Q w w' (.returned (.agg #[.int .i64 0, .int .i64 0, .slice none 0 0, .slice none 0 0, .slice none 0 0])) :=
  ⟨0, 0, [], _, [], _, [], _, rfl, h, ⟨⟨by simp, World.ownsRow_nil _ _ _ _⟩, ⟨by simp, World.ownsRow_nil _ _ _ _⟩, ⟨by simp, World.ownsRow_nil _ _ _ _⟩, fun k hk => (by cases hk), fun k hk => (by cases hk), fun k hk => (by cases hk), fun z hz => (by cases hz), fun z hz => (by cases hz), fun z hz => (by cases hz)⟩, hb⟩
theorem progEnd_of {Q : LP → Prop} {w w' : World} {base : Nat} {p k : Int} {A B C : Option Addr} {n c m d l e : Nat} {la lb lc : List Int} (h : Q ⟨p, k, la, lb, lc⟩) (ho : OwnP w' base A n c (la.map (.int .i64)) B m d (lb.map (.int .i64)) C l e (lc.map (.int .i64))) (hbase : w.heap.size ≤ base) (hn : n ≤ 4194304) (hm : m ≤ 4194304) (hl : l ≤ 4194304) (h1 : I64s la) (h2 : I64s lb) (h3 : I64s lc) (hb : Below w.heap.size w w') :
    ProgEnd Q w w' (.returned (.agg #[.int .i64 p, .int .i64 k, .slice A n c, .slice B m d, .slice C l e])) := by
  have q : ∀ {v : Value} {n : Nat} {la : List Int}, w'.ownsRow base 3 1 v n (la.map (.int .i64)) → n ≤ 4194304 → ResI w w' v la := fun {v n la} h hn => by
    have hl : la.length = n := by have := h.1; simpa using this
    exact ⟨by omega, by rw [hl]; exact own_base h hbase⟩
  exact ⟨p, k, la, _, lb, _, lc, _, rfl, h, ⟨q ho.1 hn, q ho.2.1 hm, q ho.2.2.1 hl, ho.2.2.2.1, ho.2.2.2.2.1, ho.2.2.2.2.2, h1, h2, h3⟩, hb⟩
end Go.Proofs.Ytcmbfgaojlnjcaa
