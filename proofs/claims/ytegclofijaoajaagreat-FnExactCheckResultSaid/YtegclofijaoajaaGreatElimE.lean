/- The variable of an elimination in memory: the matrix, the pivots, the product, and what a step does to them. -/
import Derived.Test.YtegclofijaoajaaGreatElimM
import Derived.Test.YtegclofijaoajaaGreatEL
import Derived.Test.YtegclofijaoajaaGreatVecB3
import Derived.Deep.MidRow
namespace Go.Proofs.YtegclofijaoajaaGreat
set_option maxRecDepth 100000
open Go.RowKit

def ivals (pv : List Nat) : List Value := pv.map fun (x : Nat) => Value.int .i64 (x : Int)
/-- The block of a value is none of these elements'. -/
def Off (V : Value) (L : List El) : Prop := ∀ x ∈ L, ∀ k, x.foot k → V.ownBlock ≠ some k
/-- A fraction of the call's own as an element. -/
def qEl (q : RD) (A : Option Addr) (c : Nat) (B : Option Addr) (d : Nat) : El := ⟨q.g, .slice A q.xs.length c, q.xs.length, q.xs.map (.int .i64), .slice B q.ds.length d, q.ds.length, q.ds.map (.int .i64)⟩
section
variable {w : World} {base : Nat} {q : RD} {A B : Option Addr} {c d : Nat}
theorem q_in1 (h : (qEl q A c B d).own w base) (hg : q.ok ∨ q = RD.zero) : InI w A q.xs.length q.xs := ⟨rfl, by have := (RD.gr hg).short.1; omega, Reads.of_own h.1, limbs_bd (RD.gr hg).nr⟩
theorem q_in2 (h : (qEl q A c B d).own w base) (hg : q.ok ∨ q = RD.zero) : InI w B q.ds.length q.ds := ⟨rfl, by have := (RD.gr hg).short.2; omega, Reads.of_own h.2.1, limbs_bd (RD.gr hg).dr⟩
theorem q_room1 (h : (qEl q A c B d).own w base) : Room A q.xs.length c := room_own h.1
theorem q_room2 (h : (qEl q A c B d).own w base) : Room B q.ds.length d := room_own h.2.1
end
def eCells (P K : Nat) (G N : Nat) (Ap : Option Addr) (n cp : Nat) (q : RD) (Aq : Option Addr) (cq : Nat) (Bq : Option Addr) (dq : Nat) : Array Value :=
  #[.int .i64 P, .int .i64 K, .slice (some ⟨G, 0, none⟩) N N, .slice Ap n cp, .bool q.g, .slice Aq q.xs.length cq, .slice Bq q.ds.length dq]
structure EMem (P K base : Nat) (w : World) (ge G N : Nat) (rs : List RD) (L : List El) (pv : List Nat) (Ap : Option Addr) (n cp : Nat) (q : RD) (Aq : Option Addr) (cq : Nat) (Bq : Option Addr) (dq : Nat) : Prop where
  own : OwnV w base (.slice (some ⟨G, 0, none⟩) N N) N L
  has : Has L rs
  piv : w.ownsRow base 3 1 (.slice Ap n cp) n (ivals pv)
  prd : (qEl q Aq cq Bq dq).own w base
  off : Off (.slice Ap n cp) (qEl q Aq cq Bq dq :: L)
  box : Box w ge 95 (eCells P K G N Ap n cp q Aq cq Bq dq)
section
variable {P K base : Nat} {w w' : World} {ge G N : Nat} {rs : List RD} {L : List El} {pv : List Nat} {Ap : Option Addr} {n cp : Nat} {q : RD} {Aq : Option Addr} {cq : Nat} {Bq : Option Addr} {dq : Nat}
theorem EMem.dep (h : EMem P K base w ge G N rs L pv Ap n cp q Aq cq Bq dq) (hb : ∀ k, k < w.heap.size → (k = G ∨ k = ge ∨ (Value.slice Ap n cp).ownBlock = some k ∨ ∃ x ∈ qEl q Aq cq Bq dq :: L, x.foot k) → w'.heap[k]? = w.heap[k]?) : EMem P K base w' ge G N rs L pv Ap n cp q Aq cq Bq dq := by
  refine ⟨h.own.dep fun k hk => hb k (h.own.lt k hk).2 ?_, h.has, own_dep h.piv fun k hk => hb k (h.piv.lt k hk).2 (.inr (.inr (.inl hk))), h.prd.dep fun k hk => hb k (h.prd.lt k hk).2 (.inr (.inr (.inr ⟨_, List.mem_cons_self, hk⟩))), h.off, (hb ge h.box.lt (.inr (.inl rfl))).trans h.box⟩
  rcases hk with hk | ⟨x, hx, hk⟩
  · simp [Value.ownBlock] at hk; exact .inl hk.symm
  · exact .inr (.inr (.inr ⟨x, List.mem_cons_of_mem _ hx, hk⟩))
theorem EMem.below (h : EMem P K base w ge G N rs L pv Ap n cp q Aq cq Bq dq) (hb : Below w.heap.size w w') : EMem P K base w' ge G N rs L pv Ap n cp q Aq cq Bq dq := h.dep fun k hk _ => hb.block k hk
theorem EMem.drew (h : EMem P K base w ge G N rs L pv Ap n cp q Aq cq Bq dq) : EMem P K base w.drew ge G N rs L pv Ap n cp q Aq cq Bq dq := h.dep fun _ _ _ => rfl
theorem EMem.ne (h : EMem P K base w ge G N rs L pv Ap n cp q Aq cq Bq dq) : ge ≠ G := fun e => ne_own h.box h.own.2.1 (by decide) (by rw [e]; rfl)
theorem EMem.gb (h : EMem P K base w ge G N rs L pv Ap n cp q Aq cq Bq dq) : base ≤ G ∧ G < w.heap.size := own_at0 h.own.2.1
/-- The matrix is changed in place. -/
theorem EMem.changed {zs : List RD} {L' : List El} (h : EMem P K base w ge G N rs L pv Ap n cp q Aq cq Bq dq) (ho : OwnV w' base (.slice (some ⟨G, 0, none⟩) N N) N L') (hh : Has L' zs) (hf : FootIn w L L') (hW : Wrote (fun k => k = G) w w') : EMem P K base w' ge G N zs L' pv Ap n cp q Aq cq Bq dq := by
  have hp : (Value.slice Ap n cp).ownBlock ≠ some G := fun e => own_other h.own.2.1 h.piv (by decide) G rfl e
  have hq : ∀ k, (qEl q Aq cq Bq dq).foot k → k ≠ G := fun k hk e => by subst e; exact el_other h.prd h.own.2.1 (by decide) k hk rfl
  refine ⟨ho, hh, own_dep h.piv fun k hk => hW.block k (h.piv.lt k hk).2 (fun e => hp (by rw [← e]; exact hk)), h.prd.dep fun k hk => hW.block k (h.prd.lt k hk).2 (hq k hk), fun x hx k hk => ?_, (hW.block ge h.box.lt h.ne).trans h.box⟩
  rcases List.mem_cons.1 hx with rfl | hx
  · exact h.off _ List.mem_cons_self k hk
  · rcases hf x hx k hk with ⟨y, hy, hyk⟩ | h1
    · exact h.off y (List.mem_cons_of_mem _ hy) k hyk
    · intro e
      have := (h.piv.lt k e).2
      omega
/-- The variable's block is written elsewhere than all else. -/
theorem EMem.rest (h : EMem P K base w ge G N rs L pv Ap n cp q Aq cq Bq dq) : (∀ k, footV (.slice (some ⟨G, 0, none⟩) N N) L k → k ≠ ge) ∧ (∀ k, (Value.slice Ap n cp).ownBlock = some k → k ≠ ge) ∧ (∀ k, (qEl q Aq cq Bq dq).foot k → k ≠ ge) := by
  refine ⟨fun k hk e => ?_, fun k hk e => ?_, fun k hk e => ?_⟩
  · subst e
    rcases hk with hk | ⟨x, hx, hk | hk⟩
    · exact ne_own h.box h.own.2.1 (by decide) hk.symm
    · exact ne_own h.box (h.own.2.2.1 x hx).1 (by decide) hk.symm
    · exact ne_own h.box (h.own.2.2.1 x hx).2.1 (by decide) hk.symm
  · subst e; exact ne_own h.box h.piv (by decide) hk.symm
  · subst e
    rcases hk with hk | hk
    · exact ne_own h.box h.prd.1 (by decide) hk.symm
    · exact ne_own h.box h.prd.2.1 (by decide) hk.symm
theorem EMem.cells (h : EMem P K base w ge G N rs L pv Ap n cp q Aq cq Bq dq) : w.cell? ⟨ge, 0, none⟩ = some (.int .i64 P) ∧ w.cell? ⟨ge, 1, none⟩ = some (.int .i64 K) ∧ w.cell? ⟨ge, 2, none⟩ = some (.slice (some ⟨G, 0, none⟩) N N) ∧ w.cell? ⟨ge, 3, none⟩ = some (.slice Ap n cp) ∧
    w.cell? ⟨ge, 4, none⟩ = some (.bool q.g) ∧ w.cell? ⟨ge, 5, none⟩ = some (.slice Aq q.xs.length cq) ∧ w.cell? ⟨ge, 6, none⟩ = some (.slice Bq q.ds.length dq) := ⟨h.box.cell 0, h.box.cell 1, h.box.cell 2, h.box.cell 3, h.box.cell 4, h.box.cell 5, h.box.cell 6⟩
theorem EMem.in_ (h : EMem P K base w ge G N rs L pv Ap n cp q Aq cq Bq dq) (hn : N ≤ 1048576) (hk : ∀ r ∈ rs, r.ok) : InV w (some ⟨G, 0, none⟩) N rs := h.own.in_ h.has hn fun r hr => (hk r hr).fits
end
def set7 (w : World) (g : Nat) (u0 u1 u2 u3 u4 u5 u6 : Value) : World := ((((((w.setCell ⟨g, 0, none⟩ u0).setCell ⟨g, 1, none⟩ u1).setCell ⟨g, 2, none⟩ u2).setCell ⟨g, 3, none⟩ u3).setCell ⟨g, 4, none⟩ u4).setCell ⟨g, 5, none⟩ u5).setCell ⟨g, 6, none⟩ u6
theorem set7_block {w : World} {g : Nat} {u0 u1 u2 u3 u4 u5 u6 : Value} {k : Nat} (h : k ≠ g) : (set7 w g u0 u1 u2 u3 u4 u5 u6).heap[k]? = w.heap[k]? :=
  ((((((Below.heap_setCell _ _ _ _ h).trans (Below.heap_setCell _ _ _ _ h)).trans (Below.heap_setCell _ _ _ _ h)).trans (Below.heap_setCell _ _ _ _ h)).trans (Below.heap_setCell _ _ _ _ h)).trans (Below.heap_setCell _ _ _ _ h)).trans (Below.heap_setCell _ _ _ _ h)
theorem below_set7 {w W : World} {g : Nat} (hb : Below w.heap.size w W) (hg : w.heap.size ≤ g) (u0 u1 u2 u3 u4 u5 u6 : Value) : Below w.heap.size w (((((((W.setCell ⟨g, 0, none⟩ u0).setCell ⟨g, 1, none⟩ u1).setCell ⟨g, 2, none⟩ u2).setCell ⟨g, 3, none⟩ u3).setCell ⟨g, 4, none⟩ u4).setCell ⟨g, 5, none⟩ u5).setCell ⟨g, 6, none⟩ u6) :=
  ((((((hb.setCell hg _).setCell hg _).setCell hg _).setCell hg _).setCell hg _).setCell hg _).setCell hg _
/-- What eliminate hands back. -/
structure EOut (P K : Nat) (rs : List RD) (w w' : World) (G N : Nat) (L : List El) (s : ES) (Ap : Option Addr) (n cp : Nat) (q : RD) (Aq : Option Addr) (cq : Nat) (Bq : Option Addr) (dq : Nat) : Prop where
  own : OwnV w' w.heap.size (.slice (some ⟨G, 0, none⟩) N N) N L
  has : Has L s.rs
  piv : w'.ownsRow w.heap.size 3 1 (.slice Ap n cp) n (ivals s.pv)
  prd : (qEl q Aq cq Bq dq).own w' w.heap.size
  off : Off (.slice Ap n cp) (qEl q Aq cq Bq dq :: L)
  st : s = est P K rs K
  len : s.pv.length = n
  prod : q = prod s.fs
  N : N = P * K
  blw : Below w.heap.size w w'
def ElimEnd (p k : Int) (rs : List RD) (w w' : World) (e : Ending) : Prop :=
  (¬ Elim p k rs ∧ e = .returned (.tuple #[.agg #[.int .i64 0, .int .i64 0, .slice none 0 0, .slice none 0 0, .bool false, .slice none 0 0, .slice none 0 0], .bool false]) ∧ Below w.heap.size w w') ∨
  (Elim p k rs ∧ ∃ (P K G N n cp cq dq : Nat) (L : List El) (s : ES) (q : RD) (Ap Aq Bq : Option Addr), p = P ∧ k = K ∧ e = .returned (.tuple #[.agg #[.int .i64 P, .int .i64 K, .slice (some ⟨G, 0, none⟩) N N, .slice Ap n cp, .bool q.g, .slice Aq q.xs.length cq, .slice Bq q.ds.length dq], .bool true]) ∧ EOut P K rs w w' G N L s Ap n cp q Aq cq Bq dq)
theorem EMem.out {P K base : Nat} {w wr : World} {gr ge G N n cp cq dq : Nat} {rs : List RD} {L : List El} {s : ES} {q : RD} {Ap Aq Bq : Option Addr} {cs : Array Value} (h : EMem P K base wr ge G N s.rs L s.pv Ap n cp q Aq cq Bq dq) (hbx : Box wr gr 95 cs) (hgr : w.heap.size ≤ gr) (hb : Below w.heap.size w wr) (hbase : w.heap.size ≤ base) (hst : est P K rs K = s) (hl : s.pv.length = n) (hq : q = prod s.fs) (hN : N = P * K) :
    EOut P K rs w (((((((wr.setCell ⟨gr, 0, none⟩ (.int .i64 P)).setCell ⟨gr, 1, none⟩ (.int .i64 K)).setCell ⟨gr, 2, none⟩ (.slice (some ⟨G, 0, none⟩) N N)).setCell ⟨gr, 3, none⟩ (.slice Ap n cp)).setCell ⟨gr, 4, none⟩ (.bool q.g)).setCell ⟨gr, 5, none⟩ (.slice Aq q.xs.length cq)).setCell ⟨gr, 6, none⟩ (.slice Bq q.ds.length dq)) G N L s Ap n cp q Aq cq Bq dq := by
  have h1 : ∀ k, footV (.slice (some ⟨G, 0, none⟩) N N) L k → k ≠ gr := fun k hk e => by
    subst e
    rcases hk with hk | ⟨x, hx, hk | hk⟩
    · exact ne_own hbx h.own.2.1 (by decide) hk.symm
    · exact ne_own hbx (h.own.2.2.1 x hx).1 (by decide) hk.symm
    · exact ne_own hbx (h.own.2.2.1 x hx).2.1 (by decide) hk.symm
  have h2 : ∀ k, (Value.slice Ap n cp).ownBlock = some k → k ≠ gr := fun k hk e => by subst e; exact ne_own hbx h.piv (by decide) hk.symm
  have h3 : ∀ k, (qEl q Aq cq Bq dq).foot k → k ≠ gr := fun k hk e => by
    subst e
    rcases hk with hk | hk
    · exact ne_own hbx h.prd.1 (by decide) hk.symm
    · exact ne_own hbx h.prd.2.1 (by decide) hk.symm
  exact ⟨(h.own.lower hbase).dep fun k hk => set7_block (h1 k hk), h.has, own_dep (own_base h.piv hbase) fun k hk => set7_block (h2 k hk), (h.prd.lower hbase).dep fun k hk => set7_block (h3 k hk), h.off, hst.symm, hl, hq, hN, below_set7 hb hgr _ _ _ _ _ _ _⟩
end Go.Proofs.YtegclofijaoajaaGreat
