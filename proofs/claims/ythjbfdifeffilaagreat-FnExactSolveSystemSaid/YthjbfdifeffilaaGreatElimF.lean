/- What the model's elimination holds in memory: the matrix, the pivots, the factors (which may share memory with what the matrix held). -/
import Derived.Test.YthjbfdifeffilaaGreatElS2
namespace Go.Proofs.YthjbfdifeffilaaGreat
set_option maxRecDepth 100000
open Go.RowKit

structure RMem (base : Nat) (w : World) (G N c : Nat) (rs : List RD) (L : List El) (pv : List Nat) (Ap : Option Addr) (n cp : Nat) (Af : Option Addr) (nf cf : Nat) (Lf : List El) : Prop where
  own : OwnV w base (.slice (some ⟨G, 0, none⟩) N c) N L
  has : Has L rs
  piv : w.ownsRow base 3 1 (.slice Ap n cp) n (ivals pv)
  fac : w.ownsRow base 35 3 (.slice Af nf cf) nf (flat Lf)
  fel : ∀ e ∈ Lf, e.own w base
  off : Off (.slice Ap n cp) (Lf ++ L)
  apart : (Value.slice Af nf cf).ownBlock ≠ some G
section
variable {base : Nat} {w w' : World} {G N c : Nat} {rs : List RD} {L : List El} {pv : List Nat} {Ap : Option Addr} {n cp : Nat} {Af : Option Addr} {nf cf : Nat} {Lf : List El}
theorem RMem.dep (h : RMem base w G N c rs L pv Ap n cp Af nf cf Lf) (hb : ∀ k, k < w.heap.size → (k = G ∨ (Value.slice Ap n cp).ownBlock = some k ∨ (Value.slice Af nf cf).ownBlock = some k ∨ ∃ x ∈ Lf ++ L, x.foot k) → w'.heap[k]? = w.heap[k]?) : RMem base w' G N c rs L pv Ap n cp Af nf cf Lf := by
  refine ⟨h.own.dep fun k hk => hb k (h.own.lt k hk).2 ?_, h.has, own_dep h.piv fun k hk => hb k (h.piv.lt k hk).2 (.inr (.inl hk)), own_dep h.fac fun k hk => hb k (h.fac.lt k hk).2 (.inr (.inr (.inl hk))), fun e he => (h.fel e he).dep fun k hk => hb k ((h.fel e he).lt k hk).2 (.inr (.inr (.inr ⟨e, List.mem_append_left _ he, hk⟩))), h.off, h.apart⟩
  rcases hk with hk | ⟨x, hx, hk⟩
  · simp [Value.ownBlock] at hk; exact .inl hk.symm
  · exact .inr (.inr (.inr ⟨x, List.mem_append_right _ hx, hk⟩))
theorem RMem.below (h : RMem base w G N c rs L pv Ap n cp Af nf cf Lf) (hb : Below w.heap.size w w') : RMem base w' G N c rs L pv Ap n cp Af nf cf Lf := h.dep fun k hk _ => hb.block k hk
theorem RMem.gb (h : RMem base w G N c rs L pv Ap n cp Af nf cf Lf) : base ≤ G ∧ G < w.heap.size := own_at0 h.own.2.1
/-- The matrix is changed in place. -/
theorem RMem.changed {zs : List RD} {L' : List El} (h : RMem base w G N c rs L pv Ap n cp Af nf cf Lf) (ho : OwnV w' base (.slice (some ⟨G, 0, none⟩) N c) N L') (hh : Has L' zs) (hf : FootIn w L L') (hW : Wrote (fun k => k = G) w w') : RMem base w' G N c zs L' pv Ap n cp Af nf cf Lf := by
  have hp : (Value.slice Ap n cp).ownBlock ≠ some G := fun e => own_other h.own.2.1 h.piv (by decide) G rfl e
  refine ⟨ho, hh, own_dep h.piv fun k hk => hW.block k (h.piv.lt k hk).2 (fun e => hp (by rw [← e]; exact hk)), own_dep h.fac fun k hk => hW.block k (h.fac.lt k hk).2 (fun e => h.apart (by rw [← e]; exact hk)), fun e he => wrote_own hW (h.fel e he) h.own, fun x hx k hk => ?_, h.apart⟩
  rcases List.mem_append.1 hx with hx | hx
  · exact h.off x (List.mem_append_left _ hx) k hk
  · rcases hf x hx k hk with ⟨y, hy, hyk⟩ | h1
    · exact h.off y (List.mem_append_right _ hy) k hyk
    · intro e
      have := (h.piv.lt k e).2
      omega
/-- A factor is appended. -/
theorem RMem.push {Af' : Option Addr} {cf' : Nat} {e : El} (h : RMem base w G N c rs L pv Ap n cp Af nf cf Lf) (he : e.own w base) (hoff : ∀ k, e.foot k → (Value.slice Ap n cp).ownBlock ≠ some k) (ho : w'.ownsRow base 35 3 (.slice Af' (nf + 1) cf') (nf + 1) (flat Lf ++ [.bool e.g, e.v, e.u])) (hg : w.grownBy w' (Value.slice Af nf cf).ownBlock)
    (hv : (Value.slice Af' (nf + 1) cf').ownBlock = (Value.slice Af nf cf).ownBlock ∨ (Value.slice Af' (nf + 1) cf').ownBlock = some w.heap.size) : RMem base w' G N c rs L pv Ap n cp Af' (nf + 1) cf' (Lf ++ [e]) := by
  have key : ∀ x : El, x.own w base → x.own w' base := fun x hx => hx.dep fun k hk => hg.block k (hx.lt k hk).2 fun e2 => el_other hx h.fac (by decide) k hk e2.symm
  refine ⟨h.own.dep fun k hk => hg.block k (h.own.lt k hk).2 fun e2 => ?_, h.has, own_dep h.piv fun k hk => hg.block k (h.piv.lt k hk).2 fun e2 => own_other h.fac h.piv (by decide) k e2.symm hk, by rw [flat_append, flat_one]; exact ho, fun x hx => ?_, fun x hx k hk => ?_, ?_⟩
  · rcases hk with hk | ⟨x, hx, hk⟩
    · simp [Value.ownBlock] at hk; subst hk; exact h.apart e2.symm
    · exact el_other (h.own.2.2.1 x hx) h.fac (by decide) k hk e2.symm
  · rcases List.mem_append.1 hx with hx | hx
    · exact key x (h.fel x hx)
    · obtain rfl := List.mem_singleton.1 hx
      exact key x he
  · rcases List.mem_append.1 hx with hx | hx
    · rcases List.mem_append.1 hx with hx | hx
      · exact h.off x (List.mem_append_left _ hx) k hk
      · obtain rfl := List.mem_singleton.1 hx
        exact hoff k hk
    · exact h.off x (List.mem_append_right _ hx) k hk
  · rcases hv with hv | hv
    · rw [hv]; exact h.apart
    · rw [hv]; intro e2; injection e2 with e2; have := h.gb.2; omega
/-- A pivot is appended. -/
theorem RMem.pushP {Ap' : Option Addr} {cp' j : Nat} (h : RMem base w G N c rs L pv Ap n cp Af nf cf Lf) (ho : w'.ownsRow base 3 1 (.slice Ap' (n + 1) cp') (n + 1) (ivals pv ++ [.int .i64 (j : Int)])) (hg : w.grownBy w' (Value.slice Ap n cp).ownBlock)
    (hv : (Value.slice Ap' (n + 1) cp').ownBlock = (Value.slice Ap n cp).ownBlock ∨ (Value.slice Ap' (n + 1) cp').ownBlock = some w.heap.size) : RMem base w' G N c rs L (pv ++ [j]) Ap' (n + 1) cp' Af nf cf Lf := by
  have hk : ∀ x ∈ Lf ++ L, ∀ k, x.foot k → w'.heap[k]? = w.heap[k]? ∧ k < w.heap.size := fun x hx k hk => by
    have hlt : k < w.heap.size := by
      rcases List.mem_append.1 hx with hx | hx
      · exact ((h.fel x hx).lt k hk).2
      · exact ((h.own.2.2.1 x hx).lt k hk).2
    exact ⟨hg.block k hlt fun e => h.off x hx k hk e.symm, hlt⟩
  have hG : w'.heap[G]? = w.heap[G]? := hg.block G h.gb.2 fun e => own_other h.own.2.1 h.piv (by decide) G rfl e.symm
  refine ⟨h.own.dep fun k hkk => ?_, h.has, by rw [ivals_snoc]; exact ho, own_dep h.fac fun k hkk => hg.block k (h.fac.lt k hkk).2 fun e => own_other h.fac h.piv (by decide) k hkk e.symm, fun e he => (h.fel e he).dep fun k hkk => (hk e (List.mem_append_left _ he) k hkk).1, fun x hx k hkk e => ?_, h.apart⟩
  · rcases hkk with hkk | ⟨x, hx, hkk⟩
    · simp [Value.ownBlock] at hkk; subst hkk; exact hG
    · exact (hk x (List.mem_append_right _ hx) k hkk).1
  · rcases hv with hv | hv
    · rw [hv] at e; exact h.off x hx k hkk e
    · rw [hv] at e
      have := (hk x hx k hkk).2
      injection e with e
      omega
end
/-! The model's steps as data. -/
noncomputable def divTo (P K : Nat) (rs : List RD) (n k j : Nat) : List RD := mk P K fun a b => if a = n ∧ k ≤ b ∧ b < j then rdiv (cell K rs n b) (cell K rs n k) else cell K rs a b
section
variable {P K n k j : Nat} {rs : List RD}
theorem divTo_start (hl : rs.length = P * K) : divTo P K rs n k k = rs := (mk_of hl fun a b _ _ => by rw [if_neg (by omega)]).symm
theorem divTo_end (hm : MOk P K rs) (hn : n < P) (hk : k < K) (hp : (cell K rs n k).xs ≠ []) (hlow : ∀ b, b < k → b < K → (cell K rs n b).xs = []) : divTo P K rs n k K = mdiv P K rs n k := mk_congr fun a b ha hb => by
  by_cases h : a = n
  · rw [if_pos h]
    by_cases h2 : k ≤ b
    · rw [if_pos ⟨h, h2, hb⟩]
    · rw [if_neg (by omega), h, nil_is (mok_cell hm hn hb) (hlow b (by omega) hb), rdiv_nil R0_ok (mok_cell hm hn hk) hp rfl]
  · rw [if_neg h, if_neg (by omega)]
theorem divTo_at (hn : n < P) (hj : j < K) : (divTo P K rs n k j)[n * K + j]? = some (cell K rs n j) := by
  unfold divTo; rw [mk_at hn hj, if_neg (by omega)]
theorem divTo_set (hn : n < P) (hj : j < K) (hkj : k ≤ j) : (divTo P K rs n k j).set (n * K + j) (rdiv (cell K rs n j) (cell K rs n k)) = divTo P K rs n k (j + 1) := by
  unfold divTo
  rw [mk_set hn hj]
  refine mk_congr fun a b _ _ => ?_
  by_cases h : a = n ∧ b = j
  · obtain ⟨rfl, rfl⟩ := h
    rw [if_pos ⟨rfl, rfl⟩, if_pos (by omega)]
  · rw [if_neg h]
    by_cases h2 : a = n ∧ k ≤ b ∧ b < j
    · rw [if_pos h2, if_pos (by omega)]
    · rw [if_neg h2, if_neg (by omega)]
theorem divTo_good (hg : ∀ r ∈ rs, r.ok ∨ r = RD.zero) (hl : rs.length = P * K) : ∀ r ∈ divTo P K rs n k j, r.ok ∨ r = RD.zero := mk_all.2 fun a b ha hb => by
  split
  · exact rdiv_good _ _
  · exact hg _ (cell_mem hl ha hb)
theorem mpiv_good {i : Nat} (hg : ∀ r ∈ rs, r.ok ∨ r = RD.zero) (hl : rs.length = P * K) (hn : n < P) (hi : i < P) : ∀ r ∈ mpiv P K rs n i k, r.ok ∨ r = RD.zero := by
  refine mk_all.2 fun a b ha hb => clr_good (mk_all.2 fun a b ha hb => ?_) mdiv_length ha hb
  split
  · exact rdiv_good _ _
  · rw [cell_mswap ha hb]; exact hg _ (cell_mem hl (mswap_row hn hi ha) hb)
theorem est_good {rs0 : List RD} (h : MOk P K rs0) : ∀ k, k ≤ K → (∀ r ∈ (est P K rs0 k).rs, r.ok ∨ r = RD.zero) ∧ (est P K rs0 k).rs.length = P * K
  | 0, _ => ⟨h.goods, mok_plen h⟩
  | k + 1, hk => by
    obtain ⟨h1, h2⟩ := est_good h k (by omega)
    rw [est_succ]
    by_cases hc : (est P K rs0 k).pv.length < P ∧ AllOk (est P K rs0 k).rs
    · cases hf : firstRow P K (est P K rs0 k).rs (est P K rs0 k).pv.length k with
      | none => rw [estep_none hf]; exact ⟨h1, h2⟩
      | some i =>
        rw [estep_some hc.1 hc.2 hf]
        exact ⟨mpiv_good h1 h2 hc.1 (of_firstRow hf).2.1, mpiv_length⟩
    · rw [estep_done hc]; exact ⟨h1, h2⟩
end
end Go.Proofs.YthjbfdifeffilaaGreat
