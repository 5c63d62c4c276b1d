/- Contracts of the elimination, by the model: quotients, elements told by their cells, copies. -/
import Derived.Test.YtdehcddjkcpnfaaGreatElimE
import Derived.Test.YtdehcddjkcpnfaaGreatMatS1
import Derived.Test.YtdehcddjkcpnfaaGreatMatI6
namespace Go.Proofs.YtdehcddjkcpnfaaGreat
set_option maxRecDepth 100000
open Go.RowKit

/-- An element of a list of the call's own that holds a known fraction. -/
theorem OwnV.elr {w : World} {base G n c t : Nat} {L : List El} {rs : List RD} {r : RD} (h : OwnV w base (.slice (some ⟨G, 0, none⟩) n c) n L) (hh : Has L rs) (hr : rs[t]? = some r) :
    ∃ A c' B d, L[t]? = some (qEl r A c' B d) ∧ (qEl r A c' B d).own w base ∧ At3 w G (t * 3) (.bool r.g) (.slice A r.xs.length c') (.slice B r.ds.length d) := by
  have hlt : t < L.length := by rw [hh.length]; exact (List.getElem?_eq_some_iff.1 hr).1
  obtain ⟨g, A, k, c', xs, B, m, d, ys, hL, hc, _⟩ := h.el (i := t) (by rw [← h.1]; exact hlt)
  obtain ⟨r', hr', k1, k2, k3, k4, k5⟩ := hh.get hL
  obtain rfl : r = r' := by rw [hr] at hr'; exact Option.some.inj hr'
  dsimp only at k1 k2 k3 k4 k5
  subst k1 k2 k3 k4 k5
  have ho := h.elem hlt
  obtain ⟨_, he⟩ := List.getElem?_eq_some_iff.1 hL
  rw [he] at ho
  exact ⟨A, c', B, d, hL, ho, hc⟩
set_option maxHeartbeats 1600000 in
theorem spec_l06AtC (p : Int) (K i j t b o n c : Nat) (g : Bool) (A1 : Option Addr) (n1 c1 : Nat) (B1 : Option Addr) (m1 d1 : Nat) (w : World) (ht : i * K + j = t) (hlt : t < n) (hn : n ≤ 1048576) (hat : At3 w b (o + t * 3) (.bool g) (.slice A1 n1 c1) (.slice B1 m1 d1)) (_hn1 : n1 ≤ 1048576) (_hm1 : m1 ≤ 1048576) (_hbs : b < w.heap.size) (_hi : i ≤ 24) (_hK : K ≤ 24) :
    Calls Tryz.prog 141 #[.agg #[.int .i64 p, .int .i64 K, .slice (some ⟨b, o, none⟩) n c], .int .i64 i, .int .i64 j] w fun e w' => e = .returned (.agg #[.bool g, .slice A1 n1 c1, .slice B1 m1 d1]) ∧ Below w.heap.size w w' := by
  obtain ⟨u, hu⟩ : ∃ u, u = i * K := ⟨_, rfl⟩
  have hik : (i : Int) * (K : Int) = u := by rw [hu]; exact (Int.natCast_mul _ _).symm
  rw [← hu] at ht
  have huj : (u : Int) + (j : Int) = (t : Int) := by omega
  obtain ⟨e0, e1, e2⟩ := hat
  have ht0 : (0 : Int) ≤ (t : Int) := by omega
  have ht1 : (t : Int) < (n : Int) := by omega
  clear hu ht
  go_enter Tryz.func141, Tryz.ntmps141
  go_wp2_with fail
  refine bodyPost_ret (v := .agg #[.bool g, .slice A1 n1 c1, .slice B1 m1 d1]) (by simp [results, Tryz.results141, go_sem]) rfl ?_
  exact ⟨rfl, ((Below.refl w.heap.size w).alloc (Nat.le_refl _) _).alloc (by simp) _⟩
def CopyVEnd (n : Nat) (rs : List RD) (w w' : World) (e : Ending) : Prop := ∃ A c L, e = .returned (.slice A n c) ∧ OwnV w' w.heap.size (.slice A n c) n L ∧ Has L rs ∧ Below w.heap.size w w'
def CopyMSEnd (P K n : Nat) (rs : List RD) (w w' : World) (e : Ending) : Prop := ∃ A c L, e = .returned (.agg #[.int .i64 P, .int .i64 K, .slice A n c]) ∧ OwnV w' w.heap.size (.slice A n c) n L ∧ Has L rs ∧ Below w.heap.size w w'
end Go.Proofs.YtdehcddjkcpnfaaGreat
