/- Contracts of matrices, by the program: applied to a vector. -/
import Derived.Test.YthjbfdifeffilaaGreatMatI
import Derived.Test.YthjbfdifeffilaaGreatMatS1
import Derived.Test.YthjbfdifeffilaaGreatVecB2
namespace Go.Proofs.YthjbfdifeffilaaGreat
set_option maxRecDepth 100000
open Go.RowKit

/-- An element that a call has handed back, about to be stored in a list that is told with its base. -/
theorem store_elB {wr w2 : World} {base G n c i : Nat} {L : List El} {g : Bool} {r d : List Int} {A B : Option Addr} {N M c2 d2 b1 : Nat} (ho : OwnV w2 base (.slice (some ⟨G, 0, none⟩) n c) n L) (hlt : ∀ x ∈ L, ∀ k, x.foot k → k < b1) (hb : base ≤ b1) (hi : i < n)
    (h1 : w2.ownsRow b1 3 1 (.slice A N c2) r.length (r.map (.int .i64))) (h2 : w2.ownsRow b1 3 1 (.slice B M d2) d.length (d.map (.int .i64))) (hap : Apart (.slice B M d2) (.slice A N c2)) (_ : wr = wr) :
    (∃ x0 x1 x2, w2.cell? ⟨G, i * 3, none⟩ = some x0 ∧ w2.cell? ⟨G, i * 3 + 1, none⟩ = some x1 ∧ w2.cell? ⟨G, i * 3 + 2, none⟩ = some x2 ∧ w2.frozen? ⟨G, i * 3, none⟩ = false ∧ w2.frozen? ⟨G, i * 3 + 1, none⟩ = false ∧ w2.frozen? ⟨G, i * 3 + 2, none⟩ = false) ∧
    OwnV (((w2.setCell ⟨G, i * 3, none⟩ (.bool g)).setCell ⟨G, i * 3 + 1, none⟩ (.slice A N c2)).setCell ⟨G, i * 3 + 2, none⟩ (.slice B M d2)) base (.slice (some ⟨G, 0, none⟩) n c) n (L.set i ⟨g, .slice A N c2, r.length, r.map (.int .i64), .slice B M d2, d.length, d.map (.int .i64)⟩) ∧
    Wrote (fun k => k = G) w2 (((w2.setCell ⟨G, i * 3, none⟩ (.bool g)).setCell ⟨G, i * 3 + 1, none⟩ (.slice A N c2)).setCell ⟨G, i * 3 + 2, none⟩ (.slice B M d2)) := by
  have he0 : (El.mk g (.slice A N c2) r.length (r.map (.int .i64)) (.slice B M d2) d.length (d.map (.int .i64))).own w2 b1 := ⟨h1, h2, hap⟩
  have hst := ho.store hi (he0.lower hb) fun x hx k hk hk' => by
    have a1 := hlt x hx k hk
    have a2 := (he0.lt k hk').1
    omega
  exact ⟨ho.room hi, hst.1, hst.2.mono fun k _ hk => by unfold blk at hk; simp [Value.ownBlock] at hk; exact hk.symm⟩
def ApplyEnd (P K : Nat) (rs vs : List RD) (base G N c o : Nat) (zs : List RD) (w w' : World) (e : Ending) : Prop :=
  ((∃ L, e = .returned (.bool true) ∧ OwnV w' base (.slice (some ⟨G, 0, none⟩) N c) N L ∧ Has L (upTo zs (o + P) N) ∧ ∀ i, i < P → (rinner (mrow K rs i) vs).ok) ∨
    (e = .returned (.bool false) ∧ ¬ ∀ i, i < P → (rinner (mrow K rs i) vs).ok)) ∧ Wrote (fun k => k = G) w w'
def ApplyB (P K : Nat) (rs vs : List RD) (base G N c o : Nat) (zs : List RD) (w' : World) (b : Bool) : Prop :=
  (b = true ∧ ∃ L, OwnV w' base (.slice (some ⟨G, 0, none⟩) N c) N L ∧ Has L (upTo zs (o + P) N) ∧ ∀ i, i < P → (rinner (mrow K rs i) vs).ok) ∨ (b = false ∧ ¬ ∀ i, i < P → (rinner (mrow K rs i) vs).ok)
theorem own_at0 {w : World} {base : Nat} {E : TypeId} {size n c g : Nat} {xs : List Value} (h : w.ownsRow base E size (.slice (some ⟨g, 0, none⟩) n c) n xs) : base ≤ g ∧ g < w.heap.size := h.lt g rfl
end Go.Proofs.YthjbfdifeffilaaGreat
