/- What lies in blocks of its own, of whatever shape: kept by all that leaves its blocks alone. No program is named here. -/
import Derived.Test.YtjggdbakbhacjaaMem
namespace Go.Proofs.Ytjggdbakbhacjaa
set_option maxRecDepth 100000
open Go.RowKit

/-- R speaks of the blocks F alone, and they are there. -/
structure Holds (w : World) (F : Nat → Prop) (R : World → Prop) : Prop where
  lt : ∀ k, F k → k < w.heap.size
  now : R w
  dep : ∀ w' : World, (∀ k, F k → w'.heap[k]? = w.heap[k]?) → R w'
/-- From w to w' no block that was there is written but those of G. -/
structure Wrote (G : Nat → Prop) (w w' : World) : Prop where
  os : w'.os = w.os
  tape : w'.tape = w.tape
  output : w'.output = w.output
  size : w.heap.size ≤ w'.heap.size
  block : ∀ k, k < w.heap.size → ¬ G k → w'.heap[k]? = w.heap[k]?
section
variable {w w' w'' : World} {F G : Nat → Prop} {R : World → Prop} {B : Nat}
theorem Holds.keep (h : Holds w F R) (hs : w.heap.size ≤ w'.heap.size) (hb : ∀ k, F k → w'.heap[k]? = w.heap[k]?) : Holds w' F R :=
  ⟨fun k hk => Nat.lt_of_lt_of_le (h.lt k hk) hs, h.dep w' hb, fun w'' h2 => h.dep w'' fun k hk => (h2 k hk).trans (hb k hk)⟩
theorem Holds.below (h : Holds w F R) (hb : Below w.heap.size w w') : Holds w' F R := h.keep hb.size fun k hk => hb.block k (h.lt k hk)
theorem Holds.alloc (h : Holds w F R) (o : Obj) : Holds (w.alloc o) F R := h.keep (by simp) fun k hk => Below.heap_alloc w o k (h.lt k hk)
theorem Holds.drew (h : Holds w F R) : Holds w.drew F R := h.keep (Nat.le_refl _) fun _ _ => rfl
theorem Holds.setCell (h : Holds w F R) {p : Addr} (hp : ¬ F p.block) (u : Value) : Holds (w.setCell p u) F R :=
  h.keep (by simp) fun k hk => Below.heap_setCell w p u k fun e => hp (e ▸ hk)
theorem Holds.grown {row : Option Nat} (h : Holds w F R) (hg : w.grownBy w' row) (hne : ∀ k, F k → some k ≠ row) : Holds w' F R :=
  h.keep hg.size fun k hk => hg.block k (h.lt k hk) (hne k hk)
theorem Holds.wrote (h : Holds w F R) (hg : Wrote G w w') (hne : ∀ k, F k → ¬ G k) : Holds w' F R :=
  h.keep hg.size fun k hk => hg.block k (h.lt k hk) (hne k hk)
theorem Wrote.refl (G : Nat → Prop) (w : World) : Wrote G w w := ⟨rfl, rfl, rfl, Nat.le_refl _, fun _ _ _ => rfl⟩
theorem Wrote.trans (h : Wrote G w w') (k : Wrote G w' w'') : Wrote G w w'' :=
  ⟨k.os.trans h.os, k.tape.trans h.tape, k.output.trans h.output, Nat.le_trans h.size k.size, fun j hj hG => (k.block j (Nat.lt_of_lt_of_le hj h.size) hG).trans (h.block j hj hG)⟩
theorem Wrote.mono {G' : Nat → Prop} (h : Wrote G w w') (hG : ∀ k, k < w.heap.size → G k → G' k) : Wrote G' w w' :=
  ⟨h.os, h.tape, h.output, h.size, fun k hk hn => h.block k hk fun g => hn (hG k hk g)⟩
theorem Wrote.of_grown {row : Option Nat} (h : w.grownBy w' row) : Wrote (fun k => row = some k) w w' := ⟨h.os, h.tape, h.output, h.size, fun k hk hn => h.block k hk fun e => hn e.symm⟩
theorem Wrote.of_below (h : Below w.heap.size w w') : Wrote G w w' := ⟨h.os, h.tape, h.output, h.size, fun k hk _ => h.block k hk⟩
theorem Wrote.alloc (h : Wrote G w w') (o : Obj) : Wrote G w (w'.alloc o) := h.trans (Wrote.of_below ((Below.refl _ _).alloc (Nat.le_refl _) o))
theorem Wrote.setCell (h : Wrote G w w') {p : Addr} (hp : G p.block) (u : Value) : Wrote G w (w'.setCell p u) :=
  ⟨h.os, h.tape, h.output, Nat.le_trans h.size (by simp), fun k hk hn => (Below.heap_setCell w' p u k fun e => hn (e ▸ hp)).trans (h.block k hk hn)⟩
theorem Wrote.below {a : World} (h : Below B a w) (hg : Wrote G w w') (hG : ∀ k, G k → B ≤ k) (hB : B ≤ w.heap.size) : Below B a w' :=
  ⟨hg.os.trans h.os, hg.tape.trans h.tape, hg.output.trans h.output, Nat.le_trans h.size hg.size, fun k hk => (hg.block k (by omega) fun g => by have := hG k g; omega).trans (h.block k hk)⟩
end
theorem own_dep {w w' : World} {base : Nat} {E : TypeId} {size n : Nat} {v : Value} {xs : List Value} (h : w.ownsRow base E size v n xs) (hb : ∀ k, v.ownBlock = some k → w'.heap[k]? = w.heap[k]?) : w'.ownsRow base E size v n xs := by
  refine ⟨h.1, ?_⟩
  rcases h.2 with h | ⟨g, cap, cur, rfl, h2, h3, h4⟩
  · exact .inl h
  · exact .inr ⟨g, cap, cur, rfl, h2, (hb g rfl).trans h3, h4⟩
/-- The block of a slice. -/
def blk (v : Value) (k : Nat) : Prop := v.ownBlock = some k
theorem own_holds {w : World} {base : Nat} {E : TypeId} {size n : Nat} {v : Value} {xs : List Value} (h : w.ownsRow base E size v n xs) : Holds w (blk v) fun w => w.ownsRow base E size v n xs :=
  ⟨fun k hk => (h.lt k hk).2, h, fun _ hb => own_dep h hb⟩
end Go.Proofs.Ytjggdbakbhacjaa
