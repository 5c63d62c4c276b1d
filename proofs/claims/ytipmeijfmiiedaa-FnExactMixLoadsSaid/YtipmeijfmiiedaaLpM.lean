/- Linear programs as values: a program that came in, opened; what the helpers of the laws do with one (counted, copied, equal, marked). -/
import Derived.Test.YtipmeijfmiiedaaLpD
import Derived.Test.YtipmeijfmiiedaaGB
import Derived.Test.YtipmeijfmiiedaaGA
import Derived.Lib.SmallJoins
namespace Go.Proofs.Ytipmeijfmiiedaa
set_option maxRecDepth 100000
open Go.RowKit Go.ChangeShapes Go.WideShapes Go.Deep Go.Joins

theorem inow {w : World} {F : Nat → Prop} {base n : Nat} {E : TypeId} {size : Nat} {v : Value} {xs : List Value} (h : Hid (Holds w F fun w => w.ownsRow base E size v n xs)) : w.ownsRow base E size v n xs := h.out.now
def SzEnd (left : Int) (t : Nat) (w w' : World) (e : Ending) : Prop := ∃ r : Int, e = .returned (.int .i64 r) ∧ (r = -1 ∨ (0 ≤ r ∧ r = left - t)) ∧ Below w.heap.size w w'
theorem own_le {w : World} {base : Nat} {E : TypeId} {size n c : Nat} {A : Option Addr} {xs : List Value} (h : w.ownsRow base E size (.slice A n c) n xs) : n ≤ c := by
  rcases h.2 with ⟨hv, h0⟩ | ⟨g, cap, cur, hv, _, _, hc, _⟩
  · omega
  · cases hv; exact hc
theorem two_none {F G : Nat → Prop} {a b c d : Nat} (u : Hid (∀ k, F k → a ≤ k ∧ k < b)) (v : Hid (∀ k, G k → c ≤ k ∧ k < d)) (h : b ≤ c ∨ d ≤ a) : ∀ k, F k → ¬ G k := fun k hk hg => by
  have h1 := u.out k hk
  have h2 := v.out k hg
  omega
theorem Box.wrote {w w' : World} {g : Nat} {t : TypeId} {cs : Array Value} {G : Nat → Prop} (h : Box w g t cs) (hW : Wrote G w w') {c d : Nat} (v : Hid (∀ k, G k → c ≤ k ∧ k < d)) (ho : g < c ∨ d ≤ g) : Box w' g t cs :=
  (hW.block g h.lt fun hg => by have := v.out g hg; omega).trans h
theorem szIntS_any (A : Option Addr) (n c : Nat) (left : Int) (w : World) (hm : n ≤ maxLen) (h0 : 0 ≤ left) (hl : left ≤ 1048576) :
    Calls Try.prog 66 #[.slice A n c, .int .i64 left] w fun e w' => SzEnd left n w w' e := by
  by_cases h : left - n < 0
  · exact (szIntS_neg A n c left w h0 hl hm h).mono fun e w' ⟨he, hb⟩ => ⟨-1, he, .inl rfl, by subst hb; exact Below.refl _ _⟩
  · exact (szIntS_pos A n c left w h0 hl h).mono fun e w' ⟨he, hb⟩ => ⟨left - n, he, .inr ⟨by omega, by omega⟩, by subst hb; exact Below.refl _ _⟩
/-- The three lists of a program of the call's own. -/
def OwnP (w : World) (base : Nat) (A : Option Addr) (n c : Nat) (xs : List Value) (B : Option Addr) (m d : Nat) (ys : List Value) (C : Option Addr) (l e : Nat) (zs : List Value) : Prop :=
  w.ownsRow base 3 1 (.slice A n c) n xs ∧ w.ownsRow base 3 1 (.slice B m d) m ys ∧ w.ownsRow base 3 1 (.slice C l e) l zs ∧
    Apart (.slice B m d) (.slice A n c) ∧ Apart (.slice C l e) (.slice A n c) ∧ Apart (.slice C l e) (.slice B m d)
def footP (v u t : Value) (k : Nat) : Prop := v.ownBlock = some k ∨ u.ownBlock = some k ∨ t.ownBlock = some k
section
variable {w w' : World} {base : Nat} {A B C : Option Addr} {n c m d l e : Nat} {xs ys zs : List Value}
theorem OwnP.dep (h : OwnP w base A n c xs B m d ys C l e zs) (hb : ∀ k, footP (.slice A n c) (.slice B m d) (.slice C l e) k → w'.heap[k]? = w.heap[k]?) : OwnP w' base A n c xs B m d ys C l e zs :=
  ⟨own_dep h.1 fun k hk => hb k (.inl hk), own_dep h.2.1 fun k hk => hb k (.inr (.inl hk)), own_dep h.2.2.1 fun k hk => hb k (.inr (.inr hk)), h.2.2.2⟩
theorem OwnP.lt (h : OwnP w base A n c xs B m d ys C l e zs) (k : Nat) (hk : footP (.slice A n c) (.slice B m d) (.slice C l e) k) : base ≤ k ∧ k < w.heap.size := by
  rcases hk with hk | hk | hk
  · exact h.1.lt k hk
  · exact h.2.1.lt k hk
  · exact h.2.2.1.lt k hk
theorem OwnP.holds (h : OwnP w base A n c xs B m d ys C l e zs) : Holds w (footP (.slice A n c) (.slice B m d) (.slice C l e)) fun w => OwnP w base A n c xs B m d ys C l e zs :=
  ⟨fun k hk => (h.lt k hk).2, h, fun _ hb => h.dep hb⟩
theorem OwnP.lower {b : Nat} (h : OwnP w base A n c xs B m d ys C l e zs) (hb : b ≤ base) : OwnP w b A n c xs B m d ys C l e zs := ⟨own_base h.1 hb, own_base h.2.1 hb, own_base h.2.2.1 hb, h.2.2.2⟩
theorem prow1 {F : Nat → Prop} (h : Hid (Holds w F fun w => OwnP w base A n c xs B m d ys C l e zs)) : w.ownsRow base 3 1 (.slice A n c) n xs := h.out.now.1
theorem prow2 {F : Nat → Prop} (h : Hid (Holds w F fun w => OwnP w base A n c xs B m d ys C l e zs)) : w.ownsRow base 3 1 (.slice B m d) m ys := h.out.now.2.1
theorem prow3 {F : Nat → Prop} (h : Hid (Holds w F fun w => OwnP w base A n c xs B m d ys C l e zs)) : w.ownsRow base 3 1 (.slice C l e) l zs := h.out.now.2.2.1
theorem pnow {F : Nat → Prop} (h : Hid (Holds w F fun w => OwnP w base A n c xs B m d ys C l e zs)) : OwnP w base A n c xs B m d ys C l e zs := h.out.now
/-- A program handed in, as three lists. -/
def InP (w : World) (A : Option Addr) (n : Nat) (la : List Int) (B : Option Addr) (m : Nat) (lb : List Int) (C : Option Addr) (l : Nat) (lc : List Int) : Prop := InI w A n la ∧ InI w B m lb ∧ InI w C l lc
theorem InP.ia {la lb lc : List Int} (h : InP w A n la B m lb C l lc) : InI w A n la := h.1
theorem InP.ib {la lb lc : List Int} (h : InP w A n la B m lb C l lc) : InI w B m lb := h.2.1
theorem InP.ic {la lb lc : List Int} (h : InP w A n la B m lb C l lc) : InI w C l lc := h.2.2
theorem InP.below {la lb lc : List Int} (h : InP w A n la B m lb C l lc) (hb : Below w.heap.size w w') : InP w' A n la B m lb C l lc := ⟨h.1.below hb, h.2.1.below hb, h.2.2.below hb⟩
theorem pin {F : Nat → Prop} {la lb lc : List Int} {w0 : World} {A0 B0 C0 : Option Addr} (h : Hid (Holds w F fun w => OwnP w base A n c (la.map (.int .i64)) B m d (lb.map (.int .i64)) C l e (lc.map (.int .i64)))) (hi : Hid (InP w0 A0 n la B0 m lb C0 l lc)) : InP w A n la B m lb C l lc :=
  ⟨hi.out.1.own (prow1 h), hi.out.2.1.own (prow2 h), hi.out.2.2.own (prow3 h)⟩
end
theorem array5 {α : Type} {lc : Array α} (h : lc.size = 5) : ∃ c0 c1 c2 c3 c4, lc = #[c0, c1, c2, c3, c4] := by
  obtain ⟨l⟩ := lc
  match l, h with
  | [c0, c1, c2, c3, c4], _ => exact ⟨c0, c1, c2, c3, c4, rfl⟩
section
variable {P : Program} {H : Type} {enc : TypeId × Value → H} {w : World} {sp : Nat → Bool} {hd : Bool}
theorem open_prog {r : Reach} {b0 : Nat} {M e : TypeId} {q0 q1 q2 q3 q4 : Field} {v : Value} {d : DataW H} {ps : List MemPlace} (hM : P.underlying M = some (.struct #[q0, q1, q2, q3, q4])) (hone5 : oneCellFields P #[q0, q1, q2, q3, q4] = true) (hC5 : P.cellsOf M = 5)
    (hi0 : P.underlying q0.type = some (.int .i64)) (hi1 : P.underlying q1.type = some (.int .i64)) (h2 : P.underlying q2.type = some (.slice e)) (h3 : P.underlying q3.type = some (.slice e)) (h4 : P.underlying q4.type = some (.slice e)) (he : P.underlying e = some (.int .i64)) (hc : P.cellsOf e = 1)
    (hv : Value.okWide P w r b0 M v) (h : DataW.Trod enc P w 0 sp hd M v d ps) :
    ∃ p k A n c la B m x lb C l y lc, v = .agg #[.int .i64 p, .int .i64 k, .slice A n c, .slice B m x, .slice C l y] ∧ (Lit.int .i64 p).wf = true ∧ (Lit.int .i64 k).wf = true ∧ IsInts w A n la ∧ IsInts w B m lb ∧ IsInts w C l lc := by
  obtain ⟨vs, rfl, hsz⟩ := okWide_struct hM hv
  obtain ⟨v0, v1, v2, v3, v4, rfl⟩ := array5 (hsz.trans hC5)
  obtain ⟨fuel, hf⟩ := h
  obtain ⟨xs, n, _, _, _, hlen, hf⟩ := DataW.trod_struct hM hf
  match xs, hlen with
  | [y0, y1, y2, y3, y4], _ =>
    obtain ⟨o0, k0⟩ := hone_of hone5 0 q0 rfl
    obtain ⟨o1, k1⟩ := hone_of hone5 1 q1 rfl
    obtain ⟨o2, k2⟩ := hone_of hone5 2 q2 rfl
    obtain ⟨o3, k3⟩ := hone_of hone5 3 q3 rfl
    obtain ⟨o4, k4⟩ := hone_of hone5 4 q4 rfl
    have t0 : DataW.trod enc P w 0 sp hd n q0.type [v0] = some y0 := by simpa [Value.cells, o0, k0] using hf 0 q0 rfl
    have t1 : DataW.trod enc P w 0 sp hd n q1.type [v1] = some y1 := by simpa [Value.cells, o1, k1] using hf 1 q1 rfl
    have t2 : DataW.trod enc P w 0 sp hd n q2.type [v2] = some y2 := by simpa [Value.cells, o2, k2] using hf 2 q2 rfl
    have t3 : DataW.trod enc P w 0 sp hd n q3.type [v3] = some y3 := by simpa [Value.cells, o3, k3] using hf 3 q3 rfl
    have t4 : DataW.trod enc P w 0 sp hd n q4.type [v4] = some y4 := by simpa [Value.cells, o4, k4] using hf 4 q4 rfl
    obtain ⟨p, hp, _, wp⟩ := DataW.trod_int hi0 t0
    obtain ⟨k, hk, _, wk⟩ := DataW.trod_int hi1 t1
    obtain rfl : v0 = .int .i64 p := by simpa using hp
    obtain rfl : v1 = .int .i64 k := by simpa using hk
    obtain ⟨A, n, c, la, rfl, hA⟩ := ints_cell h2 he hc t2
    obtain ⟨B, m, x, lb, rfl, hB⟩ := ints_cell h3 he hc t3
    obtain ⟨C, l, y, lc, rfl, hC⟩ := ints_cell h4 he hc t4
    exact ⟨p, k, A, n, c, la, B, m, x, lb, C, l, y, lc, rfl, wp, wk, hA, hB, hC⟩
end
theorem IsInts.inI {w : World} {A : Option Addr} {n : Nat} {xs : List Int} (h : IsInts w A n xs) (hn : n ≤ 1048576) : InI w A n xs := ⟨h.1, hn, h.2.2.1, h.2.2.2⟩


section
variable {w W : World} {g base : Nat} {t E : TypeId} {cs : Array Value} {size n : Nat} {v : Value} {xs : List Value}
theorem own_store5 (o : w.ownsRow base E size v n xs) (h : Box w g t cs) (hne : E ≠ t) (u0 u1 u2 u3 u4 : Value) :
    (((((w.setCell ⟨g, 0, none⟩ u0).setCell ⟨g, 1, none⟩ u1).setCell ⟨g, 2, none⟩ u2).setCell ⟨g, 3, none⟩ u3).setCell ⟨g, 4, none⟩ u4).ownsRow base E size v n xs :=
  own_box (own_box (own_store3 o h hne u0 u1 u2) (((h.set_ 0 u0).set_ 1 u1).set_ 2 u2) 3 u3 hne) ((((h.set_ 0 u0).set_ 1 u1).set_ 2 u2).set_ 3 u3) 4 u4 hne
theorem below_store5 (hb : Below w.heap.size w W) (hg : w.heap.size ≤ g) (u0 u1 u2 u3 u4 : Value) : Below w.heap.size w (((((W.setCell ⟨g, 0, none⟩ u0).setCell ⟨g, 1, none⟩ u1).setCell ⟨g, 2, none⟩ u2).setCell ⟨g, 3, none⟩ u3).setCell ⟨g, 4, none⟩ u4) :=
  ((below_store3 hb hg _ _ _).setCell hg _).setCell hg _
end
def ToPEnd (p k : Int) (n : Nat) (la : List Int) (m : Nat) (lb : List Int) (l : Nat) (lc : List Int) (w w' : World) (e : Ending) : Prop :=
  ∃ A c B d C f, e = .returned (.agg #[.int .i64 p, .int .i64 k, .slice A n c, .slice B m d, .slice C l f]) ∧ OwnP w' w.heap.size A n c (la.map (.int .i64)) B m d (lb.map (.int .i64)) C l f (lc.map (.int .i64)) ∧ Below w.heap.size w w'
def MarkPEnd (base : Nat) (A : Option Addr) (n c : Nat) (B : Option Addr) (m d : Nat) (C : Option Addr) (l f K : Nat) (w w' : World) (e : Ending) : Prop :=
  e = .returned (.int .i64 ((K + n + m + l : Nat) : Int)) ∧ OwnP w' base A n c (marks markI K n) B m d (marks markI (K + n) m) C l f (marks markI (K + n + m) l) ∧ Wrote (footP (.slice A n c) (.slice B m d) (.slice C l f)) w w'
end Go.Proofs.Ytipmeijfmiiedaa
