/- Linear programs as values: a program that came in, opened; what the helpers of the laws do with one (counted, copied, equal, marked). -/
import Derived.Test.YtcmbfgaojlnjcaaLpD
import Derived.Test.YtcmbfgaojlnjcaaGB
import Derived.Test.YtcmbfgaojlnjcaaGA
import Derived.Lib.SmallJoins
namespace Go.Proofs.Ytcmbfgaojlnjcaa
set_option maxRecDepth 100000
open Go.RowKit Go.ChangeShapes Go.WideShapes Go.Deep Go.Joins

theorem inow {w : World} {F : Nat → Prop} {base n : Nat} {E : TypeId} {size : Nat} {v : Value} {xs : List Value} (h : Hid (Holds w F fun w => w.ownsRow base E size v n xs)) : w.ownsRow base E size v n xs := h.out.now
def SzEnd (left : Int) (t : Nat) (w w' : World) (e : Ending) : Prop := ∃ r : Int, e = .returned (.int .i64 r) ∧ (r = -1 ∨ (0 ≤ r ∧ r = left - t)) ∧ Below w.heap.size w w'
theorem own_le {w : World} {base : Nat} {E : TypeId} {size n c : Nat} {A : Option Addr} {xs : List Value} (h : w.ownsRow base E size (.slice A n c) n xs) : n ≤ c := by
  rcases h.2 with ⟨hv, h0⟩ | ⟨g, cap, cur, hv, _, _, hc, _⟩
  · omega
  · cases hv; exact hc
theorem two_none {F G : Nat → Prop} {a b c d : Nat} (u : Hid (∀ k, F k → a ≤ k ∧ k < b)) (v : Hid (∀ k, G k → c ≤ k ∧ k < d)) (h : b ≤ c ∨ d ≤ a) : ∀ k, F k → ¬ G k := fun k hk hg => by
  have h1 := u.out k hk
  have h2 := v.out k hg
  omega
theorem Box.wrote {w w' : World} {g : Nat} {t : TypeId} {cs : Array Value} {G : Nat → Prop} (h : Box w g t cs) (hW : Wrote G w w') {c d : Nat} (v : Hid (∀ k, G k → c ≤ k ∧ k < d)) (ho : g < c ∨ d ≤ g) : Box w' g t cs :=
  (hW.block g h.lt fun hg => by have := v.out g hg; omega).trans h
theorem szIntS_any (A : Option Addr) (n c : Nat) (left : Int) (w : World) (hm : n ≤ maxLen) (h0 : 0 ≤ left) (hl : left ≤ 1048576) :
    Calls Try.prog 52 #[.slice A n c, .int .i64 left] w fun e w' => SzEnd left n w w' e := by
  by_cases h : left - n < 0
  · exact (szIntS_neg A n c left w h0 hl hm h).mono fun e w' ⟨he, hb⟩ => ⟨-1, he, .inl rfl, by subst hb; exact Below.refl _ _⟩
  · exact (szIntS_pos A n c left w h0 hl h).mono fun e w' ⟨he, hb⟩ => ⟨left - n, he, .inr ⟨by omega, by omega⟩, by subst hb; exact Below.refl _ _⟩
/-- The three lists of a program of the call's own. -/
def OwnP (w : World) (base : Nat) (A : Option Addr) (n c : Nat) (xs : List Value) (B : Option Addr) (m d : Nat) (ys : List Value) (C : Option Addr) (l e : Nat) (zs : List Value) : Prop :=
  w.ownsRow base 3 1 (.slice A n c) n xs ∧ w.ownsRow base 3 1 (.slice B m d) m ys ∧ w.ownsRow base 3 1 (.slice C l e) l zs ∧
    Apart (.slice B m d) (.slice A n c) ∧ Apart (.slice C l e) (.slice A n c) ∧ Apart (.slice C l e) (.slice B m d)
def footP (v u t : Value) (k : Nat) : Prop := v.ownBlock = some k ∨ u.ownBlock = some k ∨ t.ownBlock = some k
section
variable {w w' : World} {base : Nat} {A B C : Option Addr} {n c m d l e : Nat} {xs ys zs : List Value}
theorem OwnP.dep (h : OwnP w base A n c xs B m d ys C l e zs) (hb : ∀ k, footP (.slice A n c) (.slice B m d) (.slice C l e) k → w'.heap[k]? = w.heap[k]?) : OwnP w' base A n c xs B m d ys C l e zs :=
  ⟨own_dep h.1 fun k hk => hb k (.inl hk), own_dep h.2.1 fun k hk => hb k (.inr (.inl hk)), own_dep h.2.2.1 fun k hk => hb k (.inr (.inr hk)), h.2.2.2⟩
theorem OwnP.lt (h : OwnP w base A n c xs B m d ys C l e zs) (k : Nat) (hk : footP (.slice A n c) (.slice B m d) (.slice C l e) k) : base ≤ k ∧ k < w.heap.size := by
  rcases hk with hk | hk | hk
  · exact h.1.lt k hk
  · exact h.2.1.lt k hk
  · exact h.2.2.1.lt k hk
theorem OwnP.holds (h : OwnP w base A n c xs B m d ys C l e zs) : Holds w (footP (.slice A n c) (.slice B m d) (.slice C l e)) fun w => OwnP w base A n c xs B m d ys C l e zs :=
  ⟨fun k hk => (h.lt k hk).2, h, fun _ hb => h.dep hb⟩
theorem OwnP.lower {b : Nat} (h : OwnP w base A n c xs B m d ys C l e zs) (hb : b ≤ base) : OwnP w b A n c xs B m d ys C l e zs := ⟨own_base h.1 hb, own_base h.2.1 hb, own_base h.2.2.1 hb, h.2.2.2⟩
theorem prow1 {F : Nat → Prop} (h : Hid (Holds w F fun w => OwnP w base A n c xs B m d ys C l e zs)) : w.ownsRow base 3 1 (.slice A n c) n xs := h.out.now.1
theorem prow2 {F : Nat → Prop} (h : Hid (Holds w F fun w => OwnP w base A n c xs B m d ys C l e zs)) : w.ownsRow base 3 1 (.slice B m d) m ys := h.out.now.2.1
theorem prow3 {F : Nat → Prop} (h : Hid (Holds w F fun w => OwnP w base A n c xs B m d ys C l e zs)) : w.ownsRow base 3 1 (.slice C l e) l zs := h.out.now.2.2.1
theorem pnow {F : Nat → Prop} (h : Hid (Holds w F fun w => OwnP w base A n c xs B m d ys C l e zs)) : OwnP w base A n c xs B m d ys C l e zs := h.out.now
/-- A program handed in, as three lists. -/
def InP (w : World) (A : Option Addr) (n : Nat) (la : List Int) (B : Option Addr) (m : Nat) (lb : List Int) (C : Option Addr) (l : Nat) (lc : List Int) : Prop := InI w A n la ∧ InI w B m lb ∧ InI w C l lc
theorem InP.ia {la lb lc : List Int} (h : InP w A n la B m lb C l lc) : InI w A n la := h.1
theorem InP.ib {la lb lc : List Int} (h : InP w A n la B m lb C l lc) : InI w B m lb := h.2.1
theorem InP.ic {la lb lc : List Int} (h : InP w A n la B m lb C l lc) : InI w C l lc := h.2.2
theorem InP.below {la lb lc : List Int} (h : InP w A n la B m lb C l lc) (hb : Below w.heap.size w w') : InP w' A n la B m lb C l lc := ⟨h.1.below hb, h.2.1.below hb, h.2.2.below hb⟩
theorem pin {F : Nat → Prop} {la lb lc : List Int} {w0 : World} {A0 B0 C0 : Option Addr} (h : Hid (Holds w F fun w => OwnP w base A n c (la.map (.int .i64)) B m d (lb.map (.int .i64)) C l e (lc.map (.int .i64)))) (hi : Hid (InP w0 A0 n la B0 m lb C0 l lc)) : InP w A n la B m lb C l lc :=
  ⟨hi.out.1.own (prow1 h), hi.out.2.1.own (prow2 h), hi.out.2.2.own (prow3 h)⟩
end
theorem array5 {α : Type} {lc : Array α} (h : lc.size = 5) : ∃ c0 c1 c2 c3 c4, lc = #[c0, c1, c2, c3, c4] := by
  obtain ⟨l⟩ := lc
  match l, h with
  | [c0, c1, c2, c3, c4], _ => exact ⟨c0, c1, c2, c3, c4, rfl⟩
section
variable {P : Program} {H : Type} {enc : TypeId × Value → H} {w : World} {sp : Nat → Bool} {hd : Bool}
theorem open_prog {r : Reach} {b0 : Nat} {M e : TypeId} {q0 q1 q2 q3 q4 : Field} {v : Value} {d : DataW H} {ps : List MemPlace} (hM : P.underlying M = some (.struct #[q0, q1, q2, q3, q4])) (hone5 : oneCellFields P #[q0, q1, q2, q3, q4] = true) (hC5 : P.cellsOf M = 5)
    (hi0 : P.underlying q0.type = some (.int .i64)) (hi1 : P.underlying q1.type = some (.int .i64)) (h2 : P.underlying q2.type = some (.slice e)) (h3 : P.underlying q3.type = some (.slice e)) (h4 : P.underlying q4.type = some (.slice e)) (he : P.underlying e = some (.int .i64)) (hc : P.cellsOf e = 1)
    (hv : Value.okWide P w r b0 M v) (h : DataW.Trod enc P w 0 sp hd M v d ps) :
    ∃ p k A n c la B m x lb C l y lc, v = .agg #[.int .i64 p, .int .i64 k, .slice A n c, .slice B m x, .slice C l y] ∧ (Lit.int .i64 p).wf = true ∧ (Lit.int .i64 k).wf = true ∧ IsInts w A n la ∧ IsInts w B m lb ∧ IsInts w C l lc := by
  obtain ⟨vs, rfl, hsz⟩ := okWide_struct hM hv
  obtain ⟨v0, v1, v2, v3, v4, rfl⟩ := array5 (hsz.trans hC5)
  obtain ⟨fuel, hf⟩ := h
  obtain ⟨xs, n, _, _, _, hlen, hf⟩ := DataW.trod_struct hM hf
  match xs, hlen with
  | [y0, y1, y2, y3, y4], _ =>
    obtain ⟨o0, k0⟩ := hone_of hone5 0 q0 rfl
    obtain ⟨o1, k1⟩ := hone_of hone5 1 q1 rfl
    obtain ⟨o2, k2⟩ := hone_of hone5 2 q2 rfl
    obtain ⟨o3, k3⟩ := hone_of hone5 3 q3 rfl
    obtain ⟨o4, k4⟩ := hone_of hone5 4 q4 rfl
    have t0 : DataW.trod enc P w 0 sp hd n q0.type [v0] = some y0 := by simpa [Value.cells, o0, k0] using hf 0 q0 rfl
    have t1 : DataW.trod enc P w 0 sp hd n q1.type [v1] = some y1 := by simpa [Value.cells, o1, k1] using hf 1 q1 rfl
    have t2 : DataW.trod enc P w 0 sp hd n q2.type [v2] = some y2 := by simpa [Value.cells, o2, k2] using hf 2 q2 rfl
    have t3 : DataW.trod enc P w 0 sp hd n q3.type [v3] = some y3 := by simpa [Value.cells, o3, k3] using hf 3 q3 rfl
    have t4 : DataW.trod enc P w 0 sp hd n q4.type [v4] = some y4 := by simpa [Value.cells, o4, k4] using hf 4 q4 rfl
    obtain ⟨p, hp, _, wp⟩ := DataW.trod_int hi0 t0
    obtain ⟨k, hk, _, wk⟩ := DataW.trod_int hi1 t1
    obtain rfl : v0 = .int .i64 p := by simpa using hp
    obtain rfl : v1 = .int .i64 k := by simpa using hk
    obtain ⟨A, n, c, la, rfl, hA⟩ := ints_cell h2 he hc t2
    obtain ⟨B, m, x, lb, rfl, hB⟩ := ints_cell h3 he hc t3
    obtain ⟨C, l, y, lc, rfl, hC⟩ := ints_cell h4 he hc t4
    exact ⟨p, k, A, n, c, la, B, m, x, lb, C, l, y, lc, rfl, wp, wk, hA, hB, hC⟩
end
theorem IsInts.inI {w : World} {A : Option Addr} {n : Nat} {xs : List Int} (h : IsInts w A n xs) (hn : n ≤ 1048576) : InI w A n xs := ⟨h.1, hn, h.2.2.1, h.2.2.2⟩

set_option maxHeartbeats 1600000 in
theorem szProgram_any (p k : Int) (A : Option Addr) (n c : Nat) (B : Option Addr) (m d : Nat) (C : Option Addr) (l e : Nat) (left : Int) (w : World) (hn : n ≤ maxLen) (hm : m ≤ maxLen) (hl : l ≤ maxLen) (h0 : 0 ≤ left) (h1 : left ≤ 1048576) :
    Calls Try.prog 14 #[.agg #[.int .i64 p, .int .i64 k, .slice A n c, .slice B m d, .slice C l e], .int .i64 left] w fun e w' => SzEnd left (n + m + l) w w' e := by
  obtain ⟨W0, hW0⟩ : ∃ W, W = (w.alloc (.cells #[.int .i64 p, .int .i64 k, .slice A n c, .slice B m d, .slice C l e] 24)) := ⟨_, rfl⟩
  have hp0_0 : Hid (Box W0 (w.heap.size) 24 #[.int .i64 p, .int .i64 k, .slice A n c, .slice B m d, .slice C l e]) := by rw [hW0]; exact (Box.at' (by simp))
  have BW_0 : Hid (Below w.heap.size w W0) := by rw [hW0]; exact ((Below.refl w.heap.size w).alloc (by simp) _)
  have hsz0 : w.heap.size + 1 ≤ W0.heap.size := by rw [hW0]; simp
  go_enter Try.func14, Try.ntmps14
  go_wp2_with fail
  rw [← hW0]
  clear hW0
  refine (szIntS_any A n c left _ hn h0 h1).mono ?_
  rintro e w1 ⟨r, rfl, hr, hb⟩
  have hp0_1 := Lib.hid (hp0_0.out.below hb hp0_0.out.lt)
  have BW_1 := Lib.hid (BW_0.out.trans (hb.mono BW_0.out.size))
  clear hb
  rcases hr with rfl | ⟨hr0, hr1⟩
  · go_wp2_with fail
    go_ret
    exact ⟨-1, rfl, .inl rfl, BW_1.out⟩
  have hr2 : r ≤ 1048576 := by omega
  have HR := Lib.hid hr1
  clear hr1
  have ehp00 := hp0_1.out.cell 0
  have ehp01 := hp0_1.out.cell 1
  have ehp02 := hp0_1.out.cell 2
  have ehp03 := hp0_1.out.cell 3
  have ehp04 := hp0_1.out.cell 4
  simp at ehp00 ehp01 ehp02 ehp03 ehp04
  go_wp2_with fail
  clear ehp00 ehp01 ehp02 ehp03 ehp04
  refine (szIntS_any B m d r _ hm hr0 hr2).mono ?_
  rintro e w2 ⟨s, rfl, hs, hb⟩
  have hp0_2 := Lib.hid (hp0_1.out.below hb hp0_1.out.lt)
  have BW_2 := Lib.hid (BW_1.out.trans (hb.mono BW_1.out.size))
  clear hb
  rcases hs with rfl | ⟨hs0, hs1⟩
  · go_wp2_with fail
    go_ret
    exact ⟨-1, rfl, .inl rfl, BW_2.out⟩
  have hs2 : s ≤ 1048576 := by omega
  have HS := Lib.hid hs1
  clear hs1
  have ehp00 := hp0_2.out.cell 0
  have ehp01 := hp0_2.out.cell 1
  have ehp02 := hp0_2.out.cell 2
  have ehp03 := hp0_2.out.cell 3
  have ehp04 := hp0_2.out.cell 4
  simp at ehp00 ehp01 ehp02 ehp03 ehp04
  go_wp2_with fail
  clear ehp00 ehp01 ehp02 ehp03 ehp04
  refine (szIntS_any C l e s _ hl hs0 hs2).mono ?_
  rintro e w3 ⟨t, rfl, ht, hb⟩
  have hp0_3 := Lib.hid (hp0_2.out.below hb hp0_2.out.lt)
  have BW_3 := Lib.hid (BW_2.out.trans (hb.mono BW_2.out.size))
  clear hb
  rcases ht with rfl | ⟨ht0, ht1⟩
  · go_wp2_with fail
    go_ret
    exact ⟨-1, rfl, .inl rfl, BW_3.out⟩
  have HT := Lib.hid ht1
  clear ht1
  go_wp2_with fail
  go_ret
  exact ⟨t, rfl, .inr ⟨ht0, by have := HR.out; have := HS.out; have := HT.out; omega⟩, BW_3.out⟩

section
variable {w W : World} {g base : Nat} {t E : TypeId} {cs : Array Value} {size n : Nat} {v : Value} {xs : List Value}
theorem own_store5 (o : w.ownsRow base E size v n xs) (h : Box w g t cs) (hne : E ≠ t) (u0 u1 u2 u3 u4 : Value) :
    (((((w.setCell ⟨g, 0, none⟩ u0).setCell ⟨g, 1, none⟩ u1).setCell ⟨g, 2, none⟩ u2).setCell ⟨g, 3, none⟩ u3).setCell ⟨g, 4, none⟩ u4).ownsRow base E size v n xs :=
  own_box (own_box (own_store3 o h hne u0 u1 u2) (((h.set_ 0 u0).set_ 1 u1).set_ 2 u2) 3 u3 hne) ((((h.set_ 0 u0).set_ 1 u1).set_ 2 u2).set_ 3 u3) 4 u4 hne
theorem below_store5 (hb : Below w.heap.size w W) (hg : w.heap.size ≤ g) (u0 u1 u2 u3 u4 : Value) : Below w.heap.size w (((((W.setCell ⟨g, 0, none⟩ u0).setCell ⟨g, 1, none⟩ u1).setCell ⟨g, 2, none⟩ u2).setCell ⟨g, 3, none⟩ u3).setCell ⟨g, 4, none⟩ u4) :=
  ((below_store3 hb hg _ _ _).setCell hg _).setCell hg _
end
def ToPEnd (p k : Int) (n : Nat) (la : List Int) (m : Nat) (lb : List Int) (l : Nat) (lc : List Int) (w w' : World) (e : Ending) : Prop :=
  ∃ A c B d C f, e = .returned (.agg #[.int .i64 p, .int .i64 k, .slice A n c, .slice B m d, .slice C l f]) ∧ OwnP w' w.heap.size A n c (la.map (.int .i64)) B m d (lb.map (.int .i64)) C l f (lc.map (.int .i64)) ∧ Below w.heap.size w w'
set_option maxHeartbeats 3200000 in
theorem toProgram_any (p k : Int) (A : Option Addr) (n c : Nat) (la : List Int) (B : Option Addr) (m d : Nat) (lb : List Int) (C : Option Addr) (l f : Nat) (lc : List Int) (w : World) (h : InP w A n la B m lb C l lc) :
    Calls Try.prog 16 #[.agg #[.int .i64 p, .int .i64 k, .slice A n c, .slice B m d, .slice C l f]] w fun e w' => ToPEnd p k n la m lb l lc w w' e := by
  obtain ⟨W, hW⟩ : ∃ W, W = (((w.alloc (.cells #[.int .i64 p, .int .i64 k, .slice A n c, .slice B m d, .slice C l f] 24)).alloc (.cells #[.int .i64 0, .int .i64 0, .slice none 0 0, .slice none 0 0, .slice none 0 0] 26)).alloc (.cells #[.int .i64 p, .int .i64 k, .slice none 0 0, .slice none 0 0, .slice none 0 0] 26)) := ⟨_, rfl⟩
  have hp0_0 : Hid (Box W w.heap.size 24 #[.int .i64 p, .int .i64 k, .slice A n c, .slice B m d, .slice C l f]) := by rw [hW]; exact ((Box.new _ _ _).alloc _).alloc _
  have hp1_0 : Hid (Box W (w.heap.size + 1) 26 #[.int .i64 0, .int .i64 0, .slice none 0 0, .slice none 0 0, .slice none 0 0]) := by rw [hW]; exact (Box.at' (by simp)).alloc _
  have hp2_0 : Hid (Box W (w.heap.size + 1 + 1) 26 #[.int .i64 p, .int .i64 k, .slice none 0 0, .slice none 0 0, .slice none 0 0]) := by rw [hW]; exact Box.at' (by simp)
  have BW_0 : Hid (Below w.heap.size w W) := by rw [hW]; exact (((Below.refl _ _).alloc (Nat.le_refl _) _).alloc (by simp) _).alloc (by simp; omega) _
  have hWs : W.heap.size = w.heap.size + 1 + 1 + 1 := by rw [hW]; simp
  have HI := Lib.hid h
  clear h
  go_enter Try.func16, Try.ntmps16
  go_wp2_with fail
  rw [← hW]
  clear hW
  refine (toIntS_any A n c la _ HI.out.1.len HI.out.1.le (HI.out.1.rd.below BW_0.out)).mono ?_
  rintro e w1 ⟨v, rfl, ho, hb⟩
  have hp0_1 := Lib.hid (hp0_0.out.below hb hp0_0.out.lt)
  have hp1_1 := Lib.hid (hp1_0.out.below hb hp1_0.out.lt)
  have hp2_1 := Lib.hid (hp2_0.out.below hb hp2_0.out.lt)
  have BW_1 := Lib.hid (BW_0.out.trans (hb.mono BW_0.out.size))
  obtain ⟨A1, c1, rfl⟩ := own_slice ho
  have hz1 : W.heap.size ≤ w1.heap.size := hb.size
  have HO1 := Lib.hid ho
  clear ho hb
  have ehp00 := hp0_1.out.cell 0
  have ehp01 := hp0_1.out.cell 1
  have ehp02 := hp0_1.out.cell 2
  have ehp03 := hp0_1.out.cell 3
  have ehp04 := hp0_1.out.cell 4
  simp at ehp00 ehp01 ehp02 ehp03 ehp04
  have fq := hp2_1.out.free 2
  have eq := hp2_1.out.cell 2
  simp at eq
  go_wp2_with fail
  clear ehp00 ehp01 ehp02 ehp03 ehp04
  clear fq eq
  obtain ⟨W2, hW2⟩ : ∃ W2, W2 = w1.setCell ⟨w.heap.size + 1 + 1, 2, none⟩ (.slice A1 n c1) := ⟨_, rfl⟩
  have HO2 : Hid (W2.ownsRow W.heap.size 3 1 (.slice A1 n c1) n (la.map (.int .i64))) := by rw [hW2]; exact own_box HO1.out hp2_1.out 2 _
  have hp2_2 : Hid (Box W2 (w.heap.size + 1 + 1) 26 #[.int .i64 p, .int .i64 k, .slice A1 n c1, .slice none 0 0, .slice none 0 0]) := by rw [hW2]; refine Lib.hid ?_; simpa using hp2_1.out.set_ 2 (.slice A1 n c1)
  have hp0_2 : Hid (Box W2 w.heap.size 24 #[.int .i64 p, .int .i64 k, .slice A n c, .slice B m d, .slice C l f]) := by rw [hW2]; exact hp0_1.out.far (by dsimp only; omega) _
  have hp1_2 : Hid (Box W2 (w.heap.size + 1) 26 #[.int .i64 0, .int .i64 0, .slice none 0 0, .slice none 0 0, .slice none 0 0]) := by rw [hW2]; exact hp1_1.out.far (by dsimp only; omega) _
  have BW_2 : Hid (Below w.heap.size w W2) := by rw [hW2]; exact BW_1.out.setCell (by dsimp only; omega) _
  have hz2 : W2.heap.size = w1.heap.size := by rw [hW2]; simp
  rw [← hW2]
  clear hW2 HO1
  refine (toIntS_any B m d lb _ HI.out.2.1.len HI.out.2.1.le (HI.out.2.1.rd.below BW_2.out)).mono ?_
  rintro e w3 ⟨v, rfl, ho, hb⟩
  have hp0_3 := Lib.hid (hp0_2.out.below hb hp0_2.out.lt)
  have hp1_3 := Lib.hid (hp1_2.out.below hb hp1_2.out.lt)
  have hp2_3 := Lib.hid (hp2_2.out.below hb hp2_2.out.lt)
  have BW_3 := Lib.hid (BW_2.out.trans (hb.mono BW_2.out.size))
  obtain ⟨B1, d1, rfl⟩ := own_slice ho
  have hz3 : W2.heap.size ≤ w3.heap.size := hb.size
  have AP1 := Lib.hid (apart_older' HO2.out ho)
  have HO3 := Lib.hid (own_below HO2.out hb)
  have HU3 := Lib.hid (own_base ho (show W.heap.size ≤ W2.heap.size by omega))
  clear ho hb HO2
  have ehp00 := hp0_3.out.cell 0
  have ehp01 := hp0_3.out.cell 1
  have ehp02 := hp0_3.out.cell 2
  have ehp03 := hp0_3.out.cell 3
  have ehp04 := hp0_3.out.cell 4
  simp at ehp00 ehp01 ehp02 ehp03 ehp04
  have fq := hp2_3.out.free 3
  have eq := hp2_3.out.cell 3
  simp at eq
  go_wp2_with fail
  clear ehp00 ehp01 ehp02 ehp03 ehp04
  clear fq eq
  obtain ⟨W4, hW4⟩ : ∃ W4, W4 = w3.setCell ⟨w.heap.size + 1 + 1, 3, none⟩ (.slice B1 m d1) := ⟨_, rfl⟩
  have HO4 : Hid (W4.ownsRow W.heap.size 3 1 (.slice A1 n c1) n (la.map (.int .i64))) := by rw [hW4]; exact own_box HO3.out hp2_3.out 3 _
  have HU4 : Hid (W4.ownsRow W.heap.size 3 1 (.slice B1 m d1) m (lb.map (.int .i64))) := by rw [hW4]; exact own_box HU3.out hp2_3.out 3 _
  have hp2_4 : Hid (Box W4 (w.heap.size + 1 + 1) 26 #[.int .i64 p, .int .i64 k, .slice A1 n c1, .slice B1 m d1, .slice none 0 0]) := by rw [hW4]; refine Lib.hid ?_; simpa using hp2_3.out.set_ 3 (.slice B1 m d1)
  have hp0_4 : Hid (Box W4 w.heap.size 24 #[.int .i64 p, .int .i64 k, .slice A n c, .slice B m d, .slice C l f]) := by rw [hW4]; exact hp0_3.out.far (by dsimp only; omega) _
  have hp1_4 : Hid (Box W4 (w.heap.size + 1) 26 #[.int .i64 0, .int .i64 0, .slice none 0 0, .slice none 0 0, .slice none 0 0]) := by rw [hW4]; exact hp1_3.out.far (by dsimp only; omega) _
  have BW_4 : Hid (Below w.heap.size w W4) := by rw [hW4]; exact BW_3.out.setCell (by dsimp only; omega) _
  have hz4 : W4.heap.size = w3.heap.size := by rw [hW4]; simp
  rw [← hW4]
  clear hW4 HO3 HU3
  refine (toIntS_any C l f lc _ HI.out.2.2.len HI.out.2.2.le (HI.out.2.2.rd.below BW_4.out)).mono ?_
  rintro e w5 ⟨v, rfl, ho, hb⟩
  have hp0_5 := Lib.hid (hp0_4.out.below hb hp0_4.out.lt)
  have hp1_5 := Lib.hid (hp1_4.out.below hb hp1_4.out.lt)
  have hp2_5 := Lib.hid (hp2_4.out.below hb hp2_4.out.lt)
  have BW_5 := Lib.hid (BW_4.out.trans (hb.mono BW_4.out.size))
  obtain ⟨C1, f1, rfl⟩ := own_slice ho
  have AP2 := Lib.hid (apart_older' HO4.out ho)
  have AP3 := Lib.hid (apart_older' HU4.out ho)
  have HO5 := Lib.hid (own_below HO4.out hb)
  have HU5 := Lib.hid (own_below HU4.out hb)
  have HV5 := Lib.hid (own_base ho (show W.heap.size ≤ W4.heap.size by omega))
  clear ho hb HO4 HU4
  have ehp10 := hp1_5.out.cell 0
  have ehp11 := hp1_5.out.cell 1
  have ehp12 := hp1_5.out.cell 2
  have ehp13 := hp1_5.out.cell 3
  have ehp14 := hp1_5.out.cell 4
  have ehp20 := hp2_5.out.cell 0
  have ehp21 := hp2_5.out.cell 1
  have ehp22 := hp2_5.out.cell 2
  have ehp23 := hp2_5.out.cell 3
  have ehp24 := hp2_5.out.cell 4
  simp at ehp10 ehp11 ehp12 ehp13 ehp14 ehp20 ehp21 ehp22 ehp23 ehp24
  have fq0 := hp2_5.out.free 4
  have fr0 := hp1_5.out.free 0
  have fr1 := hp1_5.out.free 1
  have fr2 := hp1_5.out.free 2
  have fr3 := hp1_5.out.free 3
  have fr4 := hp1_5.out.free 4
  go_wp2_with fail
  refine bodyPost_ret (v := .agg #[.int .i64 p, .int .i64 k, .slice A1 n c1, .slice B1 m d1, .slice C1 l f1]) (by simp [results, Try.results16, ehp10, ehp11, ehp12, ehp13, ehp14, go_sem]) rfl ?_
  have hp1_6 := hp1_5.out.far (p := ⟨w.heap.size + 1 + 1, 4, none⟩) (by dsimp only; omega) (.slice C1 l f1)
  refine ⟨_, _, _, _, _, _, rfl, ⟨?_, ?_, ?_, AP1.out, AP2.out, AP3.out⟩, ?_⟩
  · exact own_base (own_store5 (own_box HO5.out hp2_5.out 4 _ (by decide)) hp1_6 (by decide) _ _ _ _ _) (by omega)
  · exact own_base (own_store5 (own_box HU5.out hp2_5.out 4 _ (by decide)) hp1_6 (by decide) _ _ _ _ _) (by omega)
  · exact own_base (own_store5 (own_box HV5.out hp2_5.out 4 _ (by decide)) hp1_6 (by decide) _ _ _ _ _) (by omega)
  · exact below_store5 (BW_5.out.setCell (by dsimp only; omega) _) (by omega) _ _ _ _ _
set_option maxHeartbeats 3200000 in
theorem eqProgram_same (p k : Int) (A1 A2 : Option Addr) (n c1 c2 : Nat) (la : List Int) (B1 B2 : Option Addr) (m d1 d2 : Nat) (lb : List Int) (C1 C2 : Option Addr) (l f1 f2 : Nat) (lc : List Int) (w : World) (h1 : InP w A1 n la B1 m lb C1 l lc) (h2 : InP w A2 n la B2 m lb C2 l lc) :
    Calls Try.prog 18 #[.agg #[.int .i64 p, .int .i64 k, .slice A1 n c1, .slice B1 m d1, .slice C1 l f1], .agg #[.int .i64 p, .int .i64 k, .slice A2 n c2, .slice B2 m d2, .slice C2 l f2]] w fun e w' => e = .returned (.bool true) ∧ Below w.heap.size w w' := by
  obtain ⟨W0, hW0⟩ : ∃ W, W = ((w.alloc (.cells #[.int .i64 p, .int .i64 k, .slice A1 n c1, .slice B1 m d1, .slice C1 l f1] 26)).alloc (.cells #[.int .i64 p, .int .i64 k, .slice A2 n c2, .slice B2 m d2, .slice C2 l f2] 26)) := ⟨_, rfl⟩
  have hp0_0 : Hid (Box W0 (w.heap.size) 26 #[.int .i64 p, .int .i64 k, .slice A1 n c1, .slice B1 m d1, .slice C1 l f1]) := by rw [hW0]; exact ((Box.at' (by simp)).alloc _)
  have hp1_0 : Hid (Box W0 (w.heap.size + 1) 26 #[.int .i64 p, .int .i64 k, .slice A2 n c2, .slice B2 m d2, .slice C2 l f2]) := by rw [hW0]; exact (Box.at' (by simp))
  have BW_0 : Hid (Below w.heap.size w W0) := by rw [hW0]; exact (((Below.refl w.heap.size w).alloc (by simp) _).alloc (by simp) _)
  have hsz0 : w.heap.size + 1 + 1 ≤ W0.heap.size := by rw [hW0]; simp
  have H1 := Lib.hid (h1.below BW_0.out)
  have H2 := Lib.hid (h2.below BW_0.out)
  have hmx : (1048576 : Nat) ≤ maxLen := by unfold maxLen; omega
  have hn := h1.1.le
  have hm := h1.2.1.le
  have hl := h1.2.2.le
  clear h1 h2
  have hpp : (p != p) = false := by simp
  have hkk : (k != k) = false := by simp
  go_enter Try.func18, Try.ntmps18
  go_wp2_with fail
  rw [← hW0]
  clear hW0
  refine (eqIntS_same A1 A2 n c1 c2 la _ H1.out.1.len (by omega) H1.out.1.rd H2.out.1.rd).mono ?_
  rintro e w1 ⟨rfl, hb⟩
  have hp0_1 := Lib.hid (hp0_0.out.below hb hp0_0.out.lt)
  have hp1_1 := Lib.hid (hp1_0.out.below hb hp1_0.out.lt)
  have BW_1 := Lib.hid (BW_0.out.trans (hb.mono BW_0.out.size))
  replace H1 := Lib.hid (H1.out.below hb)
  replace H2 := Lib.hid (H2.out.below hb)
  clear hb
  have ehp00 := hp0_1.out.cell 0
  have ehp01 := hp0_1.out.cell 1
  have ehp02 := hp0_1.out.cell 2
  have ehp03 := hp0_1.out.cell 3
  have ehp04 := hp0_1.out.cell 4
  have ehp10 := hp1_1.out.cell 0
  have ehp11 := hp1_1.out.cell 1
  have ehp12 := hp1_1.out.cell 2
  have ehp13 := hp1_1.out.cell 3
  have ehp14 := hp1_1.out.cell 4
  simp at ehp00 ehp01 ehp02 ehp03 ehp04 ehp10 ehp11 ehp12 ehp13 ehp14
  go_wp2_with fail
  clear ehp00 ehp01 ehp02 ehp03 ehp04 ehp10 ehp11 ehp12 ehp13 ehp14
  refine (eqIntS_same B1 B2 m d1 d2 lb _ H1.out.2.1.len (by omega) H1.out.2.1.rd H2.out.2.1.rd).mono ?_
  rintro e w2 ⟨rfl, hb⟩
  have hp0_2 := Lib.hid (hp0_1.out.below hb hp0_1.out.lt)
  have hp1_2 := Lib.hid (hp1_1.out.below hb hp1_1.out.lt)
  have BW_2 := Lib.hid (BW_1.out.trans (hb.mono BW_1.out.size))
  replace H1 := Lib.hid (H1.out.below hb)
  replace H2 := Lib.hid (H2.out.below hb)
  clear hb
  have ehp00 := hp0_2.out.cell 0
  have ehp01 := hp0_2.out.cell 1
  have ehp02 := hp0_2.out.cell 2
  have ehp03 := hp0_2.out.cell 3
  have ehp04 := hp0_2.out.cell 4
  have ehp10 := hp1_2.out.cell 0
  have ehp11 := hp1_2.out.cell 1
  have ehp12 := hp1_2.out.cell 2
  have ehp13 := hp1_2.out.cell 3
  have ehp14 := hp1_2.out.cell 4
  simp at ehp00 ehp01 ehp02 ehp03 ehp04 ehp10 ehp11 ehp12 ehp13 ehp14
  go_wp2_with fail
  clear ehp00 ehp01 ehp02 ehp03 ehp04 ehp10 ehp11 ehp12 ehp13 ehp14
  refine (eqIntS_same C1 C2 l f1 f2 lc _ H1.out.2.2.len (by omega) H1.out.2.2.rd H2.out.2.2.rd).mono ?_
  rintro e w3 ⟨rfl, hb⟩
  have hp0_3 := Lib.hid (hp0_2.out.below hb hp0_2.out.lt)
  have hp1_3 := Lib.hid (hp1_2.out.below hb hp1_2.out.lt)
  have BW_3 := Lib.hid (BW_2.out.trans (hb.mono BW_2.out.size))
  clear hb
  go_wp2_with fail
  go_ret
  exact ⟨rfl, BW_3.out⟩
def MarkPEnd (base : Nat) (A : Option Addr) (n c : Nat) (B : Option Addr) (m d : Nat) (C : Option Addr) (l f K : Nat) (w w' : World) (e : Ending) : Prop :=
  e = .returned (.int .i64 ((K + n + m + l : Nat) : Int)) ∧ OwnP w' base A n c (marks markI K n) B m d (marks markI (K + n) m) C l f (marks markI (K + n + m) l) ∧ Wrote (footP (.slice A n c) (.slice B m d) (.slice C l f)) w w'
set_option maxHeartbeats 3200000 in
theorem markProgram_own (base : Nat) (p k : Int) (A : Option Addr) (n c K : Nat) (xs : List Int) (B : Option Addr) (m d : Nat) (ys : List Int) (C : Option Addr) (l f : Nat) (zs : List Int) (w : World) (hK : K + n + m + l < maxLen)
    (h : OwnP w base A n c (xs.map (.int .i64)) B m d (ys.map (.int .i64)) C l f (zs.map (.int .i64))) :
    Calls Try.prog 19 #[.agg #[.int .i64 p, .int .i64 k, .slice A n c, .slice B m d, .slice C l f], .int .i64 K] w fun e w' => MarkPEnd base A n c B m d C l f K w w' e := by
  obtain ⟨W0, hW0⟩ : ∃ W, W = (w.alloc (.cells #[.int .i64 p, .int .i64 k, .slice A n c, .slice B m d, .slice C l f] 26)) := ⟨_, rfl⟩
  have hp0_0 : Hid (Box W0 (w.heap.size) 26 #[.int .i64 p, .int .i64 k, .slice A n c, .slice B m d, .slice C l f]) := by rw [hW0]; exact (Box.at' (by simp))
  have BW_0 : Hid (Below w.heap.size w W0) := by rw [hW0]; exact ((Below.refl w.heap.size w).alloc (by simp) _)
  have hsz0 : w.heap.size + 1 ≤ W0.heap.size := by rw [hW0]; simp
  have HP := Lib.hid (h.dep fun k hk => BW_0.out.block k (h.lt k hk).2)
  have HW0 : Hid (Wrote (footP (.slice A n c) (.slice B m d) (.slice C l f)) w W0) := Wrote.of_below BW_0.out
  clear h
  go_enter Try.func19, Try.ntmps19
  go_wp2_with fail
  rw [← hW0]
  clear hW0
  refine (markIntS_own base A n c K _ _ (by omega) HP.out.1 (ints_are xs)).mono ?_
  rintro e w1 ⟨rfl, ho, hg⟩
  have HO1 := Lib.hid ho
  have hp0_1 := Lib.hid (hp0_0.out.grown hg (ne_own hp0_0.out HP.out.1))
  have HU1 := Lib.hid (HP.out.2.1.kept hg (apart_of HP.out.2.2.2.1))
  have HV1 := Lib.hid (HP.out.2.2.1.kept hg (apart_of HP.out.2.2.2.2.1))
  have HW1 := Lib.hid (HW0.out.trans ((Wrote.of_grown hg).mono fun k _ hk => .inl hk))
  clear ho hg
  have ehp00 := hp0_1.out.cell 0
  have ehp01 := hp0_1.out.cell 1
  have ehp02 := hp0_1.out.cell 2
  have ehp03 := hp0_1.out.cell 3
  have ehp04 := hp0_1.out.cell 4
  simp at ehp00 ehp01 ehp02 ehp03 ehp04
  go_wp2_with fail
  clear ehp00 ehp01 ehp02 ehp03 ehp04
  refine (markIntS_own base B m d (K + n) _ _ (by omega) HU1.out (ints_are ys)).mono ?_
  rintro e w2 ⟨rfl, ho, hg⟩
  have HU2 := Lib.hid ho
  have hp0_2 := Lib.hid (hp0_1.out.grown hg (ne_own hp0_1.out HU1.out))
  have HO2 := Lib.hid (HO1.out.kept hg (apart_of (Apart.symm HP.out.2.2.2.1)))
  have HV2 := Lib.hid (HV1.out.kept hg (apart_of HP.out.2.2.2.2.2))
  have HW2 := Lib.hid (HW1.out.trans ((Wrote.of_grown hg).mono fun k _ hk => .inr (.inl hk)))
  clear ho hg HU1 HO1 HV1
  have ehp00 := hp0_2.out.cell 0
  have ehp01 := hp0_2.out.cell 1
  have ehp02 := hp0_2.out.cell 2
  have ehp03 := hp0_2.out.cell 3
  have ehp04 := hp0_2.out.cell 4
  simp at ehp00 ehp01 ehp02 ehp03 ehp04
  go_wp2_with fail
  clear ehp00 ehp01 ehp02 ehp03 ehp04
  refine (markIntS_own base C l f (K + n + m) _ _ (by omega) HV2.out (ints_are zs)).mono ?_
  rintro e w3 ⟨rfl, ho, hg⟩
  have HV3 := Lib.hid ho
  have HO3 := Lib.hid (HO2.out.kept hg (apart_of (Apart.symm HP.out.2.2.2.2.1)))
  have HU3 := Lib.hid (HU2.out.kept hg (apart_of (Apart.symm HP.out.2.2.2.2.2)))
  have HW3 := Lib.hid (HW2.out.trans ((Wrote.of_grown hg).mono fun k _ hk => .inr (.inr hk)))
  clear ho hg
  go_wp2_with fail
  go_ret
  exact ⟨rfl, ⟨HO3.out, HU3.out, HV3.out, HP.out.2.2.2⟩, HW3.out⟩
end Go.Proofs.Ytcmbfgaojlnjcaa
