/- Results of linear programs as values: a result that came in, opened; what the helpers of the laws do with one (counted, copied, equal). -/
import Derived.Test.YtegclofijaoajaaGreatGB
import Derived.Test.YtegclofijaoajaaGreatGA
import Derived.Test.YtegclofijaoajaaGreatGV
import Derived.Lib.SmallJoins
namespace Go.Proofs.YtegclofijaoajaaGreat
set_option maxRecDepth 100000
open Go.RowKit Go.ChangeShapes Go.WideShapes Go.Deep Go.Joins

/-- The list and the fraction of a result of the call's own. -/
def OwnS (w : World) (base : Nat) (X : Option Addr) (n c : Nat) (L : List El) (e : El) : Prop :=
  OwnV w base (.slice X n c) n L ∧ e.own w base ∧ ∀ k, footV (.slice X n c) L k → ¬ e.foot k
def footS (V : Value) (L : List El) (e : El) (k : Nat) : Prop := footV V L k ∨ e.foot k
section
variable {w w' : World} {base n c : Nat} {X : Option Addr} {L : List El} {e : El}
theorem OwnS.dep (h : OwnS w base X n c L e) (hb : ∀ k, footS (.slice X n c) L e k → w'.heap[k]? = w.heap[k]?) : OwnS w' base X n c L e :=
  ⟨h.1.dep fun k hk => hb k (.inl hk), h.2.1.dep fun k hk => hb k (.inr hk), h.2.2⟩
theorem OwnS.lt (h : OwnS w base X n c L e) (k : Nat) (hk : footS (.slice X n c) L e k) : base ≤ k ∧ k < w.heap.size := by
  rcases hk with hk | hk
  · exact h.1.lt k hk
  · exact h.2.1.lt k hk
theorem OwnS.holds (h : OwnS w base X n c L e) : Holds w (footS (.slice X n c) L e) fun w => OwnS w base X n c L e :=
  ⟨fun k hk => (h.lt k hk).2, h, fun _ hb => h.dep hb⟩
theorem svin {F : Nat → Prop} {rs : List RD} (h : Hid (Holds w F fun w => OwnS w base X n c L e)) (hh : Hid (Has L rs)) (hn : n ≤ 1048576) (hf : Hid (∀ r ∈ rs, r.fits)) : InV w X n rs := h.out.now.1.in_ hh.out hn hf.out
theorem srow1 {F : Nat → Prop} {g : Bool} {A : Option Addr} {m d : Nat} {xs : List Value} {B : Option Addr} {l f : Nat} {ys : List Value} (h : Hid (Holds w F fun w => OwnS w base X n c L (ratEl g A m d xs B l f ys))) : w.ownsRow base 3 1 (.slice A m d) m xs := h.out.now.2.1.1
theorem srow2 {F : Nat → Prop} {g : Bool} {A : Option Addr} {m d : Nat} {xs : List Value} {B : Option Addr} {l f : Nat} {ys : List Value} (h : Hid (Holds w F fun w => OwnS w base X n c L (ratEl g A m d xs B l f ys))) : w.ownsRow base 3 1 (.slice B l f) l ys := h.out.now.2.1.2.1
end
section
variable {P : Program} {H : Type} {enc : TypeId × Value → H} {w : World} {sp : Nat → Bool} {hd : Bool}
theorem open_rat_cells {t e : TypeId} {f0 f1 k0 k1 : Field} {c0 c1 c2 : Value} {fuel : Nat} {y : DataW H × List MemPlace} (hs : P.underlying t = some (.struct #[f0, f1])) (ho0 : f0.offset = 0) (ho1 : f1.offset = 2)
    (hsb : P.underlying f0.type = some (.struct #[k0, k1])) (hone : oneCellFields P #[k0, k1] = true) (hCb : P.cellsOf f0.type = 2) (hc1 : P.cellsOf f1.type = 1)
    (hb : P.underlying k0.type = some .bool) (hsl : P.underlying k1.type = some (.slice e)) (hsl1 : P.underlying f1.type = some (.slice e)) (he : P.underlying e = some (.int .i64)) (hc : P.cellsOf e = 1)
    (hf : DataW.trod enc P w 0 sp hd fuel t [c0, c1, c2] = some y) :
    ∃ g A len cap xs B lenb capb ys, c0 = .bool g ∧ c1 = .slice A len cap ∧ c2 = .slice B lenb capb ∧ IsInts w A len xs ∧ IsInts w B lenb ys := by
  obtain ⟨y0, y1, n, hx, _, h0, h1⟩ := trod_struct2 hs hf
  rw [ho0, hCb] at h0
  rw [ho1, hc1] at h1
  have h0' : DataW.trod enc P w 0 sp hd n f0.type [c0, c1] = some y0 := by simpa [Value.cells] using h0
  have h1' : DataW.trod enc P w 0 sp hd n f1.type [c2] = some y1 := by simpa [Value.cells] using h1
  obtain ⟨z0, z1, m, hz, _, g0, g1⟩ := trod_struct2 hsb h0'
  obtain ⟨o0, q0⟩ := hone_of hone 0 k0 rfl
  obtain ⟨o1, q1⟩ := hone_of hone 1 k1 rfl
  have g0' : DataW.trod enc P w 0 sp hd m k0.type [c0] = some z0 := by simpa [o0, q0] using g0
  have g1' : DataW.trod enc P w 0 sp hd m k1.type [c1] = some z1 := by simpa [o1, q1] using g1
  obtain ⟨b, hb', _⟩ := DataW.trod_bool hb g0'
  obtain rfl : c0 = .bool b := by simpa using hb'
  obtain ⟨A, len, cap, xs, rfl, hA⟩ := ints_cell hsl he hc g1'
  obtain ⟨B, lenb, capb, ys, rfl, hB⟩ := ints_cell hsl1 he hc h1'
  exact ⟨b, A, len, cap, xs, B, lenb, capb, ys, rfl, rfl, rfl, hA, hB⟩
theorem arr5 {α : Type} {lc : Array α} (h : lc.size = 5) : ∃ c0 c1 c2 c3 c4, lc = #[c0, c1, c2, c3, c4] := by
  obtain ⟨l⟩ := lc
  match l, h with
  | [c0, c1, c2, c3, c4], _ => exact ⟨c0, c1, c2, c3, c4, rfl⟩
theorem open_res {r : Reach} {b0 : Nat} {M T t e : TypeId} {q0 q1 q2 f0 f1 k0 k1 : Field} {v : Value} {d : DataW H} {ps : List MemPlace} (hM : P.underlying M = some (.struct #[q0, q1, q2])) (hC5 : P.cellsOf M = 5)
    (hq0 : q0.offset = 0) (hq1 : q1.offset = 1) (hq2 : q2.offset = 2) (hd0 : P.cellsOf q0.type = 1) (hd1 : P.cellsOf q1.type = 1) (hd2 : P.cellsOf q2.type = 3)
    (hi0 : P.underlying q0.type = some (.int .i64)) (hqT : q1.type = T) (hqt : q2.type = t)
    (hT : P.underlying T = some (.slice t)) (hs : P.underlying t = some (.struct #[f0, f1])) (ho0 : f0.offset = 0) (ho1 : f1.offset = 2) (hC : P.cellsOf t = 3)
    (hsb : P.underlying f0.type = some (.struct #[k0, k1])) (hone : oneCellFields P #[k0, k1] = true) (hCb : P.cellsOf f0.type = 2) (hc1 : P.cellsOf f1.type = 1)
    (hb : P.underlying k0.type = some .bool) (hsl : P.underlying k1.type = some (.slice e)) (hsl1 : P.underlying f1.type = some (.slice e)) (he : P.underlying e = some (.int .i64)) (hc : P.cellsOf e = 1)
    (hv : Value.okWide P w r b0 M v) (h : DataW.Trod enc P w 0 sp hd M v d ps) :
    ∃ p X n c rs g A m x xs B l y ys, v = .agg #[.int .i64 p, .slice X n c, .bool g, .slice A m x, .slice B l y] ∧ (Lit.int .i64 p).wf = true ∧ IsV w X n rs ∧ IsInts w A m xs ∧ IsInts w B l ys := by
  obtain ⟨vs, rfl, hsz⟩ := okWide_struct hM hv
  obtain ⟨v0, v1, v2, v3, v4, rfl⟩ := arr5 (hsz.trans hC5)
  obtain ⟨fuel, hf⟩ := h
  obtain ⟨xs, n, _, _, _, hlen, hf⟩ := DataW.trod_struct hM hf
  match xs, hlen with
  | [y0, y1, y2], _ =>
    have t0 : DataW.trod enc P w 0 sp hd n q0.type [v0] = some y0 := by simpa [Value.cells, hq0, hd0] using hf 0 q0 rfl
    have t1 : DataW.trod enc P w 0 sp hd n q1.type [v1] = some y1 := by simpa [Value.cells, hq1, hd1] using hf 1 q1 rfl
    have t2 : DataW.trod enc P w 0 sp hd n q2.type [v2, v3, v4] = some y2 := by simpa [Value.cells, hq2, hd2] using hf 2 q2 rfl
    obtain ⟨p, hp, _, wp⟩ := DataW.trod_int hi0 t0
    obtain rfl : v0 = .int .i64 p := by simpa using hp
    rw [hqT] at t1
    obtain ⟨X, len, cap, hA⟩ := slice_form hT t1
    obtain rfl : v1 = .slice X len cap := by simpa using hA
    obtain ⟨rs, hr⟩ := isV_of hT hs ho0 ho1 hC hsb hone hCb hc1 hb hsl hsl1 he hc (⟨n, by simpa [Value.cells] using t1⟩ : DataW.Trod enc P w 0 sp hd T (Value.slice X len cap) y1.1 y1.2)
    rw [hqt] at t2
    obtain ⟨g, A, m, x, zs, B, l, y, ys, rfl, rfl, rfl, hA, hB⟩ := open_rat_cells hs ho0 ho1 hsb hone hCb hc1 hb hsl hsl1 he hc t2
    exact ⟨p, X, len, cap, rs, g, A, m, x, zs, B, l, y, ys, rfl, wp, hr, hA, hB⟩
end
theorem keep3 {w : World} {g k i0 i1 i2 : Nat} {u0 u1 u2 : Value} (h : k ≠ g) : (((w.setCell ⟨g, i0, none⟩ u0).setCell ⟨g, i1, none⟩ u1).setCell ⟨g, i2, none⟩ u2).heap[k]? = w.heap[k]? :=
  (Below.heap_setCell _ _ _ k h).trans ((Below.heap_setCell _ _ _ k h).trans (Below.heap_setCell _ _ _ k h))
theorem keep8 {w : World} {g g' k i0 i1 i2 j0 j1 j2 j3 j4 : Nat} {u0 u1 u2 v0 v1 v2 v3 v4 : Value} (h' : k ≠ g') (h : k ≠ g) :
    ((((((((w.setCell ⟨g, i0, none⟩ u0).setCell ⟨g, i1, none⟩ u1).setCell ⟨g, i2, none⟩ u2).setCell ⟨g', j0, none⟩ v0).setCell ⟨g', j1, none⟩ v1).setCell ⟨g', j2, none⟩ v2).setCell ⟨g', j3, none⟩ v3).setCell ⟨g', j4, none⟩ v4).heap[k]? = w.heap[k]? :=
  (Below.heap_setCell _ _ _ k h').trans ((Below.heap_setCell _ _ _ k h').trans ((keep3 h').trans (keep3 h)))
set_option maxHeartbeats 1600000 in
theorem szResult_any (p : Int) (X : Option Addr) (n c : Nat) (rs : List RD) (g : Bool) (A : Option Addr) (m d : Nat) (B : Option Addr) (l f : Nat) (left : Int) (w : World) (h : IsV w X n rs) (hm : m ≤ maxLen) (hl : l ≤ maxLen) (h0 : 0 ≤ left) (h1 : left ≤ 1048576) :
    Calls Tryz.prog 59 #[.agg #[.int .i64 p, .slice X n c, .bool g, .slice A m d, .slice B l f], .int .i64 left] w fun e w' => SzEnd left (n + tot rs + m + l) w w' e := by
  have hb0 : Hid (Box (w.alloc (.cells #[.int .i64 p, .slice X n c, .bool g, .slice A m d, .slice B l f] 84)) w.heap.size 84 #[.int .i64 p, .slice X n c, .bool g, .slice A m d, .slice B l f]) := Box.new _ _ _
  obtain ⟨W0, hW0⟩ : ∃ W, W = w.alloc (.cells #[.int .i64 p, .slice X n c, .bool g, .slice A m d, .slice B l f] 84) := ⟨_, rfl⟩
  have BW0 : Hid (Below w.heap.size w W0) := by rw [hW0]; exact (Below.refl _ _).alloc (Nat.le_refl _) _
  rw [← hW0] at hb0
  have HV := Lib.hid (h.below BW0.out)
  clear h
  go_enter Tryz.func59, Tryz.ntmps59
  go_wp2_with fail
  rw [← hW0]
  clear hW0
  refine (szRatS_any X n c rs left _ HV.out h0 h1).mono ?_
  rintro e w1 ⟨r, rfl, hr, hb⟩
  have hb1 := Lib.hid (hb0.out.below hb hb0.out.lt)
  have BW1 := Lib.hid (BW0.out.trans (hb.mono BW0.out.size))
  clear hb
  rcases hr with rfl | ⟨hr0, hr1⟩
  · go_wp2_with fail
    go_ret
    exact ⟨-1, rfl, .inl rfl, BW1.out⟩
  have hr2 : r ≤ 1048576 := by omega
  have HR := Lib.hid hr1
  clear hr1
  have e2 := hb1.out.cell 2
  have e3 := hb1.out.cell 3
  have e4 := hb1.out.cell 4
  simp at e2 e3 e4
  go_wp2_with fail
  clear e2 e3 e4
  refine (szRat_any g A m d B l f r _ hm hl hr0 hr2).mono ?_
  rintro e w2 ⟨s, rfl, hs, hb⟩
  have BW2 := Lib.hid (BW1.out.trans (hb.mono BW1.out.size))
  clear hb
  rcases hs with rfl | ⟨hs0, hs1⟩
  · go_wp2_with fail
    go_ret
    exact ⟨-1, rfl, .inl rfl, BW2.out⟩
  have HS := Lib.hid hs1
  clear hs1
  go_wp2_with fail
  go_ret
  exact ⟨s, rfl, .inr ⟨hs0, by have := HR.out; have := HS.out; omega⟩, BW2.out⟩
def ToSEnd (p : Int) (n : Nat) (rs : List RD) (g : Bool) (m : Nat) (xs : List Int) (l : Nat) (ys : List Int) (w w' : World) (e : Ending) : Prop :=
  ∃ X c L A d B f, e = .returned (.agg #[.int .i64 p, .slice X n c, .bool g, .slice A m d, .slice B l f]) ∧ OwnS w' w.heap.size X n c L (ratEl g A m d (xs.map (.int .i64)) B l f (ys.map (.int .i64))) ∧ Has L rs ∧ Below w.heap.size w w'
set_option maxHeartbeats 3200000 in
theorem toResult_any (p : Int) (X : Option Addr) (n c : Nat) (rs : List RD) (g : Bool) (A : Option Addr) (m d : Nat) (xs : List Int) (B : Option Addr) (l f : Nat) (ys : List Int) (w : World) (h : IsV w X n rs) (ht : n + tot rs ≤ 1048576) (hx : InI w A m xs) (hy : InI w B l ys) :
    Calls Tryz.prog 62 #[.agg #[.int .i64 p, .slice X n c, .bool g, .slice A m d, .slice B l f]] w fun e w' => ToSEnd p n rs g m xs l ys w w' e := by
  obtain ⟨W, hW⟩ : ∃ W, W = (((w.alloc (.cells #[.int .i64 p, .slice X n c, .bool g, .slice A m d, .slice B l f] 84)).alloc (.cells #[.int .i64 0, .slice none 0 0, .bool false, .slice none 0 0, .slice none 0 0] 64)).alloc (.cells #[.int .i64 p, .slice none 0 0, .bool false, .slice none 0 0, .slice none 0 0] 64)) := ⟨_, rfl⟩
  have hp0_0 : Hid (Box W w.heap.size 84 #[.int .i64 p, .slice X n c, .bool g, .slice A m d, .slice B l f]) := by rw [hW]; exact ((Box.new _ _ _).alloc _).alloc _
  have hp1_0 : Hid (Box W (w.heap.size + 1) 64 #[.int .i64 0, .slice none 0 0, .bool false, .slice none 0 0, .slice none 0 0]) := by rw [hW]; exact (Box.at' (by simp)).alloc _
  have hp2_0 : Hid (Box W (w.heap.size + 1 + 1) 64 #[.int .i64 p, .slice none 0 0, .bool false, .slice none 0 0, .slice none 0 0]) := by rw [hW]; exact Box.at' (by simp)
  have BW_0 : Hid (Below w.heap.size w W) := by rw [hW]; exact (((Below.refl _ _).alloc (Nat.le_refl _) _).alloc (by simp) _).alloc (by simp; omega) _
  have hWs : W.heap.size = w.heap.size + 1 + 1 + 1 := by rw [hW]; simp
  have HV := Lib.hid (h.below BW_0.out)
  have HX := Lib.hid hx
  have HY := Lib.hid hy
  clear h hx hy
  go_enter Tryz.func62, Tryz.ntmps62
  go_wp2_with fail
  rw [← hW]
  clear hW
  refine (toRatS_any X n c rs _ HV.out ht).mono ?_
  rintro e w1 ⟨V, L, rfl, ho, hh, hb⟩
  have hp0_1 := Lib.hid (hp0_0.out.below hb hp0_0.out.lt)
  have hp1_1 := Lib.hid (hp1_0.out.below hb hp1_0.out.lt)
  have hp2_1 := Lib.hid (hp2_0.out.below hb hp2_0.out.lt)
  have BW_1 := Lib.hid (BW_0.out.trans (hb.mono BW_0.out.size))
  obtain ⟨X1, c1, rfl⟩ := ho.slice
  have hz1 : W.heap.size ≤ w1.heap.size := hb.size
  have HO1 := Lib.hid ho
  have HH := Lib.hid hh
  clear ho hh hb
  have e2 := hp0_1.out.cell 2
  have e3 := hp0_1.out.cell 3
  have e4 := hp0_1.out.cell 4
  have fq := hp2_1.out.free 1
  have eq := hp2_1.out.cell 1
  simp at e2 e3 e4 eq
  go_wp2_with fail
  clear fq eq e2 e3 e4
  obtain ⟨W2, hW2⟩ : ∃ W2, W2 = w1.setCell ⟨w.heap.size + 1 + 1, 1, none⟩ (.slice X1 n c1) := ⟨_, rfl⟩
  have HO2 : Hid (OwnV W2 W.heap.size (.slice X1 n c1) n L) := by rw [hW2]; exact HO1.out.dep fun k hk => Below.heap_setCell _ _ _ k (by have := (HO1.out.lt k hk).1; dsimp only; omega)
  have hp2_2 : Hid (Box W2 (w.heap.size + 1 + 1) 64 #[.int .i64 p, .slice X1 n c1, .bool false, .slice none 0 0, .slice none 0 0]) := by rw [hW2]; refine Lib.hid ?_; simpa using hp2_1.out.set_ 1 (.slice X1 n c1)
  have hp1_2 : Hid (Box W2 (w.heap.size + 1) 64 #[.int .i64 0, .slice none 0 0, .bool false, .slice none 0 0, .slice none 0 0]) := by rw [hW2]; exact hp1_1.out.far (by dsimp only; omega) _
  have BW_2 : Hid (Below w.heap.size w W2) := by rw [hW2]; exact BW_1.out.setCell (by dsimp only; omega) _
  have hz2 : W2.heap.size = w1.heap.size := by rw [hW2]; simp
  rw [← hW2]
  clear hW2 HO1
  refine (toRat_el g A m d xs B l f ys _ HX.out.len HX.out.le (HX.out.rd.below BW_2.out) HY.out.len HY.out.le (HY.out.rd.below BW_2.out)).mono ?_
  rintro e w3 ⟨A1, d1, B1, f1, rfl, ho, hb⟩
  have hp1_3 := Lib.hid (hp1_2.out.below hb hp1_2.out.lt)
  have hp2_3 := Lib.hid (hp2_2.out.below hb hp2_2.out.lt)
  have BW_3 := Lib.hid (BW_2.out.trans (hb.mono BW_2.out.size))
  have HO3 := Lib.hid (HO2.out.below hb)
  have HE3 := Lib.hid (ho.lower (show W.heap.size ≤ W2.heap.size by omega))
  have HF3 : Hid (∀ k, footV (.slice X1 n c1) L k → ¬ (ratEl g A1 m d1 (xs.map (.int .i64)) B1 l f1 (ys.map (.int .i64))).foot k) := fun k hk hj => by
    have a := (HO2.out.lt k hk).2
    have b := (ho.lt k hj).1
    omega
  clear ho hb HO2
  have fr0 := hp1_3.out.free 0
  have fr1 := hp1_3.out.free 1
  have fr2 := hp1_3.out.free 2
  have fr3 := hp1_3.out.free 3
  have fr4 := hp1_3.out.free 4
  have fq2 := hp2_3.out.free 2
  have fq3 := hp2_3.out.free 3
  have fq4 := hp2_3.out.free 4
  have ehp10 := hp1_3.out.cell 0
  have ehp11 := hp1_3.out.cell 1
  have ehp12 := hp1_3.out.cell 2
  have ehp13 := hp1_3.out.cell 3
  have ehp14 := hp1_3.out.cell 4
  have ehp20 := hp2_3.out.cell 0
  have ehp21 := hp2_3.out.cell 1
  have ehp22 := hp2_3.out.cell 2
  have ehp23 := hp2_3.out.cell 3
  have ehp24 := hp2_3.out.cell 4
  simp at ehp10 ehp11 ehp12 ehp13 ehp14 ehp20 ehp21 ehp22 ehp23 ehp24
  go_wp2_with fail
  refine bodyPost_ret (v := .agg #[.int .i64 p, .slice X1 n c1, .bool g, .slice A1 m d1, .slice B1 l f1]) (by simp [results, Tryz.results62, ehp10, ehp11, ehp12, ehp13, ehp14, go_sem]) rfl ?_
  refine ⟨_, _, L, _, _, _, _, rfl, ⟨?_, ?_, HF3.out⟩, HH.out, ?_⟩
  · refine (HO3.out.dep fun k hk => ?_).lower (by omega)
    have := (HO3.out.lt k hk).1
    exact keep8 (by omega) (by omega)
  · refine (HE3.out.dep fun k hk => ?_).lower (by omega)
    have := (HE3.out.lt k hk).1
    exact keep8 (by omega) (by omega)
  · exact (((((((BW_3.out.setCell (by dsimp only; omega) _).setCell (by dsimp only; omega) _).setCell (by dsimp only; omega) _).setCell (by dsimp only; omega) _).setCell (by dsimp only; omega) _).setCell (by dsimp only; omega) _).setCell (by dsimp only; omega) _).setCell (by dsimp only; omega) _
set_option maxHeartbeats 3200000 in
theorem eqResult_same (p : Int) (X1 X2 : Option Addr) (n c1 c2 : Nat) (rs : List RD) (g : Bool) (A1 A2 : Option Addr) (m d1 d2 : Nat) (xs : List Int) (B1 B2 : Option Addr) (l f1 f2 : Nat) (ys : List Int) (w : World) (h1 : InV w X1 n rs) (h2 : InV w X2 n rs) (i1 : InI w A1 m xs) (i2 : InI w A2 m xs) (j1 : InI w B1 l ys) (j2 : InI w B2 l ys) :
    Calls Tryz.prog 46 #[.agg #[.int .i64 p, .slice X1 n c1, .bool g, .slice A1 m d1, .slice B1 l f1], .agg #[.int .i64 p, .slice X2 n c2, .bool g, .slice A2 m d2, .slice B2 l f2]] w fun e w' => e = .returned (.bool true) ∧ Below w.heap.size w w' := by
  obtain ⟨W, hW⟩ : ∃ W, W = (w.alloc (.cells #[.int .i64 p, .slice X1 n c1, .bool g, .slice A1 m d1, .slice B1 l f1] 64)).alloc (.cells #[.int .i64 p, .slice X2 n c2, .bool g, .slice A2 m d2, .slice B2 l f2] 64) := ⟨_, rfl⟩
  have hp0_0 : Hid (Box W w.heap.size 64 #[.int .i64 p, .slice X1 n c1, .bool g, .slice A1 m d1, .slice B1 l f1]) := by rw [hW]; exact (Box.new _ _ _).alloc _
  have hp1_0 : Hid (Box W (w.heap.size + 1) 64 #[.int .i64 p, .slice X2 n c2, .bool g, .slice A2 m d2, .slice B2 l f2]) := by rw [hW]; exact Box.at' (by simp)
  have BW_0 : Hid (Below w.heap.size w W) := by rw [hW]; exact ((Below.refl _ _).alloc (Nat.le_refl _) _).alloc (by simp) _
  have H1 := Lib.hid (h1.below BW_0.out)
  have H2 := Lib.hid (h2.below BW_0.out)
  have I1 := Lib.hid (i1.below BW_0.out)
  have I2 := Lib.hid (i2.below BW_0.out)
  have J1 := Lib.hid (j1.below BW_0.out)
  have J2 := Lib.hid (j2.below BW_0.out)
  have hm := i1.le
  have hl := j1.le
  clear h1 h2 i1 i2 j1 j2
  have hpp : (p != p) = false := by simp
  go_enter Tryz.func46, Tryz.ntmps46
  go_wp2_with fail
  rw [← hW]
  clear hW
  refine (eqRatS_same X1 X2 n c1 c2 rs _ H1.out H2.out).mono ?_
  rintro e w1 ⟨rfl, hb⟩
  have hp0_1 := Lib.hid (hp0_0.out.below hb hp0_0.out.lt)
  have hp1_1 := Lib.hid (hp1_0.out.below hb hp1_0.out.lt)
  have BW_1 := Lib.hid (BW_0.out.trans (hb.mono BW_0.out.size))
  replace I1 := Lib.hid (I1.out.below hb)
  replace I2 := Lib.hid (I2.out.below hb)
  replace J1 := Lib.hid (J1.out.below hb)
  replace J2 := Lib.hid (J2.out.below hb)
  clear hb
  have ehp00 := hp0_1.out.cell 0
  have ehp01 := hp0_1.out.cell 1
  have ehp02 := hp0_1.out.cell 2
  have ehp03 := hp0_1.out.cell 3
  have ehp04 := hp0_1.out.cell 4
  have ehp10 := hp1_1.out.cell 0
  have ehp11 := hp1_1.out.cell 1
  have ehp12 := hp1_1.out.cell 2
  have ehp13 := hp1_1.out.cell 3
  have ehp14 := hp1_1.out.cell 4
  simp at ehp00 ehp01 ehp02 ehp03 ehp04 ehp10 ehp11 ehp12 ehp13 ehp14
  go_wp2_with fail
  clear ehp00 ehp01 ehp02 ehp03 ehp04 ehp10 ehp11 ehp12 ehp13 ehp14
  refine (eqRat_same g A1 A2 m d1 d2 xs B1 B2 l f1 f2 ys _ I1.out.len (by unfold maxLen; omega) I1.out.rd I2.out.rd J1.out.len (by unfold maxLen; omega) J1.out.rd J2.out.rd).mono ?_
  rintro e w2 ⟨rfl, hb⟩
  have BW_2 := Lib.hid (BW_1.out.trans (hb.mono BW_1.out.size))
  clear hb
  go_wp2_with fail
  go_ret
  exact ⟨rfl, BW_2.out⟩
end Go.Proofs.YtegclofijaoajaaGreat
