/- Lists of fractions as data: the operations as functions of them. No program is named here. -/
import Derived.Test.YtegclofijaoajaaGreatGB
import Derived.Test.YtegclofijaoajaaGreatGD
import Derived.Maps.AppendAt
import Derived.Deep.DeepCutAuto
import Derived.Deep.Slices
namespace Go.Proofs.YtegclofijaoajaaGreat
set_option maxRecDepth 100000
open Go.RowKit

def RD.ok (r : RD) : Prop := ROk r.g r.xs r.ds
def RD.zero : RD := ⟨false, [], []⟩
theorem RD.zero_bad : ¬ RD.zero.ok := fun h => by have := h.2.2.1; simp [RD.zero, val] at this
/-- At most 24 valid fractions. -/
def VOk (rs : List RD) : Prop := rs.length ≤ 24 ∧ ∀ r ∈ rs, r.ok
theorem RD.ok.fits {r : RD} (h : r.ok) : r.fits := ⟨⟨by have := h.2.2.2.2.1; omega, by have := h.2.2.2.2.2; omega⟩, limbs_bd h.1.1.1.1, limbs_bd h.2.1.1.1⟩
theorem RD.zero_fits : RD.zero.fits := ⟨⟨by simp [RD.zero], by simp [RD.zero]⟩, by simp [RD.zero], by simp [RD.zero]⟩
theorem VOk.fits {rs : List RD} (h : VOk rs) : ∀ r ∈ rs, r.fits := fun r hr => (h.2 r hr).fits
/-- The fraction of which Q holds, if there is one. -/
noncomputable def pickR (Q : Bool → List Int → List Int → Prop) : RD := open Classical in if h : ∃ r : RD, Q r.g r.xs r.ds then h.choose else RD.zero
theorem pickR_of {Q : Bool → List Int → List Int → Prop} (u : ∀ {g g' l l' d d'}, Q g l d → Q g' l' d' → g = g' ∧ l = l' ∧ d = d') {g : Bool} {l d : List Int} (h : Q g l d) : RD.mk g l d = pickR Q := by
  have hx : ∃ r : RD, Q r.g r.xs r.ds := ⟨⟨g, l, d⟩, h⟩
  unfold pickR
  rw [dif_pos hx]
  obtain ⟨rfl, rfl, rfl⟩ := u h hx.choose_spec
  rfl
noncomputable def radd (r s : RD) : RD := pickR (RatAddIs r.g r.xs r.ds s.g s.xs s.ds)
noncomputable def rsub (r s : RD) : RD := pickR (RatSubIs r.g r.xs r.ds s.g s.xs s.ds)
noncomputable def rmul (r s : RD) : RD := pickR (RatMulIs r.g r.xs r.ds s.g s.xs s.ds)
noncomputable def rint (n : Int) : RD := pickR (RatFromIntIs n)
theorem radd_of {r s : RD} {g : Bool} {l d : List Int} (h : RatAddIs r.g r.xs r.ds s.g s.xs s.ds g l d) : RD.mk g l d = radd r s := pickR_of ratAdd_unique h
theorem rmul_of {r s : RD} {g : Bool} {l d : List Int} (h : RatMulIs r.g r.xs r.ds s.g s.xs s.ds g l d) : RD.mk g l d = rmul r s := pickR_of ratMul_unique h
theorem rint_of {n : Int} {g : Bool} {l d : List Int} (h : RatFromIntIs n g l d) : RD.mk g l d = rint n := pickR_of ratFromInt_unique h
/-- What an operation gives is a valid fraction or the zero value. -/
theorem rIs_ok {P : Prop} {N D : Int} {g : Bool} {l d : List Int} (h : RIs P N D g l d) : (RD.mk g l d).ok ∨ RD.mk g l d = RD.zero := by
  rcases h with ⟨_, ⟨_, h1, h2, h3, h4, _⟩, h5⟩ | ⟨_, rfl, rfl, rfl⟩
  · exact .inl ⟨h1, h2, h3, h4, h5⟩
  · exact .inr rfl
theorem good_fits {r : RD} (h : r.ok ∨ r = RD.zero) : r.fits := h.elim RD.ok.fits fun h => h ▸ RD.zero_fits
def IsVectorIs (rs : List RD) (b : Bool) : Prop := b = true ↔ VOk rs
def VOkEnd (rs : List RD) (w w' : World) (e : Ending) : Prop := ∃ b, e = .returned (.bool b) ∧ IsVectorIs rs b ∧ Below w.heap.size w w'
/-- The first i are valid. -/
def OkTo (rs : List RD) (i : Nat) : Prop := ∀ r ∈ rs.take i, r.ok
theorem OkTo.zero (rs : List RD) : OkTo rs 0 := by simp [OkTo]
theorem OkTo.succ {rs : List RD} {i : Nat} {r : RD} (h : OkTo rs i) (hr : rs[i]? = some r) (hk : r.ok) : OkTo rs (i + 1) := by
  obtain ⟨hlt, rfl⟩ := List.getElem?_eq_some_iff.1 hr
  intro x hx
  rw [List.take_succ_eq_append_getElem hlt] at hx
  rcases List.mem_append.1 hx with hx | hx
  · exact h x hx
  · obtain rfl := List.mem_singleton.1 hx; exact hk
theorem OkTo.all {rs : List RD} {n : Nat} (h : OkTo rs n) (hn : rs.length = n) (h24 : n ≤ 24) : VOk rs := ⟨by omega, fun r hr => h r (by rw [List.take_of_length_le (by omega)]; exact hr)⟩
end Go.Proofs.YtegclofijaoajaaGreat
namespace Go.Proofs.YtegclofijaoajaaGreat
set_option maxRecDepth 100000
open Go.RowKit

end Go.Proofs.YtegclofijaoajaaGreat
namespace Go.Proofs.YtegclofijaoajaaGreat
set_option maxRecDepth 100000
open Go.RowKit

def ZeroVectorIs (n : Int) (r : List RD) : Prop := r = if 0 ≤ n ∧ n ≤ 24 then List.replicate n.toNat (rint 0) else []
def UnitVectorIs (n k : Int) (r : List RD) : Prop := r = if (0 ≤ n ∧ n ≤ 24) ∧ 0 ≤ k ∧ k < n then (List.replicate n.toNat (rint 0)).set k.toNat (rint 1) else []
/-- v and true, where P holds and all elements are valid. -/
def DoneIs (P : Prop) (v r : List RD) (b : Bool) : Prop := ((P ∧ ∀ x ∈ v, x.ok) ∧ r = v ∧ b = true) ∨ (¬ (P ∧ ∀ x ∈ v, x.ok) ∧ r = [] ∧ b = false)
def PairOk (a b : List RD) : Prop := VOk a ∧ VOk b ∧ a.length = b.length
def AddVectorsIs (a b r : List RD) (q : Bool) : Prop := DoneIs (PairOk a b) (List.zipWith radd a b) r q
def SubtractVectorsIs (a b r : List RD) (q : Bool) : Prop := DoneIs (PairOk a b) (List.zipWith rsub a b) r q
def ScaleVectorIs (g : Bool) (xs ds : List Int) (v r : List RD) (q : Bool) : Prop := DoneIs (ROk g xs ds ∧ VOk v) (v.map (rmul ⟨g, xs, ds⟩)) r q
def VecEnd (Q : List RD → Prop) (w w' : World) (e : Ending) : Prop := ∃ r V, e = .returned V ∧ Q r ∧ ResV w w' V r ∧ Below w.heap.size w w'
def VecOkEnd (Q : List RD → Bool → Prop) (w w' : World) (e : Ending) : Prop := ∃ r V b, e = .returned (.tuple #[V, .bool b]) ∧ Q r b ∧ ResV w w' V r ∧ Below w.heap.size w w'
theorem tot_le : ∀ {rs : List RD} {k : Nat}, (∀ r ∈ rs, r.tot ≤ k) → tot rs ≤ rs.length * k
  | [], _, _ => by simp [tot]
  | r :: rs, k, h => by
    have h1 := h r (by simp)
    have h2 := tot_le (rs := rs) (k := k) fun x hx => h x (by simp [hx])
    simp only [tot, List.length_cons, Nat.add_mul]; omega
theorem RD.ok.tot {r : RD} (h : r.ok) : r.tot ≤ 48 := by unfold RD.tot; have h1 := h.2.2.2.2.1; have h2 := h.2.2.2.2.2; omega
theorem good_tot {r : RD} (h : r.ok ∨ r = RD.zero) : r.tot ≤ 48 := h.elim RD.ok.tot fun h => by rw [h]; simp [RD.tot, RD.zero]
/-- Not too many elements, each valid or the zero value. -/
def Goods (rs : List RD) : Prop := rs.length ≤ 1024 ∧ ∀ r ∈ rs, r.ok ∨ r = RD.zero
theorem Goods.fits {rs : List RD} (h : Goods rs) : ∀ r ∈ rs, r.fits := fun r hr => good_fits (h.2 r hr)
theorem Goods.room {rs : List RD} (h : Goods rs) : rs.length + tot rs ≤ 1048576 := by
  have h1 := tot_le fun r hr => good_tot (h.2 r hr)
  have h2 := h.1
  omega
theorem zip_at {f : RD → RD → RD} {a b : List RD} {i : Nat} {r s : RD} (h : a[i]? = some r) (k : b[i]? = some s) : (List.zipWith f a b)[i]? = some (f r s) := by
  rw [List.getElem?_zipWith, h, k]
theorem pickR_good {P : Prop} {N D : Int} : (pickR (RIs P N D)).ok ∨ pickR (RIs P N D) = RD.zero := by
  classical
  unfold pickR
  by_cases h : ∃ r : RD, RIs P N D r.g r.xs r.ds
  · rw [dif_pos h]; exact rIs_ok h.choose_spec
  · rw [dif_neg h]; exact .inr rfl
theorem radd_good (r s : RD) : (radd r s).ok ∨ radd r s = RD.zero := pickR_good
theorem rmul_good (r s : RD) : (rmul r s).ok ∨ rmul r s = RD.zero := pickR_good
theorem rint_good (n : Int) : (rint n).ok ∨ rint n = RD.zero := pickR_good
/-- An element of a list that came in, in a later world. -/
theorem InV.atB {w wr : World} {A : Option Addr} {n : Nat} {rs : List RD} (h : InV w A n rs) (hb : Below w.heap.size w wr) (j : Nat) (hj : j < n) :
    ∃ b o, A = some ⟨b, o, none⟩ ∧ b < w.heap.size ∧ ∃ r, rs[j]? = some r ∧ ∃ A1 n1 c1 B1 m1 d1, At3 wr b (o + j * 3) (.bool r.g) (.slice A1 n1 c1) (.slice B1 m1 d1) ∧ InI wr A1 n1 r.xs ∧ Room A1 n1 c1 ∧ InI wr B1 m1 r.ds ∧ Room B1 m1 d1 := by
  obtain ⟨b, o, hA, hlt, r, hr, A1, n1, c1, B1, m1, d1, h1, h2, h3, h4, h5⟩ := h.at_ j hj
  exact ⟨b, o, hA, hlt, r, hr, A1, n1, c1, B1, m1, d1, h1.below hlt hb, h2.below hb, h3, h4.below hb, h5⟩
theorem OwnV.drew {w : World} {base n : Nat} {V : Value} {L : List El} (h : OwnV w base V n L) : OwnV w.drew base V n L := h
theorem pickR_ok {P : Prop} {N D : Int} (h : (pickR (RIs P N D)).ok) : P := by
  classical
  unfold pickR at h
  by_cases hx : ∃ r : RD, RIs P N D r.g r.xs r.ds
  · rw [dif_pos hx] at h
    rcases hx.choose_spec with h1 | ⟨_, h1, h2, h3⟩
    · exact h1.1
    · have h4 := h.2.2.1
      rw [h3] at h4
      simp [val] at h4
  · rw [dif_neg hx] at h; exact absurd h RD.zero_bad
theorem radd_ok {r s : RD} (h : (radd r s).ok) : r.ok ∧ s.ok := pickR_ok h
end Go.Proofs.YtegclofijaoajaaGreat
namespace Go.Proofs.YtegclofijaoajaaGreat
set_option maxRecDepth 100000
open Go.RowKit Go.Deep

section
variable {P : Program} {w2 : World} {ops : Array Oper} {o : Oper} {a : Act}
end
theorem At3.alloc {w : World} {b o : Nat} {x y z : Value} (h : At3 w b o x y z) (hlt : b < w.heap.size) (ob : Obj) : At3 (w.alloc ob) b o x y z := h.below hlt ((Below.refl _ _).alloc (Nat.le_refl _) ob)
theorem At3.grown {w w' : World} {b o : Nat} {x y z : Value} {row : Option Nat} (h : At3 w b o x y z) (hlt : b < w.heap.size) (hg : w.grownBy w' row) (hn : some b ≠ row) : At3 w' b o x y z := by
  have key : ∀ k, w'.cell? ⟨b, k, none⟩ = w.cell? ⟨b, k, none⟩ := fun k => World.cell?_of_block (a := ⟨b, k, none⟩) (hg.block b hlt hn)
  exact ⟨(key _).trans h.1, (key _).trans h.2.1, (key _).trans h.2.2⟩
end Go.Proofs.YtegclofijaoajaaGreat
namespace Go.Proofs.YtegclofijaoajaaGreat
set_option maxRecDepth 100000
open Go.RowKit

theorem vnow {w : World} {F : Nat → Prop} {base n : Nat} {V : Value} {L : List El} (h : Hid (Holds w F fun w => OwnV w base V n L)) : OwnV w base V n L := h.out.now
theorem El.own.holds {w : World} {base : Nat} {e : El} (h : e.own w base) : Holds w e.foot fun w => e.own w base := ⟨fun k hk => (h.lt k hk).2, h, fun _ hb => h.dep hb⟩
theorem mtot_has : ∀ {L : List El} {rs : List RD}, Has L rs → mtot L = rs.length + tot rs
  | [], [], _ => rfl
  | e :: L, r :: rs, h => by
    have := mtot_has h.2
    have h1 := h.1.2.1
    have h2 := h.1.2.2.2.1
    simp only [mtot, tot, RD.tot, List.length_cons, this, h1, h2]; omega
theorem IsV.fits {w : World} {A : Option Addr} {n : Nat} {rs : List RD} (h : IsV w A n rs) (hm : n + tot rs ≤ 1048576) : ∀ r ∈ rs, r.fits := fun r hr => by
  obtain ⟨j, hj, rfl⟩ := List.mem_iff_getElem.1 hr
  have ht := tot_at (List.getElem?_eq_getElem hj)
  rcases h.2.2 with h0 | ⟨b, o, hA, hlt, hat⟩
  · have := h.1; omega
  · obtain ⟨A1, n1, c1, B1, m1, d1, _, _, _, i1, i2⟩ := hat j hj
    unfold RD.tot at ht
    exact ⟨⟨by omega, by omega⟩, i1.2.2.2, i2.2.2.2⟩
theorem IsV.le {w : World} {A : Option Addr} {n : Nat} {rs : List RD} (h : IsV w A n rs) : n ≤ maxLen := h.2.1
/-- A list of the call's own as what is handed to a function. -/
theorem vin {w : World} {F : Nat → Prop} {base n c : Nat} {A : Option Addr} {L : List El} {rs : List RD} (h : Hid (Holds w F fun w => OwnV w base (.slice A n c) n L)) (hh : Hid (Has L rs)) (hn : n ≤ 1048576) (hf : Hid (∀ r ∈ rs, r.fits)) : InV w A n rs := (vnow h).in_ hh.out hn hf.out
theorem szRat_any (g : Bool) (A : Option Addr) (n c : Nat) (B : Option Addr) (m d : Nat) (left : Int) (w : World) (hn : n ≤ maxLen) (hm : m ≤ maxLen) (h0 : 0 ≤ left) (hl : left ≤ 1048576) :
    Calls Tryz.prog 127 #[.agg #[.bool g, .slice A n c, .slice B m d], .int .i64 left] w fun e w' => SzEnd left (n + m) w w' e := by
  by_cases h : left - n - m < 0
  · exact (szRat_neg g A n c B m d left w h0 hl hn hm h).mono fun e w' ⟨he, hb⟩ => ⟨-1, he, .inl rfl, hb⟩
  · exact (szRat_pos g A n c B m d left w h0 hl h).mono fun e w' ⟨he, hb⟩ => ⟨left - n - m, he, .inr ⟨by omega, by omega⟩, hb⟩
/-- A fraction of the call's own, written out. -/
def ratEl (g : Bool) (A : Option Addr) (n c : Nat) (xs : List Value) (B : Option Addr) (m d : Nat) (ys : List Value) : El := ⟨g, .slice A n c, n, xs, .slice B m d, m, ys⟩
def ToREnd (g : Bool) (n : Nat) (xs : List Int) (m : Nat) (ds : List Int) (w w' : World) (e : Ending) : Prop :=
  ∃ A c B d, e = .returned (.agg #[.bool g, .slice A n c, .slice B m d]) ∧ (ratEl g A n c (xs.map (.int .i64)) B m d (ds.map (.int .i64))).own w' w.heap.size ∧ Below w.heap.size w w'
theorem toRat_el (g : Bool) (A : Option Addr) (n c : Nat) (xs : List Int) (B : Option Addr) (m d : Nat) (ds : List Int) (w : World)
    (hn : xs.length = n) (hl : n ≤ 1048576) (hr : Reads w A (xs.map (.int .i64))) (hm : ds.length = m) (hk : m ≤ 1048576) (hs : Reads w B (ds.map (.int .i64))) :
    Calls Tryz.prog 134 #[.agg #[.bool g, .slice A n c, .slice B m d]] w fun e w' => ToREnd g n xs m ds w w' e := by
  refine (toRat_any g A n c xs B m d ds w hn hl hr hm hk hs).mono fun e w' h => ?_
  obtain ⟨v, u, he, h1, h2, h3, hb⟩ := h
  obtain ⟨A1, c1, rfl⟩ := own_slice h1
  obtain ⟨B1, d1, rfl⟩ := own_slice h2
  exact ⟨A1, c1, B1, d1, he, ⟨h1, h2, h3⟩, hb⟩
def MarkEEnd (base : Nat) (g : Bool) (A : Option Addr) (n c : Nat) (xs : List Value) (B : Option Addr) (m d : Nat) (ys : List Value) (K : Nat) (w w' : World) (e : Ending) : Prop :=
  e = .returned (.int .i64 ((K + n + m : Nat) : Int)) ∧ (ratEl g A n c (marks markI K n) B m d (marks markI (K + n) m)).own w' base ∧ Wrote (ratEl g A n c xs B m d ys).foot w w'
/-! Marks of a list, the number of its words under a name. -/
def MarkMEnd (base : Nat) (V : Value) (n K m : Nat) (L : List El) (w w' : World) (e : Ending) : Prop :=
  e = .returned (.int .i64 ((K + m : Nat) : Int)) ∧ OwnV w' base V n (markL K L) ∧ Wrote (footV V L) w w'
end Go.Proofs.YtegclofijaoajaaGreat
namespace Go.Proofs.YtegclofijaoajaaGreat
set_option maxRecDepth 100000
open Go.RowKit Go.ChangeShapes Go.WideShapes Go.Deep Go.Joins

instance : Inhabited RD := ⟨RD.mk false [] []⟩
section
variable {P : Program} {H : Type} {enc : TypeId × Value → H} {w : World} {sp : Nat → Bool} {hd : Bool}
/-- The cells of one element, opened. -/
theorem open_rat3 {t e : TypeId} {f0 f1 k0 k1 : Field} {cs : List Value} {x : DataW H × List MemPlace} {fuel : Nat} (hs : P.underlying t = some (.struct #[f0, f1])) (ho0 : f0.offset = 0) (ho1 : f1.offset = 2) (hC : P.cellsOf t = 3)
    (hsb : P.underlying f0.type = some (.struct #[k0, k1])) (hone : oneCellFields P #[k0, k1] = true) (hCb : P.cellsOf f0.type = 2) (hc1 : P.cellsOf f1.type = 1)
    (hb : P.underlying k0.type = some .bool) (hsl : P.underlying k1.type = some (.slice e)) (hsl1 : P.underlying f1.type = some (.slice e)) (he : P.underlying e = some (.int .i64)) (hc : P.cellsOf e = 1)
    (hf : DataW.trod enc P w 0 sp hd fuel t cs = some x) :
    ∃ g A len cap xs B lenb capb ys, cs = [.bool g, .slice A len cap, .slice B lenb capb] ∧ IsInts w A len xs ∧ IsInts w B lenb ys := by
  obtain ⟨y0, y1, n, _, hl, h0, h1⟩ := trod_struct2 hs hf
  rw [hC] at hl
  match cs, hl with
  | [c0, c1, c2], _ =>
    rw [ho0, hCb] at h0
    rw [ho1, hc1] at h1
    have h0' : DataW.trod enc P w 0 sp hd n f0.type [c0, c1] = some y0 := by simpa using h0
    have h1' : DataW.trod enc P w 0 sp hd n f1.type [c2] = some y1 := by simpa using h1
    obtain ⟨z0, z1, m, _, _, g0, g1⟩ := trod_struct2 hsb h0'
    obtain ⟨o0, q0⟩ := hone_of hone 0 k0 rfl
    obtain ⟨o1, q1⟩ := hone_of hone 1 k1 rfl
    have g0' : DataW.trod enc P w 0 sp hd m k0.type [c0] = some z0 := by simpa [o0, q0] using g0
    have g1' : DataW.trod enc P w 0 sp hd m k1.type [c1] = some z1 := by simpa [o1, q1] using g1
    obtain ⟨b, hb', _⟩ := DataW.trod_bool hb g0'
    obtain rfl : c0 = .bool b := by simpa using hb'
    obtain ⟨A, len, cap, xs, rfl, hA⟩ := ints_cell hsl he hc g1'
    obtain ⟨B, lenb, capb, ys, rfl, hB⟩ := ints_cell hsl1 he hc h1'
    exact ⟨b, A, len, cap, xs, B, lenb, capb, ys, rfl, hA, hB⟩
theorem isV_of {T t e : TypeId} {f0 f1 k0 k1 : Field} {A : Option Addr} {len cap : Nat} {d : DataW H} {ps : List MemPlace} (hT : P.underlying T = some (.slice t)) (hs : P.underlying t = some (.struct #[f0, f1])) (ho0 : f0.offset = 0) (ho1 : f1.offset = 2) (hC : P.cellsOf t = 3)
    (hsb : P.underlying f0.type = some (.struct #[k0, k1])) (hone : oneCellFields P #[k0, k1] = true) (hCb : P.cellsOf f0.type = 2) (hc1 : P.cellsOf f1.type = 1)
    (hb : P.underlying k0.type = some .bool) (hsl : P.underlying k1.type = some (.slice e)) (hsl1 : P.underlying f1.type = some (.slice e)) (he : P.underlying e = some (.int .i64)) (hc : P.cellsOf e = 1)
    (h : DataW.Trod enc P w 0 sp hd T (Value.slice A len cap) d ps) : ∃ rs, IsV w A len rs := by
  obtain ⟨fuel, hf⟩ := h
  rcases open_slice hT hf with ⟨hcs, _⟩ | ⟨a, l, c, m, n, D, Pl, hcs, _, hl, hm, hmm, _, hi⟩
  · simp [Value.cells] at hcs
    obtain ⟨rfl, rfl, rfl⟩ := hcs
    exact ⟨[], rfl, Nat.zero_le _, .inl rfl⟩
  · simp [Value.cells] at hcs
    obtain ⟨rfl, rfl, rfl⟩ := hcs
    by_cases h0 : len = 0
    · subst h0; exact ⟨[], rfl, Nat.zero_le _, .inl rfl⟩
    have hle : len ≤ m := by rw [hmm]; split <;> omega
    obtain ⟨b, o, spot⟩ := a
    have hspot : spot = none := by
      obtain ⟨cs', hc', ht'⟩ := hi 0 (by omega)
      rw [hC] at hc'
      obtain ⟨_, hcl, hat⟩ := World.cells?_some hc'
      have h1 := hat 0 (by omega)
      rw [List.getElem?_eq_getElem (by omega)] at h1
      simpa [Addr.add] using World.cell?_spot h1
    subst hspot
    have hall : ∀ i, i < len → ∃ r : RD, RatIs w b (o + i * 3) r := fun i hil => by
      obtain ⟨cs', hc', ht'⟩ := hi i (by omega)
      rw [hC] at hc'
      obtain ⟨_, hcl, hat⟩ := World.cells?_some hc'
      obtain ⟨g, A, len, cap, xs, B, lenb, capb, ys, rfl, hA, hB⟩ := open_rat3 hs ho0 ho1 hC hsb hone hCb hc1 hb hsl hsl1 he hc ht'
      have e0 := hat 0 (by omega)
      have e1 := hat 1 (by omega)
      have e2 := hat 2 (by omega)
      rw [Go.Deep.add_add, Addr.add_lit] at e0 e1 e2
      exact ⟨⟨g, xs, ys⟩, A, len, cap, B, lenb, capb, e0, by rw [Nat.add_assoc]; exact e1, by rw [Nat.add_assoc]; exact e2, hA, hB⟩
    obtain ⟨r, hr⟩ := choose_lt hall
    refine ⟨(List.range len).map r, by simp, by omega, .inr ⟨b, o, rfl, ?_, fun j hj => ?_⟩⟩
    · obtain ⟨_, _, _, _, _, _, h1, _⟩ := hr 0 (by omega)
      exact World.block_lt_of_cell? _ _ h1
    · have : j < len := by simpa using hj
      simpa using hr j this
end
end Go.Proofs.YtegclofijaoajaaGreat
