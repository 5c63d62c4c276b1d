/- Lists of fractions as data: the operations as functions of them. No program is named here. -/
import Derived.Test.YtdehcddjkcpnfaaGreatGB
import Derived.Test.YtdehcddjkcpnfaaGreatGD
import Derived.Maps.AppendAt
import Derived.Deep.DeepCutAuto
import Derived.Deep.Slices
namespace Go.Proofs.YtdehcddjkcpnfaaGreat
set_option maxRecDepth 100000
open Go.RowKit

def RD.ok (r : RD) : Prop := ROk r.g r.xs r.ds
def RD.zero : RD := ⟨false, [], []⟩
theorem RD.zero_bad : ¬ RD.zero.ok := fun h => by have := h.2.2.1; simp [RD.zero, val] at this
/-- At most 24 valid fractions. -/
def VOk (rs : List RD) : Prop := rs.length ≤ 24 ∧ ∀ r ∈ rs, r.ok
theorem RD.ok.fits {r : RD} (h : r.ok) : r.fits := ⟨⟨by have := h.2.2.2.2.1; omega, by have := h.2.2.2.2.2; omega⟩, limbs_bd h.1.1.1.1, limbs_bd h.2.1.1.1⟩
theorem RD.zero_fits : RD.zero.fits := ⟨⟨by simp [RD.zero], by simp [RD.zero]⟩, by simp [RD.zero], by simp [RD.zero]⟩
theorem VOk.fits {rs : List RD} (h : VOk rs) : ∀ r ∈ rs, r.fits := fun r hr => (h.2 r hr).fits
/-- The fraction of which Q holds, if there is one. -/
noncomputable def pickR (Q : Bool → List Int → List Int → Prop) : RD := open Classical in if h : ∃ r : RD, Q r.g r.xs r.ds then h.choose else RD.zero
theorem pickR_of {Q : Bool → List Int → List Int → Prop} (u : ∀ {g g' l l' d d'}, Q g l d → Q g' l' d' → g = g' ∧ l = l' ∧ d = d') {g : Bool} {l d : List Int} (h : Q g l d) : RD.mk g l d = pickR Q := by
  have hx : ∃ r : RD, Q r.g r.xs r.ds := ⟨⟨g, l, d⟩, h⟩
  unfold pickR
  rw [dif_pos hx]
  obtain ⟨rfl, rfl, rfl⟩ := u h hx.choose_spec
  rfl
noncomputable def radd (r s : RD) : RD := pickR (RatAddIs r.g r.xs r.ds s.g s.xs s.ds)
noncomputable def rsub (r s : RD) : RD := pickR (RatSubIs r.g r.xs r.ds s.g s.xs s.ds)
noncomputable def rmul (r s : RD) : RD := pickR (RatMulIs r.g r.xs r.ds s.g s.xs s.ds)
noncomputable def rint (n : Int) : RD := pickR (RatFromIntIs n)
theorem rsub_of {r s : RD} {g : Bool} {l d : List Int} (h : RatSubIs r.g r.xs r.ds s.g s.xs s.ds g l d) : RD.mk g l d = rsub r s := pickR_of ratSub_unique h
theorem rmul_of {r s : RD} {g : Bool} {l d : List Int} (h : RatMulIs r.g r.xs r.ds s.g s.xs s.ds g l d) : RD.mk g l d = rmul r s := pickR_of ratMul_unique h
theorem rint_of {n : Int} {g : Bool} {l d : List Int} (h : RatFromIntIs n g l d) : RD.mk g l d = rint n := pickR_of ratFromInt_unique h
/-- What an operation gives is a valid fraction or the zero value. -/
theorem rIs_ok {P : Prop} {N D : Int} {g : Bool} {l d : List Int} (h : RIs P N D g l d) : (RD.mk g l d).ok ∨ RD.mk g l d = RD.zero := by
  rcases h with ⟨_, ⟨_, h1, h2, h3, h4, _⟩, h5⟩ | ⟨_, rfl, rfl, rfl⟩
  · exact .inl ⟨h1, h2, h3, h4, h5⟩
  · exact .inr rfl
theorem good_fits {r : RD} (h : r.ok ∨ r = RD.zero) : r.fits := h.elim RD.ok.fits fun h => h ▸ RD.zero_fits
def IsVectorIs (rs : List RD) (b : Bool) : Prop := b = true ↔ VOk rs
theorem isVec_no {rs : List RD} (h : ¬ VOk rs) : IsVectorIs rs false := by unfold IsVectorIs; simp [h]
theorem isVec_yes {rs : List RD} (h : VOk rs) : IsVectorIs rs true := by unfold IsVectorIs; simp [h]
def VOkEnd (rs : List RD) (w w' : World) (e : Ending) : Prop := ∃ b, e = .returned (.bool b) ∧ IsVectorIs rs b ∧ Below w.heap.size w w'
/-- The first i are valid. -/
def OkTo (rs : List RD) (i : Nat) : Prop := ∀ r ∈ rs.take i, r.ok
theorem OkTo.zero (rs : List RD) : OkTo rs 0 := by simp [OkTo]
theorem OkTo.succ {rs : List RD} {i : Nat} {r : RD} (h : OkTo rs i) (hr : rs[i]? = some r) (hk : r.ok) : OkTo rs (i + 1) := by
  obtain ⟨hlt, rfl⟩ := List.getElem?_eq_some_iff.1 hr
  intro x hx
  rw [List.take_succ_eq_append_getElem hlt] at hx
  rcases List.mem_append.1 hx with hx | hx
  · exact h x hx
  · obtain rfl := List.mem_singleton.1 hx; exact hk
theorem OkTo.all {rs : List RD} {n : Nat} (h : OkTo rs n) (hn : rs.length = n) (h24 : n ≤ 24) : VOk rs := ⟨by omega, fun r hr => h r (by rw [List.take_of_length_le (by omega)]; exact hr)⟩
theorem vok_at {rs : List RD} {i : Nat} {r : RD} (h : VOk rs) (hr : rs[i]? = some r) : r.ok := h.2 r (List.mem_of_getElem? hr)
end Go.Proofs.YtdehcddjkcpnfaaGreat
namespace Go.Proofs.YtdehcddjkcpnfaaGreat
set_option maxRecDepth 100000
open Go.RowKit

set_option maxHeartbeats 1600000 in
theorem impl_isVector (A : Option Addr) (n c : Nat) (rs : List RD) (w : World) (h : InV w A n rs) :
    Calls Tryz.prog 109 #[.slice A n c] w fun e w' => VOkEnd rs w w' e := by
  have hn := h.2.1
  have HV := Lib.hid h
  clear h
  by_cases hbig : 24 < (n : Int)
  · have HF : Hid (VOkEnd rs w w (.returned (.bool false))) := ⟨false, rfl, isVec_no (fun h => by have := h.1; rw [HV.out.1] at this; omega), Below.refl _ _⟩
    go_enter Tryz.func109, Tryz.ntmps109
    go_wp2_with fail
    go_ret
    exact HF.out
  go_enter Tryz.func109, Tryz.ntmps109
  go_wp2_with fail
  go_loopw [10] (fun x wr => ∃ i : Nat, i ≤ n ∧ x = .int .i64 i ∧ Hid (OkTo rs i) ∧ Hid (Below w.heap.size w wr)) (fun x _ => n - (intOf x).toNat)
  case atStart => exact ⟨0, Nat.zero_le _, rfl, OkTo.zero _, Below.refl _ _⟩
  case round =>
    obtain ⟨i, hle, rfl, hk, hb⟩ := hrel
    by_cases hlt : i < n
    · obtain ⟨b, o, rfl, hbs, r, hr, A1, n1, c1, B1, m1, d1, hat, i1, _, j1, _⟩ := (HV.out.below hb.out).at_ i hlt
      obtain ⟨e0, e1, e2⟩ := hat
      have hi0 : (0 : Int) ≤ (i : Int) := by omega
      have hi1 : (i : Int) < (n : Int) := by omega
      have HI := Lib.hid i1
      have HJ := Lib.hid j1
      have HR := Lib.hid hr
      clear i1 j1 hr
      go_wp2_with fail
      have HB := Lib.hid (hb.out.alloc hb.out.size (.cells #[.bool r.g, .slice A1 n1 c1, .slice B1 m1 d1] 30))
      have hbx : Below wr.heap.size wr (wr.alloc (.cells #[.bool r.g, .slice A1 n1 c1, .slice B1 m1 d1] 30)) := (Below.refl _ _).alloc (Nat.le_refl _) _
      refine (impl_ratOk' r.g A1 n1 c1 r.xs B1 m1 d1 r.ds _ (HI.out.below hbx) (HJ.out.below hbx)).mono ?_
      rintro e w1 ⟨⟨q, rfl, hq⟩, hb1⟩
      have HB2 := Lib.hid (HB.out.trans (hb1.mono HB.out.size))
      clear hb1 hbx
      cases q
      · have HF : Hid (VOkEnd rs w w1 (.returned (.bool false))) := ⟨false, rfl, isVec_no (fun h => by have h1 := hq.2 (vok_at h HR.out); cases h1), HB2.out⟩
        clear hq
        go_wp2_with fail
        go_ret
        exact HF.out
      · have HK := Lib.hid (hk.out.succ HR.out (hq.1 rfl))
        clear hq
        go_wp2_with fail
        go_roundw
        case rel => exact ⟨i + 1, by omega, by go_num, HK, HB2⟩
        case measure => simp [intOf]; omega
    · obtain rfl : i = n := by omega
      have HF : Hid (VOkEnd rs w wr (.returned (.bool true))) := ⟨true, rfl, isVec_yes (hk.out.all HV.out.1 (by omega)), hb.out⟩
      go_wp2_with fail
      go_ret
      exact HF.out
end Go.Proofs.YtdehcddjkcpnfaaGreat
namespace Go.Proofs.YtdehcddjkcpnfaaGreat
set_option maxRecDepth 100000
open Go.RowKit

def ZeroVectorIs (n : Int) (r : List RD) : Prop := r = if 0 ≤ n ∧ n ≤ 24 then List.replicate n.toNat (rint 0) else []
def UnitVectorIs (n k : Int) (r : List RD) : Prop := r = if (0 ≤ n ∧ n ≤ 24) ∧ 0 ≤ k ∧ k < n then (List.replicate n.toNat (rint 0)).set k.toNat (rint 1) else []
/-- v and true, where P holds and all elements are valid. -/
def DoneIs (P : Prop) (v r : List RD) (b : Bool) : Prop := ((P ∧ ∀ x ∈ v, x.ok) ∧ r = v ∧ b = true) ∨ (¬ (P ∧ ∀ x ∈ v, x.ok) ∧ r = [] ∧ b = false)
def PairOk (a b : List RD) : Prop := VOk a ∧ VOk b ∧ a.length = b.length
def AddVectorsIs (a b r : List RD) (q : Bool) : Prop := DoneIs (PairOk a b) (List.zipWith radd a b) r q
def SubtractVectorsIs (a b r : List RD) (q : Bool) : Prop := DoneIs (PairOk a b) (List.zipWith rsub a b) r q
def ScaleVectorIs (g : Bool) (xs ds : List Int) (v r : List RD) (q : Bool) : Prop := DoneIs (ROk g xs ds ∧ VOk v) (v.map (rmul ⟨g, xs, ds⟩)) r q
def VecEnd (Q : List RD → Prop) (w w' : World) (e : Ending) : Prop := ∃ r V, e = .returned V ∧ Q r ∧ ResV w w' V r ∧ Below w.heap.size w w'
def VecOkEnd (Q : List RD → Bool → Prop) (w w' : World) (e : Ending) : Prop := ∃ r V b, e = .returned (.tuple #[V, .bool b]) ∧ Q r b ∧ ResV w w' V r ∧ Below w.heap.size w w'
theorem resV_nil (w w' : World) : ResV w w' (.slice none 0 0) [] := ⟨by simp [tot], by simp, [], OwnV.none_ _ _, trivial⟩
theorem tot_le : ∀ {rs : List RD} {k : Nat}, (∀ r ∈ rs, r.tot ≤ k) → tot rs ≤ rs.length * k
  | [], _, _ => by simp [tot]
  | r :: rs, k, h => by
    have h1 := h r (by simp)
    have h2 := tot_le (rs := rs) (k := k) fun x hx => h x (by simp [hx])
    simp only [tot, List.length_cons, Nat.add_mul]; omega
theorem RD.ok.tot {r : RD} (h : r.ok) : r.tot ≤ 48 := by unfold RD.tot; have h1 := h.2.2.2.2.1; have h2 := h.2.2.2.2.2; omega
theorem good_tot {r : RD} (h : r.ok ∨ r = RD.zero) : r.tot ≤ 48 := h.elim RD.ok.tot fun h => by rw [h]; simp [RD.tot, RD.zero]
/-- Not too many elements, each valid or the zero value. -/
def Goods (rs : List RD) : Prop := rs.length ≤ 1024 ∧ ∀ r ∈ rs, r.ok ∨ r = RD.zero
theorem VOk.goods {rs : List RD} (h : VOk rs) : Goods rs := ⟨by have := h.1; omega, fun r hr => .inl (h.2 r hr)⟩
theorem Goods.fits {rs : List RD} (h : Goods rs) : ∀ r ∈ rs, r.fits := fun r hr => good_fits (h.2 r hr)
theorem Goods.room {rs : List RD} (h : Goods rs) : rs.length + tot rs ≤ 1048576 := by
  have h1 := tot_le fun r hr => good_tot (h.2 r hr)
  have h2 := h.1
  omega
theorem resV_mk {w w' : World} {V : Value} {rs : List RD} {L : List El} {n : Nat} (hg : Goods rs) (hn : rs.length = n) (ho : OwnV w' w.heap.size V n L) (hh : Has L rs) : ResV w w' V rs := by
  subst hn
  exact ⟨hg.room, hg.fits, L, ho, hh⟩

/-- An element that a call has handed back, about to be stored. -/
theorem store_el {w wr w2 : World} {G n c i : Nat} {L : List El} {g : Bool} {r d : List Int} {A B : Option Addr} {N M c2 d2 : Nat} (ho : OwnV wr w.heap.size (.slice (some ⟨G, 0, none⟩) n c) n L) (hb : Below w.heap.size w wr) (hb2 : Below wr.heap.size wr w2) (hi : i < n)
    (h1 : ResI wr w2 (.slice A N c2) r) (h2 : ResI wr w2 (.slice B M d2) d) (hap : Apart (.slice B M d2) (.slice A N c2)) :
    (∃ x0 x1 x2, w2.cell? ⟨G, i * 3, none⟩ = some x0 ∧ w2.cell? ⟨G, i * 3 + 1, none⟩ = some x1 ∧ w2.cell? ⟨G, i * 3 + 2, none⟩ = some x2 ∧ w2.frozen? ⟨G, i * 3, none⟩ = false ∧ w2.frozen? ⟨G, i * 3 + 1, none⟩ = false ∧ w2.frozen? ⟨G, i * 3 + 2, none⟩ = false) ∧
    OwnV (((w2.setCell ⟨G, i * 3, none⟩ (.bool g)).setCell ⟨G, i * 3 + 1, none⟩ (.slice A N c2)).setCell ⟨G, i * 3 + 2, none⟩ (.slice B M d2)) w.heap.size (.slice (some ⟨G, 0, none⟩) n c) n (L.set i ⟨g, .slice A N c2, r.length, r.map (.int .i64), .slice B M d2, d.length, d.map (.int .i64)⟩) ∧
    Below w.heap.size w (((w2.setCell ⟨G, i * 3, none⟩ (.bool g)).setCell ⟨G, i * 3 + 1, none⟩ (.slice A N c2)).setCell ⟨G, i * 3 + 2, none⟩ (.slice B M d2)) := by
  have ho2 := ho.below hb2
  have he0 : (El.mk g (.slice A N c2) r.length (r.map (.int .i64)) (.slice B M d2) d.length (d.map (.int .i64))).own w2 wr.heap.size := ⟨h1.2, h2.2, hap⟩
  have hst := ho2.store hi (he0.lower hb.size) (ho.far_new he0 (Nat.le_refl _))
  exact ⟨ho2.room hi, hst.1, Wrote.below (hb.trans (hb2.mono hb.size)) hst.2 (fun k hk => (ho2.2.1.lt k hk).1) (Nat.le_trans hb.size hb2.size)⟩
theorem has_store {L : List El} {rs : List RD} {i n : Nat} {g : Bool} {r d : List Int} {v u : Value} (h : Has L (upTo rs i n)) (hr : rs[i]? = some ⟨g, r, d⟩) (hi : i < n) :
    Has (L.set i ⟨g, v, r.length, r.map (.int .i64), u, d.length, d.map (.int .i64)⟩) (upTo rs (i + 1) n) := by
  rw [← upTo_succ hr hi]
  exact h.set i ⟨rfl, rfl, rfl, rfl, rfl⟩
theorem pickR_good {P : Prop} {N D : Int} : (pickR (RIs P N D)).ok ∨ pickR (RIs P N D) = RD.zero := by
  classical
  unfold pickR
  by_cases h : ∃ r : RD, RIs P N D r.g r.xs r.ds
  · rw [dif_pos h]; exact rIs_ok h.choose_spec
  · rw [dif_neg h]; exact .inr rfl
theorem rsub_good (r s : RD) : (rsub r s).ok ∨ rsub r s = RD.zero := pickR_good
theorem rmul_good (r s : RD) : (rmul r s).ok ∨ rmul r s = RD.zero := pickR_good
theorem rint_good (n : Int) : (rint n).ok ∨ rint n = RD.zero := pickR_good
theorem rep_goods {x : RD} (hx : x.ok ∨ x = RD.zero) {n : Nat} (h : n ≤ 1024) : Goods (List.replicate n x) := ⟨by simpa using h, fun y hy => by obtain rfl := (List.mem_replicate.1 hy).2; exact hx⟩
/-- An element of a list that came in, in a later world. -/
theorem InV.atB {w wr : World} {A : Option Addr} {n : Nat} {rs : List RD} (h : InV w A n rs) (hb : Below w.heap.size w wr) (j : Nat) (hj : j < n) :
    ∃ b o, A = some ⟨b, o, none⟩ ∧ b < w.heap.size ∧ ∃ r, rs[j]? = some r ∧ ∃ A1 n1 c1 B1 m1 d1, At3 wr b (o + j * 3) (.bool r.g) (.slice A1 n1 c1) (.slice B1 m1 d1) ∧ InI wr A1 n1 r.xs ∧ Room A1 n1 c1 ∧ InI wr B1 m1 r.ds ∧ Room B1 m1 d1 := by
  obtain ⟨b, o, hA, hlt, r, hr, A1, n1, c1, B1, m1, d1, h1, h2, h3, h4, h5⟩ := h.at_ j hj
  exact ⟨b, o, hA, hlt, r, hr, A1, n1, c1, B1, m1, d1, h1.below hlt hb, h2.below hb, h3, h4.below hb, h5⟩
theorem OwnV.drew {w : World} {base n : Nat} {V : Value} {L : List El} (h : OwnV w base V n L) : OwnV w.drew base V n L := h
theorem At3.set3 {w : World} {b o G : Nat} {x y z : Value} (h : At3 w b o x y z) (hne : b ≠ G) (i : Nat) (u0 u1 u2 : Value) : At3 (((w.setCell ⟨G, i * 3, none⟩ u0).setCell ⟨G, i * 3 + 1, none⟩ u1).setCell ⟨G, i * 3 + 2, none⟩ u2) b o x y z := by
  have key : ∀ k, (((w.setCell ⟨G, i * 3, none⟩ u0).setCell ⟨G, i * 3 + 1, none⟩ u1).setCell ⟨G, i * 3 + 2, none⟩ u2).cell? ⟨b, k, none⟩ = w.cell? ⟨b, k, none⟩ := fun k =>
    World.cell?_of_block (a := ⟨b, k, none⟩) ((Below.heap_setCell _ _ _ _ hne).trans ((Below.heap_setCell _ _ _ _ hne).trans (Below.heap_setCell _ _ _ _ hne)))
  exact ⟨(key _).trans h.1, (key _).trans h.2.1, (key _).trans h.2.2⟩
theorem pickR_ok {P : Prop} {N D : Int} (h : (pickR (RIs P N D)).ok) : P := by
  classical
  unfold pickR at h
  by_cases hx : ∃ r : RD, RIs P N D r.g r.xs r.ds
  · rw [dif_pos hx] at h
    rcases hx.choose_spec with h1 | ⟨_, h1, h2, h3⟩
    · exact h1.1
    · have h4 := h.2.2.1
      rw [h3] at h4
      simp [val] at h4
  · rw [dif_neg hx] at h; exact absurd h RD.zero_bad
theorem rsub_ok {r s : RD} (h : (rsub r s).ok) : r.ok ∧ s.ok := pickR_ok h
theorem rmul_ok {r s : RD} (h : (rmul r s).ok) : r.ok ∧ s.ok := pickR_ok h
theorem OwnV.empty (w : World) (t : TypeId := 30) (h : t = 30 := by rfl) : OwnV (w.alloc (.cells #[] t)) w.heap.size (.slice (some ⟨w.heap.size, 0, none⟩) 0 0) 0 [] := by
  subst h
  exact ⟨rfl, World.ownsRow_lit w #[] 0 (Nat.le_refl _) (by simp) (by simp), by simp, by simp⟩
theorem set_goods {m j : Nat} (h : m ≤ 1024) : Goods ((List.replicate m (rint 0)).set j (rint 1)) := by
  refine ⟨by simpa using h, fun x hx => ?_⟩
  rcases List.mem_or_eq_of_mem_set hx with hx | rfl
  · obtain rfl := (List.mem_replicate.1 hx).2; exact rint_good 0
  · exact rint_good 1
theorem unit_no {n k : Int} (h : ¬ ((0 ≤ n ∧ n ≤ 24) ∧ 0 ≤ k ∧ k < n)) : UnitVectorIs n k [] := by unfold UnitVectorIs; rw [if_neg h]
theorem in_no {n lo hi : Int} (h : (decide (lo ≤ n) && decide (n ≤ hi)) = false) : ¬ (lo ≤ n ∧ n ≤ hi) := by simpa using h
end Go.Proofs.YtdehcddjkcpnfaaGreat
namespace Go.Proofs.YtdehcddjkcpnfaaGreat
set_option maxRecDepth 100000
open Go.RowKit Go.Deep

theorem cells3_new (w : World) (x y z : Value) (t : TypeId) : ∀ (j : Nat) u, [x, y, z][j]? = some u → (w.alloc (.cells #[x, y, z] t)).cell? ((⟨w.heap.size, 0, none⟩ : Addr).add j) = some u := by
  intro j u hu
  rw [Addr.add_lit, Nat.zero_add, World.cell?_alloc_at _ _ _ _ rfl]
  match j, hu with
  | 0, hu => simpa using hu
  | 1, hu => simpa using hu
  | 2, hu => simpa using hu
section
variable {P : Program} {w2 : World} {ops : Array Oper} {o : Oper} {a : Act}
/-- What an append of one element leaves. -/
theorem run_append_el (base : Nat) (t ty : TypeId) (i : TypeInfo) (z : Value) (bytes : Nat) (ht : P.underlying t = some (.slice 30)) (hi : P.info? 30 = some i) (hz : i.zero = some z) (hsize : i.size = 3) (hby : i.bytes = bytes) (hzs : z.cells.size = 3)
    (V : Value) (n : Nat) (L : List El) (hown : OwnV w2 base V n L) (e : El) (he : e.own w2 base) (hf : ∀ x ∈ L, Far x e) (ho1 : e.v.oneCell' = true) (ho2 : e.u.oneCell' = true) (h63 : n + 1 ≤ maxLen) (hbytes : (n + 1) * bytes ≤ 140737488355328) (hbase : base ≤ w2.heap.size) (tl : TypeId) :
    ∃ V' w', (Builtin.append_ #[t, t] ty #[V, .slice (some ⟨w2.heap.size, 0, none⟩) 1 1]).run P (w2.alloc (.cells #[.bool e.g, e.v, e.u] tl)) = .ok V' w' ∧ OwnV w' base V' (n + 1) (L ++ [e]) ∧ (w2.alloc (.cells #[.bool e.g, e.v, e.u] tl)).grownBy w' V.ownBlock := by
  have h1 := hown.alloc (.cells #[.bool e.g, e.v, e.u] tl)
  obtain ⟨V', w', hrun, h2, h3, _⟩ := run_append_own (P := P) (w2.alloc (.cells #[.bool e.g, e.v, e.u] tl)) base t ty 30 i z 3 bytes ht hi hz hsize hby hzs (by decide) V n (flat L) h1.2.1 ⟨w2.heap.size, 0, none⟩ 1 1 [.bool e.g, e.v, e.u] rfl (cells3_new _ _ _ _ _) (by
    intro u hu
    simp only [List.mem_cons, List.not_mem_nil, or_false] at hu
    rcases hu with rfl | rfl | rfl
    · rfl
    · exact ho1
    · exact ho2) h63 hbytes (by simp; omega)
  exact ⟨V', w', hrun, h1.append h2 h3 (El.own.dep he fun k hk => Below.heap_alloc w2 _ k (he.lt k hk).2) hf, h3⟩
theorem wpList_append_el {rest : List Oper} {Q : Exit → Act → World → Prop} (hgd : o.guard = none) (s x : Operand) (t : TypeId) (ho : o.op = .call { callee := .builtin .append, args := #[s, x], argTypes := #[t, t] })
    (base : Nat) (i : TypeInfo) (z : Value) (bytes : Nat) (ht : P.underlying t = some (.slice 30)) (hi : P.info? 30 = some i) (hz : i.zero = some z) (hsize : i.size = 3) (hby : i.bytes = bytes) (hzs : z.cells.size = 3)
    (V : Value) (n : Nat) (L : List El) (hs : a.eval s = V) (hown : OwnV w2 base V n L) (e : El) (hx : a.eval x = .slice (some ⟨w2.heap.size, 0, none⟩) 1 1) (he : e.own w2 base) (hf : ∀ x ∈ L, Far x e) (ho1 : e.v.oneCell' = true) (ho2 : e.u.oneCell' = true) (h63 : n + 1 ≤ maxLen) (hbytes : (n + 1) * bytes ≤ 140737488355328) (hbase : base ≤ w2.heap.size) (tl : TypeId)
    (h : ∀ V' w', OwnV w' base V' (n + 1) (L ++ [e]) → (w2.alloc (.cells #[.bool e.g, e.v, e.u] tl)).grownBy w' V.ownBlock → wpList P ops Q rest (a.put o.dst V') w') : wpList P ops Q (o :: rest) a (w2.alloc (.cells #[.bool e.g, e.v, e.u] tl)) := by
  refine wpList_plain hgd fun K hK => ?_
  obtain ⟨V', w', hrun, h2, h3⟩ := run_append_el (P := P) base t o.type i z bytes ht hi hz hsize hby hzs V n L hown e he hf ho1 ho2 h63 hbytes hbase tl
  unfold Oper.wp execOp
  simp only [ho, resolve, invoke, builtin, Sem.run_bind, Sem.run_pure, Result.andThen_ok, List.map_toArray, List.map_cons, List.map_nil, hs, hx, hrun]
  exact hK _ _ (h V' w' h2 h3)
theorem step_append_el {K : Act → World → Prop} {Q : Exit → Act → World → Prop} {E : Prop} (hgd : o.guard = none) (s x : Operand) (t : TypeId) (ho : o.op = .call { callee := .builtin .append, args := #[s, x], argTypes := #[t, t] })
    (base : Nat) (i : TypeInfo) (z : Value) (bytes : Nat) (ht : P.underlying t = some (.slice 30)) (hi : P.info? 30 = some i) (hz : i.zero = some z) (hsize : i.size = 3) (hby : i.bytes = bytes) (hzs : z.cells.size = 3)
    (V : Value) (n : Nat) (L : List El) (hs : a.eval s = V) (hown : OwnV w2 base V n L) (e : El) (hx : a.eval x = .slice (some ⟨w2.heap.size, 0, none⟩) 1 1) (he : e.own w2 base) (hf : ∀ x ∈ L, Far x e) (ho1 : e.v.oneCell' = true) (ho2 : e.u.oneCell' = true) (h63 : n + 1 ≤ maxLen) (hbytes : (n + 1) * bytes ≤ 140737488355328) (hbase : base ≤ w2.heap.size) (tl : TypeId)
    (h : ∀ V' w', OwnV w' base V' (n + 1) (L ++ [e]) → (w2.alloc (.cells #[.bool e.g, e.v, e.u] tl)).grownBy w' V.ownBlock → K (a.put o.dst V') w') :
    if Region.wanted o (yielded ops a.tmps) = true then Oper.wp P o a (w2.alloc (.cells #[.bool e.g, e.v, e.u] tl)) K Q else E := by
  have hw : Region.wanted o (yielded ops a.tmps) = true := by simp [Region.wanted, hgd]
  rw [if_pos hw]
  obtain ⟨V', w', hrun, h2, h3⟩ := run_append_el (P := P) base t o.type i z bytes ht hi hz hsize hby hzs V n L hown e he hf ho1 ho2 h63 hbytes hbase tl
  unfold Oper.wp execOp
  simp only [ho, resolve, invoke, builtin, Sem.run_bind, Sem.run_pure, Result.andThen_ok, List.map_toArray, List.map_cons, List.map_nil, hs, hx, hrun]
  exact h V' w' h2 h3
end
theorem has_append {L : List El} {rs : List RD} {i : Nat} {g : Bool} {r d : List Int} {v u : Value} (h : Has L (rs.take i)) (hr : rs[i]? = some ⟨g, r, d⟩) :
    Has (L ++ [⟨g, v, r.length, r.map (.int .i64), u, d.length, d.map (.int .i64)⟩]) (rs.take (i + 1)) := by
  obtain ⟨hlt, he⟩ := List.getElem?_eq_some_iff.1 hr
  rw [List.take_succ_eq_append_getElem hlt, he]
  exact h.append ⟨⟨rfl, rfl, rfl, rfl, rfl⟩, trivial⟩
/-- An element that a call has handed back, about to be appended. -/
theorem new_el {w wr w2 : World} {n : Nat} {V : Value} {L : List El} {g : Bool} {r d : List Int} {A B : Option Addr} {N M c2 d2 : Nat} (ho : OwnV wr w.heap.size V n L) (hb : Below w.heap.size w wr) (hb2 : Below wr.heap.size wr w2)
    (h1 : ResI wr w2 (.slice A N c2) r) (h2 : ResI wr w2 (.slice B M d2) d) (hap : Apart (.slice B M d2) (.slice A N c2)) :
    OwnV w2 w.heap.size V n L ∧ (El.mk g (.slice A N c2) r.length (r.map (.int .i64)) (.slice B M d2) d.length (d.map (.int .i64))).own w2 w.heap.size ∧
      (∀ x ∈ L, Far x (El.mk g (.slice A N c2) r.length (r.map (.int .i64)) (.slice B M d2) d.length (d.map (.int .i64)))) ∧ Below w.heap.size w w2 := by
  have he0 : (El.mk g (.slice A N c2) r.length (r.map (.int .i64)) (.slice B M d2) d.length (d.map (.int .i64))).own w2 wr.heap.size := ⟨h1.2, h2.2, hap⟩
  exact ⟨ho.below hb2, he0.lower hb.size, ho.far_new he0 (Nat.le_refl _), hb.trans (hb2.mono hb.size)⟩
theorem box_at3 {w : World} {b : Nat} {t : TypeId} {x y z : Value} {b' o' : Nat} {x' y' z' : Value} (h : Hid (Box w b t #[x, y, z])) (k : Hid (At3 w b' o' x' y' z')) :
    w.cell? ⟨b, 0, none⟩ = some x ∧ w.cell? ⟨b, 1, none⟩ = some y ∧ w.cell? ⟨b, 2, none⟩ = some z ∧ w.cell? ⟨b', o', none⟩ = some x' ∧ w.cell? ⟨b', o' + 1, none⟩ = some y' ∧ w.cell? ⟨b', o' + 2, none⟩ = some z' :=
  ⟨h.out.cell 0, h.out.cell 1, h.out.cell 2, k.out.1, k.out.2.1, k.out.2.2⟩
theorem At3.alloc {w : World} {b o : Nat} {x y z : Value} (h : At3 w b o x y z) (hlt : b < w.heap.size) (ob : Obj) : At3 (w.alloc ob) b o x y z := h.below hlt ((Below.refl _ _).alloc (Nat.le_refl _) ob)
theorem At3.grown {w w' : World} {b o : Nat} {x y z : Value} {row : Option Nat} (h : At3 w b o x y z) (hlt : b < w.heap.size) (hg : w.grownBy w' row) (hn : some b ≠ row) : At3 w' b o x y z := by
  have key : ∀ k, w'.cell? ⟨b, k, none⟩ = w.cell? ⟨b, k, none⟩ := fun k => World.cell?_of_block (a := ⟨b, k, none⟩) (hg.block b hlt hn)
  exact ⟨(key _).trans h.1, (key _).trans h.2.1, (key _).trans h.2.2⟩
theorem below_app {w w2 w' : World} {n : Nat} {V : Value} {L : List El} {o : Obj} (hb : Below w.heap.size w w2) (h : OwnV w2 w.heap.size V n L) (hg : (w2.alloc o).grownBy w' V.ownBlock) : Below w.heap.size w w' :=
  (hb.alloc hb.size o).grown hg (by have := hb.size; simp; omega) fun k hk => (h.2.1.lt k hk).1
end Go.Proofs.YtdehcddjkcpnfaaGreat
namespace Go.Proofs.YtdehcddjkcpnfaaGreat
set_option maxRecDepth 100000
open Go.RowKit

theorem OwnV.holds_marked {w : World} {base n K : Nat} {V : Value} {L : List El} (h : OwnV w base V n (markL K L)) : Holds w (footV V L) fun w => OwnV w base V n (markL K L) :=
  ⟨fun k hk => (h.lt k (foot_congr (markL_vu K L).symm hk)).2, h, fun _ hb => h.dep fun k hk => hb k (foot_congr (markL_vu K L) hk)⟩
theorem vnow {w : World} {F : Nat → Prop} {base n : Nat} {V : Value} {L : List El} (h : Hid (Holds w F fun w => OwnV w base V n L)) : OwnV w base V n L := h.out.now
theorem El.own.holds {w : World} {base : Nat} {e : El} (h : e.own w base) : Holds w e.foot fun w => e.own w base := ⟨fun k hk => (h.lt k hk).2, h, fun _ hb => h.dep hb⟩
theorem mtot_has : ∀ {L : List El} {rs : List RD}, Has L rs → mtot L = rs.length + tot rs
  | [], [], _ => rfl
  | e :: L, r :: rs, h => by
    have := mtot_has h.2
    have h1 := h.1.2.1
    have h2 := h.1.2.2.2.1
    simp only [mtot, tot, RD.tot, List.length_cons, this, h1, h2]; omega
theorem IsV.fits {w : World} {A : Option Addr} {n : Nat} {rs : List RD} (h : IsV w A n rs) (hm : n + tot rs ≤ 1048576) : ∀ r ∈ rs, r.fits := fun r hr => by
  obtain ⟨j, hj, rfl⟩ := List.mem_iff_getElem.1 hr
  have ht := tot_at (List.getElem?_eq_getElem hj)
  rcases h.2.2 with h0 | ⟨b, o, hA, hlt, hat⟩
  · have := h.1; omega
  · obtain ⟨A1, n1, c1, B1, m1, d1, _, _, _, i1, i2⟩ := hat j hj
    unfold RD.tot at ht
    exact ⟨⟨by omega, by omega⟩, i1.2.2.2, i2.2.2.2⟩
theorem IsV.le {w : World} {A : Option Addr} {n : Nat} {rs : List RD} (h : IsV w A n rs) : n ≤ maxLen := h.2.1
/-- A list of the call's own as what is handed to a function. -/
theorem vin {w : World} {F : Nat → Prop} {base n c : Nat} {A : Option Addr} {L : List El} {rs : List RD} (h : Hid (Holds w F fun w => OwnV w base (.slice A n c) n L)) (hh : Hid (Has L rs)) (hn : n ≤ 1048576) (hf : Hid (∀ r ∈ rs, r.fits)) : InV w A n rs := (vnow h).in_ hh.out hn hf.out
/-- A fraction of the call's own, written out. -/
def ratEl (g : Bool) (A : Option Addr) (n c : Nat) (xs : List Value) (B : Option Addr) (m d : Nat) (ys : List Value) : El := ⟨g, .slice A n c, n, xs, .slice B m d, m, ys⟩
def ToREnd (g : Bool) (n : Nat) (xs : List Int) (m : Nat) (ds : List Int) (w w' : World) (e : Ending) : Prop :=
  ∃ A c B d, e = .returned (.agg #[.bool g, .slice A n c, .slice B m d]) ∧ (ratEl g A n c (xs.map (.int .i64)) B m d (ds.map (.int .i64))).own w' w.heap.size ∧ Below w.heap.size w w'
def MarkEEnd (base : Nat) (g : Bool) (A : Option Addr) (n c : Nat) (xs : List Value) (B : Option Addr) (m d : Nat) (ys : List Value) (K : Nat) (w w' : World) (e : Ending) : Prop :=
  e = .returned (.int .i64 ((K + n + m : Nat) : Int)) ∧ (ratEl g A n c (marks markI K n) B m d (marks markI (K + n) m)).own w' base ∧ Wrote (ratEl g A n c xs B m d ys).foot w w'
theorem two_none {F G : Nat → Prop} {a b c d : Nat} (u : Hid (∀ k, F k → a ≤ k ∧ k < b)) (v : Hid (∀ k, G k → c ≤ k ∧ k < d)) (h : b ≤ c ∨ d ≤ a) : ∀ k, F k → ¬ G k := fun k hk hg => by
  have h1 := u.out k hk
  have h2 := v.out k hg
  omega
theorem Box.wrote {w w' : World} {g : Nat} {t : TypeId} {cs : Array Value} {G : Nat → Prop} (h : Box w g t cs) (hW : Wrote G w w') {c d : Nat} (v : Hid (∀ k, G k → c ≤ k ∧ k < d)) (ho : g < c ∨ d ≤ g) : Box w' g t cs :=
  (hW.block g h.lt fun hg => by have := v.out g hg; omega).trans h
/-! Marks of a list, the number of its words under a name. -/
def MarkMEnd (base : Nat) (V : Value) (n K m : Nat) (L : List El) (w w' : World) (e : Ending) : Prop :=
  e = .returned (.int .i64 ((K + m : Nat) : Int)) ∧ OwnV w' base V n (markL K L) ∧ Wrote (footV V L) w w'
theorem markRatS_m (base : Nat) (A : Option Addr) (n c K m : Nat) (L : List El) (rs : List RD) (w : World) (hm : Hid (mtot L = m)) (hK : K + m < maxLen) (h : OwnV w base (.slice A n c) n L) (hh : Has L rs) :
    Calls Tryz.prog 31 #[.slice A n c, .int .i64 K] w fun e w' => MarkMEnd base (.slice A n c) n K m L w w' e :=
  (markRatS_own base A n c K L rs w (by rw [hm.out]; exact hK) h hh).mono fun e w' ⟨h1, h2, h3⟩ => ⟨by rw [h1, hm.out], h2, h3⟩
theorem heldRatS_m (base : Nat) (A : Option Addr) (n c K m : Nat) (L : List El) (w : World) (hm : Hid (mtot L = m)) (hK : K + m < maxLen) (h : OwnV w base (.slice A n c) n (markL K L)) :
    Calls Tryz.prog 33 #[.slice A n c, .int .i64 K] w fun e w' => e = .returned (.int .i64 ((K + m : Nat) : Int)) ∧ Below w.heap.size w w' :=
  (heldRatS_same base A n c K L w (by rw [hm.out]; exact hK) h).mono fun e w' ⟨h1, h2⟩ => ⟨by rw [h1, hm.out], h2⟩
end Go.Proofs.YtdehcddjkcpnfaaGreat
namespace Go.Proofs.YtdehcddjkcpnfaaGreat
set_option maxRecDepth 100000
open Go.RowKit Go.ChangeShapes Go.WideShapes Go.Deep Go.Joins

instance : Inhabited RD := ⟨RD.mk false [] []⟩
section
variable {P : Program} {H : Type} {enc : TypeId × Value → H} {w : World} {sp : Nat → Bool} {hd : Bool}
/-- The cells of one element, opened. -/
theorem open_rat3 {t e : TypeId} {f0 f1 k0 k1 : Field} {cs : List Value} {x : DataW H × List MemPlace} {fuel : Nat} (hs : P.underlying t = some (.struct #[f0, f1])) (ho0 : f0.offset = 0) (ho1 : f1.offset = 2) (hC : P.cellsOf t = 3)
    (hsb : P.underlying f0.type = some (.struct #[k0, k1])) (hone : oneCellFields P #[k0, k1] = true) (hCb : P.cellsOf f0.type = 2) (hc1 : P.cellsOf f1.type = 1)
    (hb : P.underlying k0.type = some .bool) (hsl : P.underlying k1.type = some (.slice e)) (hsl1 : P.underlying f1.type = some (.slice e)) (he : P.underlying e = some (.int .i64)) (hc : P.cellsOf e = 1)
    (hf : DataW.trod enc P w 0 sp hd fuel t cs = some x) :
    ∃ g A len cap xs B lenb capb ys, cs = [.bool g, .slice A len cap, .slice B lenb capb] ∧ IsInts w A len xs ∧ IsInts w B lenb ys := by
  obtain ⟨y0, y1, n, _, hl, h0, h1⟩ := trod_struct2 hs hf
  rw [hC] at hl
  match cs, hl with
  | [c0, c1, c2], _ =>
    rw [ho0, hCb] at h0
    rw [ho1, hc1] at h1
    have h0' : DataW.trod enc P w 0 sp hd n f0.type [c0, c1] = some y0 := by simpa using h0
    have h1' : DataW.trod enc P w 0 sp hd n f1.type [c2] = some y1 := by simpa using h1
    obtain ⟨z0, z1, m, _, _, g0, g1⟩ := trod_struct2 hsb h0'
    obtain ⟨o0, q0⟩ := hone_of hone 0 k0 rfl
    obtain ⟨o1, q1⟩ := hone_of hone 1 k1 rfl
    have g0' : DataW.trod enc P w 0 sp hd m k0.type [c0] = some z0 := by simpa [o0, q0] using g0
    have g1' : DataW.trod enc P w 0 sp hd m k1.type [c1] = some z1 := by simpa [o1, q1] using g1
    obtain ⟨b, hb', _⟩ := DataW.trod_bool hb g0'
    obtain rfl : c0 = .bool b := by simpa using hb'
    obtain ⟨A, len, cap, xs, rfl, hA⟩ := ints_cell hsl he hc g1'
    obtain ⟨B, lenb, capb, ys, rfl, hB⟩ := ints_cell hsl1 he hc h1'
    exact ⟨b, A, len, cap, xs, B, lenb, capb, ys, rfl, hA, hB⟩
theorem isV_of {T t e : TypeId} {f0 f1 k0 k1 : Field} {A : Option Addr} {len cap : Nat} {d : DataW H} {ps : List MemPlace} (hT : P.underlying T = some (.slice t)) (hs : P.underlying t = some (.struct #[f0, f1])) (ho0 : f0.offset = 0) (ho1 : f1.offset = 2) (hC : P.cellsOf t = 3)
    (hsb : P.underlying f0.type = some (.struct #[k0, k1])) (hone : oneCellFields P #[k0, k1] = true) (hCb : P.cellsOf f0.type = 2) (hc1 : P.cellsOf f1.type = 1)
    (hb : P.underlying k0.type = some .bool) (hsl : P.underlying k1.type = some (.slice e)) (hsl1 : P.underlying f1.type = some (.slice e)) (he : P.underlying e = some (.int .i64)) (hc : P.cellsOf e = 1)
    (h : DataW.Trod enc P w 0 sp hd T (Value.slice A len cap) d ps) : ∃ rs, IsV w A len rs := by
  obtain ⟨fuel, hf⟩ := h
  rcases open_slice hT hf with ⟨hcs, _⟩ | ⟨a, l, c, m, n, D, Pl, hcs, _, hl, hm, hmm, _, hi⟩
  · simp [Value.cells] at hcs
    obtain ⟨rfl, rfl, rfl⟩ := hcs
    exact ⟨[], rfl, Nat.zero_le _, .inl rfl⟩
  · simp [Value.cells] at hcs
    obtain ⟨rfl, rfl, rfl⟩ := hcs
    by_cases h0 : len = 0
    · subst h0; exact ⟨[], rfl, Nat.zero_le _, .inl rfl⟩
    have hle : len ≤ m := by rw [hmm]; split <;> omega
    obtain ⟨b, o, spot⟩ := a
    have hspot : spot = none := by
      obtain ⟨cs', hc', ht'⟩ := hi 0 (by omega)
      rw [hC] at hc'
      obtain ⟨_, hcl, hat⟩ := World.cells?_some hc'
      have h1 := hat 0 (by omega)
      rw [List.getElem?_eq_getElem (by omega)] at h1
      simpa [Addr.add] using World.cell?_spot h1
    subst hspot
    have hall : ∀ i, i < len → ∃ r : RD, RatIs w b (o + i * 3) r := fun i hil => by
      obtain ⟨cs', hc', ht'⟩ := hi i (by omega)
      rw [hC] at hc'
      obtain ⟨_, hcl, hat⟩ := World.cells?_some hc'
      obtain ⟨g, A, len, cap, xs, B, lenb, capb, ys, rfl, hA, hB⟩ := open_rat3 hs ho0 ho1 hC hsb hone hCb hc1 hb hsl hsl1 he hc ht'
      have e0 := hat 0 (by omega)
      have e1 := hat 1 (by omega)
      have e2 := hat 2 (by omega)
      rw [Go.Deep.add_add, Addr.add_lit] at e0 e1 e2
      exact ⟨⟨g, xs, ys⟩, A, len, cap, B, lenb, capb, e0, by rw [Nat.add_assoc]; exact e1, by rw [Nat.add_assoc]; exact e2, hA, hB⟩
    obtain ⟨r, hr⟩ := choose_lt hall
    refine ⟨(List.range len).map r, by simp, by omega, .inr ⟨b, o, rfl, ?_, fun j hj => ?_⟩⟩
    · obtain ⟨_, _, _, _, _, _, h1, _⟩ := hr 0 (by omega)
      exact World.block_lt_of_cell? _ _ h1
    · have : j < len := by simpa using hj
      simpa using hr j this
end
end Go.Proofs.YtdehcddjkcpnfaaGreat
