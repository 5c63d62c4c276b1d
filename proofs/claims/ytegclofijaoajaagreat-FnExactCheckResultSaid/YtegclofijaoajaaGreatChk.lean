/- CheckResult: what it answers; by the model and by the program. -/
import Derived.Test.YtegclofijaoajaaGreatLpS5
import Derived.Test.YtegclofijaoajaaGreatLpI5
import Derived.Test.YtegclofijaoajaaGreatLpI6
import Derived.Test.YtegclofijaoajaaGreatLpI7
import Derived.Test.YtegclofijaoajaaGreatGF
import Derived.Test.YtegclofijaoajaaGreatLrM
import Derived.Test.YtegclofijaoajaaGreatElS2
namespace Go.Proofs.YtegclofijaoajaaGreat
set_option maxRecDepth 100000
open Go.RowKit

def ObjP (p k : Int) (la lb lc : List Int) (vs : List RD) (V : RD) : Prop := (((LP.mk p k la lb lc).ok ∧ Rats vs k) ∧ (ldot lc vs).ok) ∧ ldot lc vs = V
def BndP (p k : Int) (la lb lc : List Int) (vs : List RD) (V : RD) : Prop := (((LP.mk p k la lb lc).ok ∧ Rats vs p) ∧ (ldot lb vs).ok) ∧ ldot lb vs = V
def CheckP (p k : Int) (la lb lc : List Int) (q : Int) (xs : List RD) (V : RD) (vs : List RD) : Prop :=
  (q = 2 ∧ FarkasP p k la lb lc vs) ∨ (q = 0 ∧ FeasP p k la lb lc xs ∧ DualP p k la lb lc vs ∧ ObjP p k la lb lc xs V ∧ BndP p k la lb lc vs V)
def CheckResultIs (p k : Int) (la lb lc : List Int) (q : Int) (xs : List RD) (g : Bool) (gs hs : List Int) (vs : List RD) (b : Bool) : Prop := b = true ↔ CheckP p k la lb lc q xs ⟨g, gs, hs⟩ vs
theorem checkResult_unique {p k : Int} {la lb lc : List Int} {q : Int} {xs : List RD} {g : Bool} {gs hs : List Int} {vs : List RD} {b b' : Bool} (h : CheckResultIs p k la lb lc q xs g gs hs vs b) (h' : CheckResultIs p k la lb lc q xs g gs hs vs b') : b = b' := bool_unique h h'
theorem value_good {C : Prop} {ns : List Int} {vs : List RD} {g q : Bool} {l d : List Int} (h : ValueIs C ns vs g l d q) : (RD.mk g l d).ok ∨ RD.mk g l d = RD.zero := by
  rcases h with ⟨k, e, _⟩ | ⟨_, e, _⟩
  · rw [e]; exact .inl k.2
  · exact .inr e
theorem value_yes {C : Prop} {ns : List Int} {vs : List RD} {g : Bool} {l d : List Int} (h : ValueIs C ns vs g l d true) : (C ∧ (ldot ns vs).ok) ∧ RD.mk g l d = ldot ns vs := by
  rcases h with ⟨k, e, _⟩ | ⟨_, _, e⟩
  · exact ⟨k, e⟩
  · cases e
theorem value_not {C : Prop} {ns : List Int} {vs : List RD} {g : Bool} {l d : List Int} (h : ValueIs C ns vs g l d false) : ¬ (C ∧ (ldot ns vs).ok) ∧ RD.mk g l d = RD.zero := by
  rcases h with ⟨_, _, e⟩ | ⟨k, e, _⟩
  · cases e
  · exact ⟨k, e⟩
theorem value_at {C : Prop} {ns : List Int} {vs : List RD} {g q : Bool} {l d : List Int} (h : ValueIs C ns vs g l d q) (hk : (RD.mk g l d).ok) : q = true := by
  rcases h with ⟨_, _, e⟩ | ⟨_, e, _⟩
  · exact e
  · rw [e] at hk; exact absurd hk RD.zero_bad
theorem value_of {C : Prop} {ns : List Int} {vs : List RD} {g q : Bool} {l d : List Int} (h : ValueIs C ns vs g l d q) (k : C ∧ (ldot ns vs).ok) : RD.mk g l d = ldot ns vs := by
  rcases h with ⟨_, e, _⟩ | ⟨k', _, _⟩
  · exact e
  · exact absurd k k'
theorem rd_ok_iff {g b : Bool} {l d : List Int} (h : RatOkIs g l d b) : b = true ↔ (RD.mk g l d).ok := h
theorem rat_eq_iff {g1 g2 b : Bool} {l1 d1 l2 d2 : List Int} (h : RatEqualIs g1 l1 d1 g2 l2 d2 b) : b = true ↔ RD.mk g1 l1 d1 = RD.mk g2 l2 d2 := by
  rw [RD.mk.injEq]; exact h
/-- A result handed in. -/
structure InS (w : World) (X : Option Addr) (nx : Nat) (xs : List RD) (G : Option Addr) (n1 c1 : Nat) (gs : List Int) (H : Option Addr) (m1 d1 : Nat) (hs : List Int) : Prop where
  x : InV w X nx xs
  g : InI w G n1 gs
  rg : Room G n1 c1
  h : InI w H m1 hs
  rh : Room H m1 d1
theorem InS.below {w w' : World} {X G H : Option Addr} {nx n1 c1 m1 d1 : Nat} {xs : List RD} {gs hs : List Int} (h : InS w X nx xs G n1 c1 gs H m1 d1 hs) (hb : Below w.heap.size w w') : InS w' X nx xs G n1 c1 gs H m1 d1 hs :=
  ⟨h.x.below hb, h.g.below hb, h.rg, h.h.below hb, h.rh⟩
set_option maxHeartbeats 12800000 in
theorem spec_checkResult0 (p k : Int) (A : Option Addr) (n c : Nat) (la : List Int) (B : Option Addr) (m d : Nat) (lb : List Int) (C : Option Addr) (l f : Nat) (lc : List Int) (q : Int) (X : Option Addr) (nx cx : Nat) (xs : List RD) (g : Bool) (G : Option Addr) (n1 c1 : Nat) (gs : List Int) (H : Option Addr) (m1 d1 : Nat) (hs : List Int) (E : Option Addr) (nv cv : Nat) (vs : List RD) (w : World) (h : InP w A n la B m lb C l lc) (hc : n ≤ c) (hs' : InS w X nx xs G n1 c1 gs H m1 d1 hs) (hv : InV w E nv vs) :
    Calls Tryz.prog 61 #[.agg #[.int .i64 p, .int .i64 k, .slice A n c, .slice B m d, .slice C l f], .agg #[.int .i64 q, .slice X nx cx, .bool g, .slice G n1 c1, .slice H m1 d1], .slice E nv cv] w fun e w' => LpOkEnd (CheckP p k la lb lc q xs ⟨g, gs, hs⟩ vs) w w' e := by
  obtain ⟨W0, hW0⟩ : ∃ W, W = ((w.alloc (.cells #[.int .i64 p, .int .i64 k, .slice A n c, .slice B m d, .slice C l f] 61)).alloc (.cells #[.int .i64 q, .slice X nx cx, .bool g, .slice G n1 c1, .slice H m1 d1] 64)) := ⟨_, rfl⟩
  have P_0 : Hid (Box W0 w.heap.size 61 #[.int .i64 p, .int .i64 k, .slice A n c, .slice B m d, .slice C l f]) := by rw [hW0]; exact (Box.new _ _ _).alloc _
  have R_0 : Hid (Box W0 (w.heap.size + 1) 64 #[.int .i64 q, .slice X nx cx, .bool g, .slice G n1 c1, .slice H m1 d1]) := by rw [hW0]; exact Box.at' (by simp)
  have BW_0 : Hid (Below w.heap.size w W0) := by rw [hW0]; exact ((Below.refl _ _).alloc (Nat.le_refl _) _).alloc (by simp) _
  have HI_0 := Lib.hid (h.below BW_0.out)
  have HS_0 := Lib.hid (hs'.below BW_0.out)
  have HV_0 := Lib.hid (hv.below BW_0.out)
  clear h hs' hv
  go_enter Tryz.func61, Tryz.ntmps61
  go_upto_region 1 with fail
  rw [← hW0]
  clear hW0
  have eP0 := P_0.out.cell 0
  have eP1 := P_0.out.cell 1
  have eP2 := P_0.out.cell 2
  have eP3 := P_0.out.cell 3
  have eP4 := P_0.out.cell 4
  simp at eP0 eP1 eP2 eP3 eP4
  have eR0 := R_0.out.cell 0
  have eR1 := R_0.out.cell 1
  have eR2 := R_0.out.cell 2
  have eR3 := R_0.out.cell 3
  have eR4 := R_0.out.cell 4
  simp at eR0 eR1 eR2 eR3 eR4
  by_cases hq2 : q = 2
  · subst hq2
    go_wp2_with fail
    refine (spec_isFarkas0 p k A n c la B m d lb C l f lc E nv cv vs _ HI_0.out HV_0.out).mono ?_
    rintro e w1 ⟨b1, rfl, h1, hb⟩
    have HF : Hid (LpOkEnd (CheckP p k la lb lc 2 xs ⟨g, gs, hs⟩ vs) w w1 (.returned (.bool b1))) := ⟨b1, rfl, h1.trans ⟨fun q => .inl ⟨rfl, q⟩, fun q => q.elim (fun q => q.2) fun q => absurd q.1 (by decide)⟩, BW_0.out.trans (hb.mono BW_0.out.size)⟩
    clear h1 hb
    go_wp2_with fail
    go_ret
    exact HF.out
  have hq2' : (q == 2) = false := by simpa using hq2
  by_cases hq0 : q = 0
  case neg =>
    have hq0' : (q == 0) = false := by simpa using hq0
    have HF : Hid (LpOkEnd (CheckP p k la lb lc q xs ⟨g, gs, hs⟩ vs) w W0 (.returned (.bool false))) := lpOk_no (fun h => h.elim (fun h => hq2 h.1) fun h => hq0 h.1) BW_0.out
    clear hq2 hq0
    go_wp2_with fail
    go_ret
    exact HF.out
  subst hq0
  clear hq2
  go_wp2_with fail
  clear hq2'
  clear eP0 eP1 eP2 eP3 eP4
  clear eR0 eR1 eR2 eR3 eR4
  refine (spec_objectiveAt0 p k A n c la B m d lb C l f lc X nx cx xs _ HI_0.out HS_0.out.x).mono ?_
  rintro e wc ⟨gO, rO, vO, dO, uO, bO, rfl, hq, q1, q2, hap, hb⟩
  obtain ⟨AO, cO, rfl⟩ := own_slice q1.2
  obtain ⟨BO, eO, rfl⟩ := own_slice q2.2
  have HQO := Lib.hid hq
  have HGO : Hid ((RD.mk gO rO dO).ok ∨ RD.mk gO rO dO = RD.zero) := value_good hq
  obtain ⟨w_1, hw1⟩ : ∃ W, W = wc.alloc (.cells #[.bool gO, .slice AO rO.length cO, .slice BO dO.length eO] 34) := ⟨_, rfl⟩
  have hbx : Below wc.heap.size wc w_1 := by rw [hw1]; exact (Below.refl _ _).alloc (Nat.le_refl _) _
  have hb2 := hb.trans (hbx.mono hb.size)
  have XO_1 : Hid (Box w_1 wc.heap.size 34 #[.bool gO, .slice AO rO.length cO, .slice BO dO.length eO]) := by rw [hw1]; exact Box.new _ _ _
  obtain ⟨kO, hkO⟩ : ∃ k, k = wc.heap.size := ⟨_, rfl⟩
  rw [← hkO] at XO_1
  have EO_1 := Lib.hid (el_below (show (qEl ⟨gO, rO, dO⟩ AO cO BO eO).own wc W0.heap.size from ⟨q1.2, q2.2, hap⟩) hbx)
  have HI_1 := Lib.hid (HI_0.out.below hb2)
  have HS_1 := Lib.hid (HS_0.out.below hb2)
  have HV_1 := Lib.hid (HV_0.out.below hb2)
  have BW_1 := Lib.hid (BW_0.out.trans (hb2.mono BW_0.out.size))
  have P_1 := Lib.hid (P_0.out.below hb2 P_0.out.lt)
  have R_1 := Lib.hid (R_0.out.below hb2 R_0.out.lt)
  clear hq q1 q2 hap hb hbx hb2
  have eP0 := P_1.out.cell 0
  have eP1 := P_1.out.cell 1
  have eP2 := P_1.out.cell 2
  have eP3 := P_1.out.cell 3
  have eP4 := P_1.out.cell 4
  simp at eP0 eP1 eP2 eP3 eP4
  rw [hw1] at eP0 eP1 eP2 eP3 eP4
  go_wp2_with fail
  rw [← hkO, ← hw1]
  clear hw1 hkO
  clear eP0 eP1 eP2 eP3 eP4
  refine (spec_boundAt0 p k A n c la B m d lb C l f lc E nv cv vs _ HI_1.out HV_1.out).mono ?_
  rintro e wc ⟨gN, rN, vN, dN, uN, bN, rfl, hq, q1, q2, hap, hb⟩
  obtain ⟨AN, cN, rfl⟩ := own_slice q1.2
  obtain ⟨BN, eN, rfl⟩ := own_slice q2.2
  have HQN := Lib.hid hq
  have HGN : Hid ((RD.mk gN rN dN).ok ∨ RD.mk gN rN dN = RD.zero) := value_good hq
  obtain ⟨w_2, hw2⟩ : ∃ W, W = wc.alloc (.cells #[.bool gN, .slice AN rN.length cN, .slice BN dN.length eN] 34) := ⟨_, rfl⟩
  have hbx : Below wc.heap.size wc w_2 := by rw [hw2]; exact (Below.refl _ _).alloc (Nat.le_refl _) _
  have hb2 := hb.trans (hbx.mono hb.size)
  have XN_2 : Hid (Box w_2 wc.heap.size 34 #[.bool gN, .slice AN rN.length cN, .slice BN dN.length eN]) := by rw [hw2]; exact Box.new _ _ _
  obtain ⟨kN, hkN⟩ : ∃ k, k = wc.heap.size := ⟨_, rfl⟩
  rw [← hkN] at XN_2
  have EN_2 := Lib.hid (el_below (show (qEl ⟨gN, rN, dN⟩ AN cN BN eN).own wc w_1.heap.size from ⟨q1.2, q2.2, hap⟩) hbx)
  have HI_2 := Lib.hid (HI_1.out.below hb2)
  have HS_2 := Lib.hid (HS_1.out.below hb2)
  have HV_2 := Lib.hid (HV_1.out.below hb2)
  have BW_2 := Lib.hid (BW_1.out.trans (hb2.mono BW_1.out.size))
  have P_2 := Lib.hid (P_1.out.below hb2 P_1.out.lt)
  have R_2 := Lib.hid (R_1.out.below hb2 R_1.out.lt)
  have XO_2 := Lib.hid (XO_1.out.below hb2 XO_1.out.lt)
  have EO_2 := Lib.hid (el_below EO_1.out hb2)
  clear hq q1 q2 hap hb hbx hb2
  have eP0 := P_2.out.cell 0
  have eP1 := P_2.out.cell 1
  have eP2 := P_2.out.cell 2
  have eP3 := P_2.out.cell 3
  have eP4 := P_2.out.cell 4
  simp at eP0 eP1 eP2 eP3 eP4
  have eR0 := R_2.out.cell 0
  have eR1 := R_2.out.cell 1
  have eR2 := R_2.out.cell 2
  have eR3 := R_2.out.cell 3
  have eR4 := R_2.out.cell 4
  simp at eR0 eR1 eR2 eR3 eR4
  rw [hw2] at eP0 eP1 eP2 eP3 eP4 eR0 eR1 eR2 eR3 eR4
  go_wp2_with fail
  rw [← hkN, ← hw2]
  clear hw2 hkN
  clear eP0 eP1 eP2 eP3 eP4
  clear eR0 eR1 eR2 eR3 eR4
  refine (spec_isFeasible0 p k A n c la B m d lb C l f lc X nx cx xs _ HI_2.out hc HS_2.out.x).mono ?_
  rintro e w_3 ⟨b3, rfl, h3, hb⟩
  have H3 := Lib.hid h3
  clear h3
  have hb2 := hb
  have HI_3 := Lib.hid (HI_2.out.below hb2)
  have HS_3 := Lib.hid (HS_2.out.below hb2)
  have HV_3 := Lib.hid (HV_2.out.below hb2)
  have BW_3 := Lib.hid (BW_2.out.trans (hb2.mono BW_2.out.size))
  have P_3 := Lib.hid (P_2.out.below hb2 P_2.out.lt)
  have R_3 := Lib.hid (R_2.out.below hb2 R_2.out.lt)
  have XO_3 := Lib.hid (XO_2.out.below hb2 XO_2.out.lt)
  have XN_3 := Lib.hid (XN_2.out.below hb2 XN_2.out.lt)
  have EO_3 := Lib.hid (el_below EO_2.out hb2)
  have EN_3 := Lib.hid (el_below EN_2.out hb2)
  clear hb hb2
  cases b3
  case false =>
    have HF : Hid (LpOkEnd (CheckP p k la lb lc 0 xs ⟨g, gs, hs⟩ vs) w w_3 (.returned (.bool false))) := lpOk_no (fun h => h.elim (fun h => absurd h.1 (by decide)) fun h => (by have := H3.out.2 h.2.1; cases this)) BW_3.out
    have eP0 := P_3.out.cell 0
    have eP1 := P_3.out.cell 1
    have eP2 := P_3.out.cell 2
    have eP3 := P_3.out.cell 3
    have eP4 := P_3.out.cell 4
    simp at eP0 eP1 eP2 eP3 eP4
    have eR0 := R_3.out.cell 0
    have eR1 := R_3.out.cell 1
    have eR2 := R_3.out.cell 2
    have eR3 := R_3.out.cell 3
    have eR4 := R_3.out.cell 4
    simp at eR0 eR1 eR2 eR3 eR4
    have eXO0 := XO_3.out.cell 0
    have eXO1 := XO_3.out.cell 1
    have eXO2 := XO_3.out.cell 2
    simp at eXO0 eXO1 eXO2
    have eXN0 := XN_3.out.cell 0
    have eXN1 := XN_3.out.cell 1
    have eXN2 := XN_3.out.cell 2
    simp at eXN0 eXN1 eXN2
    go_wp2_with fail
    go_ret
    exact HF.out
  cases bO
  case false =>
    have HF : Hid (LpOkEnd (CheckP p k la lb lc 0 xs ⟨g, gs, hs⟩ vs) w w_3 (.returned (.bool false))) := lpOk_no (fun h => h.elim (fun h => absurd h.1 (by decide)) fun h => absurd h.2.2.2.1.1 (value_not HQO.out).1) BW_3.out
    have eP0 := P_3.out.cell 0
    have eP1 := P_3.out.cell 1
    have eP2 := P_3.out.cell 2
    have eP3 := P_3.out.cell 3
    have eP4 := P_3.out.cell 4
    simp at eP0 eP1 eP2 eP3 eP4
    have eR0 := R_3.out.cell 0
    have eR1 := R_3.out.cell 1
    have eR2 := R_3.out.cell 2
    have eR3 := R_3.out.cell 3
    have eR4 := R_3.out.cell 4
    simp at eR0 eR1 eR2 eR3 eR4
    have eXO0 := XO_3.out.cell 0
    have eXO1 := XO_3.out.cell 1
    have eXO2 := XO_3.out.cell 2
    simp at eXO0 eXO1 eXO2
    have eXN0 := XN_3.out.cell 0
    have eXN1 := XN_3.out.cell 1
    have eXN2 := XN_3.out.cell 2
    simp at eXN0 eXN1 eXN2
    go_wp2_with fail
    go_ret
    exact HF.out
  cases bN
  case false =>
    have HF : Hid (LpOkEnd (CheckP p k la lb lc 0 xs ⟨g, gs, hs⟩ vs) w w_3 (.returned (.bool false))) := lpOk_no (fun h => h.elim (fun h => absurd h.1 (by decide)) fun h => absurd h.2.2.2.2.1 (value_not HQN.out).1) BW_3.out
    have eP0 := P_3.out.cell 0
    have eP1 := P_3.out.cell 1
    have eP2 := P_3.out.cell 2
    have eP3 := P_3.out.cell 3
    have eP4 := P_3.out.cell 4
    simp at eP0 eP1 eP2 eP3 eP4
    have eR0 := R_3.out.cell 0
    have eR1 := R_3.out.cell 1
    have eR2 := R_3.out.cell 2
    have eR3 := R_3.out.cell 3
    have eR4 := R_3.out.cell 4
    simp at eR0 eR1 eR2 eR3 eR4
    have eXO0 := XO_3.out.cell 0
    have eXO1 := XO_3.out.cell 1
    have eXO2 := XO_3.out.cell 2
    simp at eXO0 eXO1 eXO2
    have eXN0 := XN_3.out.cell 0
    have eXN1 := XN_3.out.cell 1
    have eXN2 := XN_3.out.cell 2
    simp at eXN0 eXN1 eXN2
    go_wp2_with fail
    go_ret
    exact HF.out
  have eP0 := P_3.out.cell 0
  have eP1 := P_3.out.cell 1
  have eP2 := P_3.out.cell 2
  have eP3 := P_3.out.cell 3
  have eP4 := P_3.out.cell 4
  simp at eP0 eP1 eP2 eP3 eP4
  have eR0 := R_3.out.cell 0
  have eR1 := R_3.out.cell 1
  have eR2 := R_3.out.cell 2
  have eR3 := R_3.out.cell 3
  have eR4 := R_3.out.cell 4
  simp at eR0 eR1 eR2 eR3 eR4
  have eXO0 := XO_3.out.cell 0
  have eXO1 := XO_3.out.cell 1
  have eXO2 := XO_3.out.cell 2
  simp at eXO0 eXO1 eXO2
  have eXN0 := XN_3.out.cell 0
  have eXN1 := XN_3.out.cell 1
  have eXN2 := XN_3.out.cell 2
  simp at eXN0 eXN1 eXN2
  go_wp2_with fail
  clear eP0 eP1 eP2 eP3 eP4
  clear eR0 eR1 eR2 eR3 eR4
  clear eXO0 eXO1 eXO2
  clear eXN0 eXN1 eXN2
  refine (spec_ratEqual gO AO rO.length cO rO BO dO.length eO dO g G n1 c1 gs H m1 d1 hs _ (q_in1 (q := ⟨gO, rO, dO⟩) EO_3.out HGO.out) (q_room1 (q := ⟨gO, rO, dO⟩) EO_3.out) (q_in2 (q := ⟨gO, rO, dO⟩) EO_3.out HGO.out) (q_room2 (q := ⟨gO, rO, dO⟩) EO_3.out) HS_3.out.g HS_3.out.rg HS_3.out.h HS_3.out.rh).mono ?_
  rintro e w_4 ⟨b4, rfl, h4, hb⟩
  have H4 := Lib.hid (rat_eq_iff h4)
  clear h4
  have hb2 := hb
  have HI_4 := Lib.hid (HI_3.out.below hb2)
  have HS_4 := Lib.hid (HS_3.out.below hb2)
  have HV_4 := Lib.hid (HV_3.out.below hb2)
  have BW_4 := Lib.hid (BW_3.out.trans (hb2.mono BW_3.out.size))
  have P_4 := Lib.hid (P_3.out.below hb2 P_3.out.lt)
  have R_4 := Lib.hid (R_3.out.below hb2 R_3.out.lt)
  have XO_4 := Lib.hid (XO_3.out.below hb2 XO_3.out.lt)
  have XN_4 := Lib.hid (XN_3.out.below hb2 XN_3.out.lt)
  have EO_4 := Lib.hid (el_below EO_3.out hb2)
  have EN_4 := Lib.hid (el_below EN_3.out hb2)
  clear hb hb2
  cases b4
  case false =>
    have HF : Hid (LpOkEnd (CheckP p k la lb lc 0 xs ⟨g, gs, hs⟩ vs) w w_4 (.returned (.bool false))) := lpOk_no (fun h => h.elim (fun h => absurd h.1 (by decide)) fun h => (by have := H4.out.2 ((value_yes HQO.out).2.trans h.2.2.2.1.2); cases this)) BW_4.out
    have eP0 := P_4.out.cell 0
    have eP1 := P_4.out.cell 1
    have eP2 := P_4.out.cell 2
    have eP3 := P_4.out.cell 3
    have eP4 := P_4.out.cell 4
    simp at eP0 eP1 eP2 eP3 eP4
    have eR0 := R_4.out.cell 0
    have eR1 := R_4.out.cell 1
    have eR2 := R_4.out.cell 2
    have eR3 := R_4.out.cell 3
    have eR4 := R_4.out.cell 4
    simp at eR0 eR1 eR2 eR3 eR4
    have eXO0 := XO_4.out.cell 0
    have eXO1 := XO_4.out.cell 1
    have eXO2 := XO_4.out.cell 2
    simp at eXO0 eXO1 eXO2
    have eXN0 := XN_4.out.cell 0
    have eXN1 := XN_4.out.cell 1
    have eXN2 := XN_4.out.cell 2
    simp at eXN0 eXN1 eXN2
    go_wp2_with fail
    go_ret
    exact HF.out
  have eP0 := P_4.out.cell 0
  have eP1 := P_4.out.cell 1
  have eP2 := P_4.out.cell 2
  have eP3 := P_4.out.cell 3
  have eP4 := P_4.out.cell 4
  simp at eP0 eP1 eP2 eP3 eP4
  have eR0 := R_4.out.cell 0
  have eR1 := R_4.out.cell 1
  have eR2 := R_4.out.cell 2
  have eR3 := R_4.out.cell 3
  have eR4 := R_4.out.cell 4
  simp at eR0 eR1 eR2 eR3 eR4
  have eXO0 := XO_4.out.cell 0
  have eXO1 := XO_4.out.cell 1
  have eXO2 := XO_4.out.cell 2
  simp at eXO0 eXO1 eXO2
  have eXN0 := XN_4.out.cell 0
  have eXN1 := XN_4.out.cell 1
  have eXN2 := XN_4.out.cell 2
  simp at eXN0 eXN1 eXN2
  go_wp2_with fail
  clear eP0 eP1 eP2 eP3 eP4
  clear eR0 eR1 eR2 eR3 eR4
  clear eXO0 eXO1 eXO2
  clear eXN0 eXN1 eXN2
  refine (spec_isDual0 p k A n c la B m d lb C l f lc E nv cv vs _ HI_4.out HV_4.out).mono ?_
  rintro e w_5 ⟨b5, rfl, h5, hb⟩
  have H5 := Lib.hid h5
  clear h5
  have hb2 := hb
  have HI_5 := Lib.hid (HI_4.out.below hb2)
  have HS_5 := Lib.hid (HS_4.out.below hb2)
  have HV_5 := Lib.hid (HV_4.out.below hb2)
  have BW_5 := Lib.hid (BW_4.out.trans (hb2.mono BW_4.out.size))
  have P_5 := Lib.hid (P_4.out.below hb2 P_4.out.lt)
  have R_5 := Lib.hid (R_4.out.below hb2 R_4.out.lt)
  have XO_5 := Lib.hid (XO_4.out.below hb2 XO_4.out.lt)
  have XN_5 := Lib.hid (XN_4.out.below hb2 XN_4.out.lt)
  have EO_5 := Lib.hid (el_below EO_4.out hb2)
  have EN_5 := Lib.hid (el_below EN_4.out hb2)
  clear hb hb2
  cases b5
  case false =>
    have HF : Hid (LpOkEnd (CheckP p k la lb lc 0 xs ⟨g, gs, hs⟩ vs) w w_5 (.returned (.bool false))) := lpOk_no (fun h => h.elim (fun h => absurd h.1 (by decide)) fun h => (by have := H5.out.2 h.2.2.1; cases this)) BW_5.out
    have eP0 := P_5.out.cell 0
    have eP1 := P_5.out.cell 1
    have eP2 := P_5.out.cell 2
    have eP3 := P_5.out.cell 3
    have eP4 := P_5.out.cell 4
    simp at eP0 eP1 eP2 eP3 eP4
    have eR0 := R_5.out.cell 0
    have eR1 := R_5.out.cell 1
    have eR2 := R_5.out.cell 2
    have eR3 := R_5.out.cell 3
    have eR4 := R_5.out.cell 4
    simp at eR0 eR1 eR2 eR3 eR4
    have eXO0 := XO_5.out.cell 0
    have eXO1 := XO_5.out.cell 1
    have eXO2 := XO_5.out.cell 2
    simp at eXO0 eXO1 eXO2
    have eXN0 := XN_5.out.cell 0
    have eXN1 := XN_5.out.cell 1
    have eXN2 := XN_5.out.cell 2
    simp at eXN0 eXN1 eXN2
    go_wp2_with fail
    go_ret
    exact HF.out
  have eP0 := P_5.out.cell 0
  have eP1 := P_5.out.cell 1
  have eP2 := P_5.out.cell 2
  have eP3 := P_5.out.cell 3
  have eP4 := P_5.out.cell 4
  simp at eP0 eP1 eP2 eP3 eP4
  have eR0 := R_5.out.cell 0
  have eR1 := R_5.out.cell 1
  have eR2 := R_5.out.cell 2
  have eR3 := R_5.out.cell 3
  have eR4 := R_5.out.cell 4
  simp at eR0 eR1 eR2 eR3 eR4
  have eXO0 := XO_5.out.cell 0
  have eXO1 := XO_5.out.cell 1
  have eXO2 := XO_5.out.cell 2
  simp at eXO0 eXO1 eXO2
  have eXN0 := XN_5.out.cell 0
  have eXN1 := XN_5.out.cell 1
  have eXN2 := XN_5.out.cell 2
  simp at eXN0 eXN1 eXN2
  go_wp2_with fail
  clear eP0 eP1 eP2 eP3 eP4
  clear eR0 eR1 eR2 eR3 eR4
  clear eXO0 eXO1 eXO2
  clear eXN0 eXN1 eXN2
  refine (spec_ratEqual gN AN rN.length cN rN BN dN.length eN dN g G n1 c1 gs H m1 d1 hs _ (q_in1 (q := ⟨gN, rN, dN⟩) EN_5.out HGN.out) (q_room1 (q := ⟨gN, rN, dN⟩) EN_5.out) (q_in2 (q := ⟨gN, rN, dN⟩) EN_5.out HGN.out) (q_room2 (q := ⟨gN, rN, dN⟩) EN_5.out) HS_5.out.g HS_5.out.rg HS_5.out.h HS_5.out.rh).mono ?_
  rintro e w_6 ⟨b6, rfl, h6, hb⟩
  have HF : Hid (LpOkEnd (CheckP p k la lb lc 0 xs ⟨g, gs, hs⟩ vs) w w_6 (.returned (.bool b6))) := ⟨b6, rfl, ⟨fun q6 => .inr ⟨rfl, (by have := H3.out; simpa using this), (by have := H5.out; simpa using this), ⟨(value_yes HQO.out).1, (value_yes HQO.out).2.symm.trans (by have := H4.out; simpa using this)⟩, (value_yes HQN.out).1, (value_yes HQN.out).2.symm.trans ((rat_eq_iff h6).1 q6)⟩, fun h => h.elim (fun h => absurd h.1 (by decide)) fun h => (rat_eq_iff h6).2 ((value_yes HQN.out).2.trans h.2.2.2.2.2)⟩, BW_5.out.trans (hb.mono BW_5.out.size)⟩
  clear h6 hb
  go_wp2_with fail
  go_ret
  exact HF.out
theorem spec_checkResult (p k : Int) (A : Option Addr) (n c : Nat) (la : List Int) (B : Option Addr) (m d : Nat) (lb : List Int) (C : Option Addr) (l f : Nat) (lc : List Int) (q : Int) (X : Option Addr) (nx cx : Nat) (xs : List RD) (g : Bool) (G : Option Addr) (n1 c1 : Nat) (gs : List Int) (H : Option Addr) (m1 d1 : Nat) (hs : List Int) (E : Option Addr) (nv cv : Nat) (vs : List RD) (w : World) (h : InP w A n la B m lb C l lc) (_hp : -9223372036854775808 ≤ p ∧ p ≤ 9223372036854775807) (_hk : -9223372036854775808 ≤ k ∧ k ≤ 9223372036854775807) (hc : n ≤ c) (hx : InV w X nx xs) (hg : InI w G n1 gs) (rg : Room G n1 c1) (hh : InI w H m1 hs) (rh : Room H m1 d1) (hv : InV w E nv vs) :
    Calls Tryz.prog 61 #[.agg #[.int .i64 p, .int .i64 k, .slice A n c, .slice B m d, .slice C l f], .agg #[.int .i64 q, .slice X nx cx, .bool g, .slice G n1 c1, .slice H m1 d1], .slice E nv cv] w fun e w' => ∃ b, e = .returned (.bool b) ∧ CheckResultIs p k la lb lc q xs g gs hs vs b ∧ Below w.heap.size w w' := (spec_checkResult0 p k A n c la B m d lb C l f lc q X nx cx xs g G n1 c1 gs H m1 d1 hs E nv cv vs w h hc ⟨hx, hg, rg, hh, rh⟩ hv).mono fun _ _ h => h
set_option maxHeartbeats 12800000 in
theorem impl_dualProves (p k : Int) (A : Option Addr) (n c : Nat) (la : List Int) (B : Option Addr) (m d : Nat) (lb : List Int) (C : Option Addr) (l f : Nat) (lc : List Int) (q : Int) (X : Option Addr) (nx cx : Nat) (xs : List RD) (g : Bool) (G : Option Addr) (n1 c1 : Nat) (gs : List Int) (H : Option Addr) (m1 d1 : Nat) (hs : List Int) (E : Option Addr) (nv cv : Nat) (vs : List RD) (w : World) (h : InP w A n la B m lb C l lc) (hc : n ≤ c) (hs' : InS w X nx xs G n1 c1 gs H m1 d1 hs) (hv : InV w E nv vs) :
    Calls Tryz.prog 292 #[.agg #[], .agg #[.int .i64 p, .int .i64 k, .slice A n c, .slice B m d, .slice C l f], .agg #[.int .i64 q, .slice X nx cx, .bool g, .slice G n1 c1, .slice H m1 d1], .slice E nv cv] w fun e w' => LpOkEnd (FeasP p k la lb lc xs ∧ DualP p k la lb lc vs ∧ ObjP p k la lb lc xs ⟨g, gs, hs⟩ ∧ BndP p k la lb lc vs ⟨g, gs, hs⟩) w w' e := by
  obtain ⟨W0, hW0⟩ : ∃ W, W = (((w.alloc (.cells #[] 134)).alloc (.cells #[.int .i64 p, .int .i64 k, .slice A n c, .slice B m d, .slice C l f] 61)).alloc (.cells #[.int .i64 q, .slice X nx cx, .bool g, .slice G n1 c1, .slice H m1 d1] 64)) := ⟨_, rfl⟩
  have P_0 : Hid (Box W0 (w.heap.size + 1) 61 #[.int .i64 p, .int .i64 k, .slice A n c, .slice B m d, .slice C l f]) := by rw [hW0]; exact (Box.at' (by simp)).alloc _
  have R_0 : Hid (Box W0 (w.heap.size + 1 + 1) 64 #[.int .i64 q, .slice X nx cx, .bool g, .slice G n1 c1, .slice H m1 d1]) := by rw [hW0]; exact Box.at' (by simp)
  have BW_0 : Hid (Below w.heap.size w W0) := by rw [hW0]; exact (((Below.refl _ _).alloc (Nat.le_refl _) _).alloc (by simp) _).alloc (by simp; omega) _
  have HI_0 := Lib.hid (h.below BW_0.out)
  have HS_0 := Lib.hid (hs'.below BW_0.out)
  have HV_0 := Lib.hid (hv.below BW_0.out)
  clear h hs' hv
  go_enter Tryz.func292, Tryz.ntmps292
  go_upto_region 1 with fail
  rw [← hW0]
  clear hW0
  have eP0 := P_0.out.cell 0
  have eP1 := P_0.out.cell 1
  have eP2 := P_0.out.cell 2
  have eP3 := P_0.out.cell 3
  have eP4 := P_0.out.cell 4
  simp at eP0 eP1 eP2 eP3 eP4
  have eR0 := R_0.out.cell 0
  have eR1 := R_0.out.cell 1
  have eR2 := R_0.out.cell 2
  have eR3 := R_0.out.cell 3
  have eR4 := R_0.out.cell 4
  simp at eR0 eR1 eR2 eR3 eR4
  go_wp2_with fail
  clear eP0 eP1 eP2 eP3 eP4
  clear eR0 eR1 eR2 eR3 eR4
  refine (impl_objectiveAt0 p k A n c la B m d lb C l f lc X nx cx xs _ HI_0.out HS_0.out.x).mono ?_
  rintro e wc ⟨gO, rO, vO, dO, uO, bO, rfl, hq, q1, q2, hap, hb⟩
  obtain ⟨AO, cO, rfl⟩ := own_slice q1.2
  obtain ⟨BO, eO, rfl⟩ := own_slice q2.2
  have HQO := Lib.hid hq
  have HGO : Hid ((RD.mk gO rO dO).ok ∨ RD.mk gO rO dO = RD.zero) := value_good hq
  obtain ⟨w_1, hw1⟩ : ∃ W, W = wc.alloc (.cells #[.bool gO, .slice AO rO.length cO, .slice BO dO.length eO] 34) := ⟨_, rfl⟩
  have hbx : Below wc.heap.size wc w_1 := by rw [hw1]; exact (Below.refl _ _).alloc (Nat.le_refl _) _
  have hb2 := hb.trans (hbx.mono hb.size)
  have XO_1 : Hid (Box w_1 wc.heap.size 34 #[.bool gO, .slice AO rO.length cO, .slice BO dO.length eO]) := by rw [hw1]; exact Box.new _ _ _
  obtain ⟨kO, hkO⟩ : ∃ k, k = wc.heap.size := ⟨_, rfl⟩
  rw [← hkO] at XO_1
  have EO_1 := Lib.hid (el_below (show (qEl ⟨gO, rO, dO⟩ AO cO BO eO).own wc W0.heap.size from ⟨q1.2, q2.2, hap⟩) hbx)
  have HI_1 := Lib.hid (HI_0.out.below hb2)
  have HS_1 := Lib.hid (HS_0.out.below hb2)
  have HV_1 := Lib.hid (HV_0.out.below hb2)
  have BW_1 := Lib.hid (BW_0.out.trans (hb2.mono BW_0.out.size))
  have P_1 := Lib.hid (P_0.out.below hb2 P_0.out.lt)
  have R_1 := Lib.hid (R_0.out.below hb2 R_0.out.lt)
  clear hq q1 q2 hap hb hbx hb2
  have eP0 := P_1.out.cell 0
  have eP1 := P_1.out.cell 1
  have eP2 := P_1.out.cell 2
  have eP3 := P_1.out.cell 3
  have eP4 := P_1.out.cell 4
  simp at eP0 eP1 eP2 eP3 eP4
  rw [hw1] at eP0 eP1 eP2 eP3 eP4
  go_wp2_with fail
  rw [← hkO, ← hw1]
  clear hw1 hkO
  clear eP0 eP1 eP2 eP3 eP4
  refine (impl_boundAt0 p k A n c la B m d lb C l f lc E nv cv vs _ HI_1.out HV_1.out).mono ?_
  rintro e wc ⟨gN, rN, vN, dN, uN, bN, rfl, hq, q1, q2, hap, hb⟩
  obtain ⟨AN, cN, rfl⟩ := own_slice q1.2
  obtain ⟨BN, eN, rfl⟩ := own_slice q2.2
  have HQN := Lib.hid hq
  have HGN : Hid ((RD.mk gN rN dN).ok ∨ RD.mk gN rN dN = RD.zero) := value_good hq
  obtain ⟨w_2, hw2⟩ : ∃ W, W = wc.alloc (.cells #[.bool gN, .slice AN rN.length cN, .slice BN dN.length eN] 34) := ⟨_, rfl⟩
  have hbx : Below wc.heap.size wc w_2 := by rw [hw2]; exact (Below.refl _ _).alloc (Nat.le_refl _) _
  have hb2 := hb.trans (hbx.mono hb.size)
  have XN_2 : Hid (Box w_2 wc.heap.size 34 #[.bool gN, .slice AN rN.length cN, .slice BN dN.length eN]) := by rw [hw2]; exact Box.new _ _ _
  obtain ⟨kN, hkN⟩ : ∃ k, k = wc.heap.size := ⟨_, rfl⟩
  rw [← hkN] at XN_2
  have EN_2 := Lib.hid (el_below (show (qEl ⟨gN, rN, dN⟩ AN cN BN eN).own wc w_1.heap.size from ⟨q1.2, q2.2, hap⟩) hbx)
  have HI_2 := Lib.hid (HI_1.out.below hb2)
  have HS_2 := Lib.hid (HS_1.out.below hb2)
  have HV_2 := Lib.hid (HV_1.out.below hb2)
  have BW_2 := Lib.hid (BW_1.out.trans (hb2.mono BW_1.out.size))
  have P_2 := Lib.hid (P_1.out.below hb2 P_1.out.lt)
  have R_2 := Lib.hid (R_1.out.below hb2 R_1.out.lt)
  have XO_2 := Lib.hid (XO_1.out.below hb2 XO_1.out.lt)
  have EO_2 := Lib.hid (el_below EO_1.out hb2)
  clear hq q1 q2 hap hb hbx hb2
  have eR0 := R_2.out.cell 0
  have eR1 := R_2.out.cell 1
  have eR2 := R_2.out.cell 2
  have eR3 := R_2.out.cell 3
  have eR4 := R_2.out.cell 4
  simp at eR0 eR1 eR2 eR3 eR4
  rw [hw2] at eR0 eR1 eR2 eR3 eR4
  go_wp2_with fail
  rw [← hkN, ← hw2]
  clear hw2 hkN
  clear eR0 eR1 eR2 eR3 eR4
  refine (impl_ratOk' g G n1 c1 gs H m1 d1 hs _ HS_2.out.g HS_2.out.h).mono ?_
  rintro e w_3 ⟨⟨b3, rfl, h3⟩, hb⟩
  have H3 := Lib.hid (rd_ok_iff h3)
  clear h3
  have hb2 := hb
  have HI_3 := Lib.hid (HI_2.out.below hb2)
  have HS_3 := Lib.hid (HS_2.out.below hb2)
  have HV_3 := Lib.hid (HV_2.out.below hb2)
  have BW_3 := Lib.hid (BW_2.out.trans (hb2.mono BW_2.out.size))
  have P_3 := Lib.hid (P_2.out.below hb2 P_2.out.lt)
  have R_3 := Lib.hid (R_2.out.below hb2 R_2.out.lt)
  have XO_3 := Lib.hid (XO_2.out.below hb2 XO_2.out.lt)
  have XN_3 := Lib.hid (XN_2.out.below hb2 XN_2.out.lt)
  have EO_3 := Lib.hid (el_below EO_2.out hb2)
  have EN_3 := Lib.hid (el_below EN_2.out hb2)
  clear hb hb2
  cases b3
  case false =>
    have HF : Hid (LpOkEnd (FeasP p k la lb lc xs ∧ DualP p k la lb lc vs ∧ ObjP p k la lb lc xs ⟨g, gs, hs⟩ ∧ BndP p k la lb lc vs ⟨g, gs, hs⟩) w w_3 (.returned (.bool false))) := lpOk_no (fun h => (by have := H3.out.2 (by rw [← h.2.2.1.2]; exact h.2.2.1.1.2); cases this)) BW_3.out
    have eP0 := P_3.out.cell 0
    have eP1 := P_3.out.cell 1
    have eP2 := P_3.out.cell 2
    have eP3 := P_3.out.cell 3
    have eP4 := P_3.out.cell 4
    simp at eP0 eP1 eP2 eP3 eP4
    have eR0 := R_3.out.cell 0
    have eR1 := R_3.out.cell 1
    have eR2 := R_3.out.cell 2
    have eR3 := R_3.out.cell 3
    have eR4 := R_3.out.cell 4
    simp at eR0 eR1 eR2 eR3 eR4
    have eXO0 := XO_3.out.cell 0
    have eXO1 := XO_3.out.cell 1
    have eXO2 := XO_3.out.cell 2
    simp at eXO0 eXO1 eXO2
    have eXN0 := XN_3.out.cell 0
    have eXN1 := XN_3.out.cell 1
    have eXN2 := XN_3.out.cell 2
    simp at eXN0 eXN1 eXN2
    go_wp2_with fail
    go_ret
    exact HF.out
  have eP0 := P_3.out.cell 0
  have eP1 := P_3.out.cell 1
  have eP2 := P_3.out.cell 2
  have eP3 := P_3.out.cell 3
  have eP4 := P_3.out.cell 4
  simp at eP0 eP1 eP2 eP3 eP4
  have eR0 := R_3.out.cell 0
  have eR1 := R_3.out.cell 1
  have eR2 := R_3.out.cell 2
  have eR3 := R_3.out.cell 3
  have eR4 := R_3.out.cell 4
  simp at eR0 eR1 eR2 eR3 eR4
  have eXO0 := XO_3.out.cell 0
  have eXO1 := XO_3.out.cell 1
  have eXO2 := XO_3.out.cell 2
  simp at eXO0 eXO1 eXO2
  have eXN0 := XN_3.out.cell 0
  have eXN1 := XN_3.out.cell 1
  have eXN2 := XN_3.out.cell 2
  simp at eXN0 eXN1 eXN2
  go_wp2_with fail
  clear eP0 eP1 eP2 eP3 eP4
  clear eR0 eR1 eR2 eR3 eR4
  clear eXO0 eXO1 eXO2
  clear eXN0 eXN1 eXN2
  refine (impl_ratEqual gO AO rO.length cO rO BO dO.length eO dO g G n1 c1 gs H m1 d1 hs _ (q_in1 (q := ⟨gO, rO, dO⟩) EO_3.out HGO.out) (q_room1 (q := ⟨gO, rO, dO⟩) EO_3.out) (q_in2 (q := ⟨gO, rO, dO⟩) EO_3.out HGO.out) (q_room2 (q := ⟨gO, rO, dO⟩) EO_3.out) HS_3.out.g HS_3.out.rg HS_3.out.h HS_3.out.rh).mono ?_
  rintro e w_4 ⟨b4, rfl, h4, hb⟩
  have H4 := Lib.hid (rat_eq_iff h4)
  clear h4
  have hb2 := hb
  have HI_4 := Lib.hid (HI_3.out.below hb2)
  have HS_4 := Lib.hid (HS_3.out.below hb2)
  have HV_4 := Lib.hid (HV_3.out.below hb2)
  have BW_4 := Lib.hid (BW_3.out.trans (hb2.mono BW_3.out.size))
  have P_4 := Lib.hid (P_3.out.below hb2 P_3.out.lt)
  have R_4 := Lib.hid (R_3.out.below hb2 R_3.out.lt)
  have XO_4 := Lib.hid (XO_3.out.below hb2 XO_3.out.lt)
  have XN_4 := Lib.hid (XN_3.out.below hb2 XN_3.out.lt)
  have EO_4 := Lib.hid (el_below EO_3.out hb2)
  have EN_4 := Lib.hid (el_below EN_3.out hb2)
  clear hb hb2
  cases b4
  case false =>
    have HF : Hid (LpOkEnd (FeasP p k la lb lc xs ∧ DualP p k la lb lc vs ∧ ObjP p k la lb lc xs ⟨g, gs, hs⟩ ∧ BndP p k la lb lc vs ⟨g, gs, hs⟩) w w_4 (.returned (.bool false))) := lpOk_no (fun h => (by have := H4.out.2 ((value_of HQO.out h.2.2.1.1).trans h.2.2.1.2); cases this)) BW_4.out
    have eP0 := P_4.out.cell 0
    have eP1 := P_4.out.cell 1
    have eP2 := P_4.out.cell 2
    have eP3 := P_4.out.cell 3
    have eP4 := P_4.out.cell 4
    simp at eP0 eP1 eP2 eP3 eP4
    have eR0 := R_4.out.cell 0
    have eR1 := R_4.out.cell 1
    have eR2 := R_4.out.cell 2
    have eR3 := R_4.out.cell 3
    have eR4 := R_4.out.cell 4
    simp at eR0 eR1 eR2 eR3 eR4
    have eXO0 := XO_4.out.cell 0
    have eXO1 := XO_4.out.cell 1
    have eXO2 := XO_4.out.cell 2
    simp at eXO0 eXO1 eXO2
    have eXN0 := XN_4.out.cell 0
    have eXN1 := XN_4.out.cell 1
    have eXN2 := XN_4.out.cell 2
    simp at eXN0 eXN1 eXN2
    go_wp2_with fail
    go_ret
    exact HF.out
  have eP0 := P_4.out.cell 0
  have eP1 := P_4.out.cell 1
  have eP2 := P_4.out.cell 2
  have eP3 := P_4.out.cell 3
  have eP4 := P_4.out.cell 4
  simp at eP0 eP1 eP2 eP3 eP4
  have eR0 := R_4.out.cell 0
  have eR1 := R_4.out.cell 1
  have eR2 := R_4.out.cell 2
  have eR3 := R_4.out.cell 3
  have eR4 := R_4.out.cell 4
  simp at eR0 eR1 eR2 eR3 eR4
  have eXO0 := XO_4.out.cell 0
  have eXO1 := XO_4.out.cell 1
  have eXO2 := XO_4.out.cell 2
  simp at eXO0 eXO1 eXO2
  have eXN0 := XN_4.out.cell 0
  have eXN1 := XN_4.out.cell 1
  have eXN2 := XN_4.out.cell 2
  simp at eXN0 eXN1 eXN2
  go_wp2_with fail
  clear eP0 eP1 eP2 eP3 eP4
  clear eR0 eR1 eR2 eR3 eR4
  clear eXO0 eXO1 eXO2
  clear eXN0 eXN1 eXN2
  refine (impl_ratEqual gN AN rN.length cN rN BN dN.length eN dN g G n1 c1 gs H m1 d1 hs _ (q_in1 (q := ⟨gN, rN, dN⟩) EN_4.out HGN.out) (q_room1 (q := ⟨gN, rN, dN⟩) EN_4.out) (q_in2 (q := ⟨gN, rN, dN⟩) EN_4.out HGN.out) (q_room2 (q := ⟨gN, rN, dN⟩) EN_4.out) HS_4.out.g HS_4.out.rg HS_4.out.h HS_4.out.rh).mono ?_
  rintro e w_5 ⟨b5, rfl, h5, hb⟩
  have H5 := Lib.hid (rat_eq_iff h5)
  clear h5
  have hb2 := hb
  have HI_5 := Lib.hid (HI_4.out.below hb2)
  have HS_5 := Lib.hid (HS_4.out.below hb2)
  have HV_5 := Lib.hid (HV_4.out.below hb2)
  have BW_5 := Lib.hid (BW_4.out.trans (hb2.mono BW_4.out.size))
  have P_5 := Lib.hid (P_4.out.below hb2 P_4.out.lt)
  have R_5 := Lib.hid (R_4.out.below hb2 R_4.out.lt)
  have XO_5 := Lib.hid (XO_4.out.below hb2 XO_4.out.lt)
  have XN_5 := Lib.hid (XN_4.out.below hb2 XN_4.out.lt)
  have EO_5 := Lib.hid (el_below EO_4.out hb2)
  have EN_5 := Lib.hid (el_below EN_4.out hb2)
  clear hb hb2
  cases b5
  case false =>
    have HF : Hid (LpOkEnd (FeasP p k la lb lc xs ∧ DualP p k la lb lc vs ∧ ObjP p k la lb lc xs ⟨g, gs, hs⟩ ∧ BndP p k la lb lc vs ⟨g, gs, hs⟩) w w_5 (.returned (.bool false))) := lpOk_no (fun h => (by have := H5.out.2 ((value_of HQN.out h.2.2.2.1).trans h.2.2.2.2); cases this)) BW_5.out
    have eP0 := P_5.out.cell 0
    have eP1 := P_5.out.cell 1
    have eP2 := P_5.out.cell 2
    have eP3 := P_5.out.cell 3
    have eP4 := P_5.out.cell 4
    simp at eP0 eP1 eP2 eP3 eP4
    have eR0 := R_5.out.cell 0
    have eR1 := R_5.out.cell 1
    have eR2 := R_5.out.cell 2
    have eR3 := R_5.out.cell 3
    have eR4 := R_5.out.cell 4
    simp at eR0 eR1 eR2 eR3 eR4
    have eXO0 := XO_5.out.cell 0
    have eXO1 := XO_5.out.cell 1
    have eXO2 := XO_5.out.cell 2
    simp at eXO0 eXO1 eXO2
    have eXN0 := XN_5.out.cell 0
    have eXN1 := XN_5.out.cell 1
    have eXN2 := XN_5.out.cell 2
    simp at eXN0 eXN1 eXN2
    go_wp2_with fail
    go_ret
    exact HF.out
  have HVO : Hid (RD.ok ⟨g, gs, hs⟩) := by unfold Hid; have := H3.out; simpa using this
  have HEO : Hid (RD.mk gO rO dO = ⟨g, gs, hs⟩) := by unfold Hid; have := H4.out; simpa using this
  have HEN : Hid (RD.mk gN rN dN = ⟨g, gs, hs⟩) := by unfold Hid; have := H5.out; simpa using this
  clear H3 H4 H5
  obtain rfl : bO = true := value_at HQO.out (by rw [HEO.out]; exact HVO.out)
  obtain rfl : bN = true := value_at HQN.out (by rw [HEN.out]; exact HVO.out)
  have HOO : Hid (ObjP p k la lb lc xs ⟨g, gs, hs⟩) := ⟨(value_yes HQO.out).1, (value_yes HQO.out).2.symm.trans HEO.out⟩
  have HNN : Hid (BndP p k la lb lc vs ⟨g, gs, hs⟩) := ⟨(value_yes HQN.out).1, (value_yes HQN.out).2.symm.trans HEN.out⟩
  clear HEO HEN HVO
  have eP0 := P_5.out.cell 0
  have eP1 := P_5.out.cell 1
  have eP2 := P_5.out.cell 2
  have eP3 := P_5.out.cell 3
  have eP4 := P_5.out.cell 4
  simp at eP0 eP1 eP2 eP3 eP4
  have eR0 := R_5.out.cell 0
  have eR1 := R_5.out.cell 1
  have eR2 := R_5.out.cell 2
  have eR3 := R_5.out.cell 3
  have eR4 := R_5.out.cell 4
  simp at eR0 eR1 eR2 eR3 eR4
  have eXO0 := XO_5.out.cell 0
  have eXO1 := XO_5.out.cell 1
  have eXO2 := XO_5.out.cell 2
  simp at eXO0 eXO1 eXO2
  have eXN0 := XN_5.out.cell 0
  have eXN1 := XN_5.out.cell 1
  have eXN2 := XN_5.out.cell 2
  simp at eXN0 eXN1 eXN2
  go_wp2_with fail
  clear eP0 eP1 eP2 eP3 eP4
  clear eR0 eR1 eR2 eR3 eR4
  clear eXO0 eXO1 eXO2
  clear eXN0 eXN1 eXN2
  refine (impl_isFeasible0 p k A n c la B m d lb C l f lc X nx cx xs _ HI_5.out hc HS_5.out.x).mono ?_
  rintro e w_6 ⟨b6, rfl, h6, hb⟩
  have H6 := Lib.hid h6
  clear h6
  have hb2 := hb
  have HI_6 := Lib.hid (HI_5.out.below hb2)
  have HS_6 := Lib.hid (HS_5.out.below hb2)
  have HV_6 := Lib.hid (HV_5.out.below hb2)
  have BW_6 := Lib.hid (BW_5.out.trans (hb2.mono BW_5.out.size))
  have P_6 := Lib.hid (P_5.out.below hb2 P_5.out.lt)
  have R_6 := Lib.hid (R_5.out.below hb2 R_5.out.lt)
  have XO_6 := Lib.hid (XO_5.out.below hb2 XO_5.out.lt)
  have XN_6 := Lib.hid (XN_5.out.below hb2 XN_5.out.lt)
  have EO_6 := Lib.hid (el_below EO_5.out hb2)
  have EN_6 := Lib.hid (el_below EN_5.out hb2)
  clear hb hb2
  cases b6
  case false =>
    have HF : Hid (LpOkEnd (FeasP p k la lb lc xs ∧ DualP p k la lb lc vs ∧ ObjP p k la lb lc xs ⟨g, gs, hs⟩ ∧ BndP p k la lb lc vs ⟨g, gs, hs⟩) w w_6 (.returned (.bool false))) := lpOk_no (fun h => (by have := H6.out.2 h.1; cases this)) BW_6.out
    have eP0 := P_6.out.cell 0
    have eP1 := P_6.out.cell 1
    have eP2 := P_6.out.cell 2
    have eP3 := P_6.out.cell 3
    have eP4 := P_6.out.cell 4
    simp at eP0 eP1 eP2 eP3 eP4
    have eR0 := R_6.out.cell 0
    have eR1 := R_6.out.cell 1
    have eR2 := R_6.out.cell 2
    have eR3 := R_6.out.cell 3
    have eR4 := R_6.out.cell 4
    simp at eR0 eR1 eR2 eR3 eR4
    have eXO0 := XO_6.out.cell 0
    have eXO1 := XO_6.out.cell 1
    have eXO2 := XO_6.out.cell 2
    simp at eXO0 eXO1 eXO2
    have eXN0 := XN_6.out.cell 0
    have eXN1 := XN_6.out.cell 1
    have eXN2 := XN_6.out.cell 2
    simp at eXN0 eXN1 eXN2
    go_wp2_with fail
    go_ret
    exact HF.out
  have HFE : Hid (FeasP p k la lb lc xs) := by unfold Hid; have := H6.out; simpa using this
  clear H6
  have eP0 := P_6.out.cell 0
  have eP1 := P_6.out.cell 1
  have eP2 := P_6.out.cell 2
  have eP3 := P_6.out.cell 3
  have eP4 := P_6.out.cell 4
  simp at eP0 eP1 eP2 eP3 eP4
  have eR0 := R_6.out.cell 0
  have eR1 := R_6.out.cell 1
  have eR2 := R_6.out.cell 2
  have eR3 := R_6.out.cell 3
  have eR4 := R_6.out.cell 4
  simp at eR0 eR1 eR2 eR3 eR4
  have eXO0 := XO_6.out.cell 0
  have eXO1 := XO_6.out.cell 1
  have eXO2 := XO_6.out.cell 2
  simp at eXO0 eXO1 eXO2
  have eXN0 := XN_6.out.cell 0
  have eXN1 := XN_6.out.cell 1
  have eXN2 := XN_6.out.cell 2
  simp at eXN0 eXN1 eXN2
  go_wp2_with fail
  clear eP0 eP1 eP2 eP3 eP4
  clear eR0 eR1 eR2 eR3 eR4
  clear eXO0 eXO1 eXO2
  clear eXN0 eXN1 eXN2
  refine (impl_isDual0 p k A n c la B m d lb C l f lc E nv cv vs _ HI_6.out hc HV_6.out).mono ?_
  rintro e w_7 ⟨b7, rfl, h7, hb⟩
  have HF : Hid (LpOkEnd (FeasP p k la lb lc xs ∧ DualP p k la lb lc vs ∧ ObjP p k la lb lc xs ⟨g, gs, hs⟩ ∧ BndP p k la lb lc vs ⟨g, gs, hs⟩) w w_7 (.returned (.bool b7))) := ⟨b7, rfl, ⟨fun q7 => ⟨HFE.out, h7.1 q7, HOO.out, HNN.out⟩, fun h => h7.2 h.2.1⟩, BW_6.out.trans (hb.mono BW_6.out.size)⟩
  clear h7 hb
  go_wp2_with fail
  go_ret
  exact HF.out
set_option maxHeartbeats 3200000 in
theorem impl_farkasProves (p k : Int) (A : Option Addr) (n c : Nat) (la : List Int) (B : Option Addr) (m d : Nat) (lb : List Int) (C : Option Addr) (l f : Nat) (lc : List Int) (q : Int) (X : Option Addr) (nx cx : Nat) (_xs : List RD) (g : Bool) (G : Option Addr) (n1 c1 : Nat) (_gs : List Int) (H : Option Addr) (m1 d1 : Nat) (_hs : List Int) (E : Option Addr) (nv cv : Nat) (vs : List RD) (w : World) (h : InP w A n la B m lb C l lc) (hc : n ≤ c) (hv : InV w E nv vs) :
    Calls Tryz.prog 306 #[.agg #[], .agg #[.int .i64 p, .int .i64 k, .slice A n c, .slice B m d, .slice C l f], .agg #[.int .i64 q, .slice X nx cx, .bool g, .slice G n1 c1, .slice H m1 d1], .slice E nv cv] w fun e w' => LpOkEnd (FarkasP p k la lb lc vs) w w' e := by
  obtain ⟨W0, hW0⟩ : ∃ W, W = (((w.alloc (.cells #[] 135)).alloc (.cells #[.int .i64 p, .int .i64 k, .slice A n c, .slice B m d, .slice C l f] 61)).alloc (.cells #[.int .i64 q, .slice X nx cx, .bool g, .slice G n1 c1, .slice H m1 d1] 64)) := ⟨_, rfl⟩
  have P_0 : Hid (Box W0 (w.heap.size + 1) 61 #[.int .i64 p, .int .i64 k, .slice A n c, .slice B m d, .slice C l f]) := by rw [hW0]; exact (Box.at' (by simp)).alloc _
  have BW_0 : Hid (Below w.heap.size w W0) := by rw [hW0]; exact (((Below.refl _ _).alloc (Nat.le_refl _) _).alloc (by simp) _).alloc (by simp; omega) _
  have HI_0 := Lib.hid (h.below BW_0.out)
  have HV_0 := Lib.hid (hv.below BW_0.out)
  clear h hv
  go_enter Tryz.func306, Tryz.ntmps306
  go_upto_region 1 with fail
  rw [← hW0]
  clear hW0
  have eP0 := P_0.out.cell 0
  have eP1 := P_0.out.cell 1
  have eP2 := P_0.out.cell 2
  have eP3 := P_0.out.cell 3
  have eP4 := P_0.out.cell 4
  simp at eP0 eP1 eP2 eP3 eP4
  go_wp2_with fail
  clear eP0 eP1 eP2 eP3 eP4
  refine (impl_isFarkas0 p k A n c la B m d lb C l f lc E nv cv vs _ HI_0.out hc HV_0.out).mono ?_
  rintro e w1 ⟨b1, rfl, h1, hb⟩
  have HF : Hid (LpOkEnd (FarkasP p k la lb lc vs) w w1 (.returned (.bool b1))) := ⟨b1, rfl, h1, BW_0.out.trans (hb.mono BW_0.out.size)⟩
  clear h1 hb
  go_wp2_with fail
  go_ret
  exact HF.out
def CertEnd (q : Int) (w w' : World) (e : Ending) : Prop := (q = 0 ∧ e = .returned (.tuple #[.iface 134 (.agg #[]), .bool true]) ∨ q = 2 ∧ e = .returned (.tuple #[.iface 135 (.agg #[]), .bool true]) ∨ ¬ q = 0 ∧ ¬ q = 2 ∧ e = .returned (.tuple #[.nilIface, .bool false])) ∧ w' = w
theorem impl_certificateFor (q : Int) (w : World) :
    Calls Tryz.prog 99 #[.int .i64 q] w fun e w' => CertEnd q w w' e := by
  by_cases h0 : q = 0
  · subst h0
    go_enter Tryz.func99, Tryz.ntmps99
    go_wp2_with fail
    go_ret2
    exact ⟨.inl ⟨rfl, rfl⟩, rfl⟩
  by_cases h2 : q = 2
  · subst h2
    go_enter Tryz.func99, Tryz.ntmps99
    go_wp2_with fail
    go_ret2
    exact ⟨.inr (.inl ⟨rfl, rfl⟩), rfl⟩
  have h0' : (q == 0) = false := by simpa using h0
  have h2' : (q == 2) = false := by simpa using h2
  have H0 := Lib.hid h0
  have H2 := Lib.hid h2
  clear h0 h2
  go_enter Tryz.func99, Tryz.ntmps99
  go_wp2_with fail
  go_ret2
  exact ⟨.inr (.inr ⟨H0.out, H2.out, rfl⟩), rfl⟩
set_option maxHeartbeats 12800000 in
theorem impl_checkResult0 (p k : Int) (A : Option Addr) (n c : Nat) (la : List Int) (B : Option Addr) (m d : Nat) (lb : List Int) (C : Option Addr) (l f : Nat) (lc : List Int) (q : Int) (X : Option Addr) (nx cx : Nat) (xs : List RD) (g : Bool) (G : Option Addr) (n1 c1 : Nat) (gs : List Int) (H : Option Addr) (m1 d1 : Nat) (hs : List Int) (E : Option Addr) (nv cv : Nat) (vs : List RD) (w : World) (h : InP w A n la B m lb C l lc) (hc : n ≤ c) (hs' : InS w X nx xs G n1 c1 gs H m1 d1 hs) (hv : InV w E nv vs) :
    Calls Tryz.prog 40 #[.agg #[.int .i64 p, .int .i64 k, .slice A n c, .slice B m d, .slice C l f], .agg #[.int .i64 q, .slice X nx cx, .bool g, .slice G n1 c1, .slice H m1 d1], .slice E nv cv] w fun e w' => LpOkEnd (CheckP p k la lb lc q xs ⟨g, gs, hs⟩ vs) w w' e := by
  obtain ⟨W0, hW0⟩ : ∃ W, W = ((w.alloc (.cells #[.int .i64 p, .int .i64 k, .slice A n c, .slice B m d, .slice C l f] 61)).alloc (.cells #[.int .i64 q, .slice X nx cx, .bool g, .slice G n1 c1, .slice H m1 d1] 64)) := ⟨_, rfl⟩
  have P_0 : Hid (Box W0 w.heap.size 61 #[.int .i64 p, .int .i64 k, .slice A n c, .slice B m d, .slice C l f]) := by rw [hW0]; exact (Box.new _ _ _).alloc _
  have R_0 : Hid (Box W0 (w.heap.size + 1) 64 #[.int .i64 q, .slice X nx cx, .bool g, .slice G n1 c1, .slice H m1 d1]) := by rw [hW0]; exact Box.at' (by simp)
  have BW_0 : Hid (Below w.heap.size w W0) := by rw [hW0]; exact ((Below.refl _ _).alloc (Nat.le_refl _) _).alloc (by simp) _
  have HI_0 := Lib.hid (h.below BW_0.out)
  have HS_0 := Lib.hid (hs'.below BW_0.out)
  have HV_0 := Lib.hid (hv.below BW_0.out)
  clear h hs' hv
  go_enter Tryz.func40, Tryz.ntmps40
  go_upto_region 1 with fail
  rw [← hW0]
  clear hW0
  have eP0 := P_0.out.cell 0
  have eP1 := P_0.out.cell 1
  have eP2 := P_0.out.cell 2
  have eP3 := P_0.out.cell 3
  have eP4 := P_0.out.cell 4
  simp at eP0 eP1 eP2 eP3 eP4
  have eR0 := R_0.out.cell 0
  have eR1 := R_0.out.cell 1
  have eR2 := R_0.out.cell 2
  have eR3 := R_0.out.cell 3
  have eR4 := R_0.out.cell 4
  simp at eR0 eR1 eR2 eR3 eR4
  go_wp2_with fail
  refine (impl_certificateFor q _).mono ?_
  rintro e w1 ⟨hq, hw1⟩
  obtain rfl := hw1.symm
  clear hw1
  rcases hq with ⟨rfl, rfl⟩ | ⟨rfl, rfl⟩ | ⟨hq0, hq2, rfl⟩
  · go_wp2_with fail
    clear eP0 eP1 eP2 eP3 eP4
    clear eR0 eR1 eR2 eR3 eR4
    refine (impl_dualProves p k A n c la B m d lb C l f lc 0 X nx cx xs g G n1 c1 gs H m1 d1 hs E nv cv vs _ HI_0.out hc HS_0.out HV_0.out).mono ?_
    rintro e w2 ⟨b2, rfl, h2, hb⟩
    have HF : Hid (LpOkEnd (CheckP p k la lb lc 0 xs ⟨g, gs, hs⟩ vs) w w2 (.returned (.bool b2))) := ⟨b2, rfl, h2.trans ⟨fun q => .inr ⟨rfl, q⟩, fun q => q.elim (fun q => absurd q.1 (by decide)) fun q => q.2⟩, BW_0.out.trans (hb.mono BW_0.out.size)⟩
    clear h2 hb
    go_wp2_with fail
    go_ret
    exact HF.out
  · go_wp2_with fail
    clear eP0 eP1 eP2 eP3 eP4
    clear eR0 eR1 eR2 eR3 eR4
    refine (impl_farkasProves p k A n c la B m d lb C l f lc 2 X nx cx xs g G n1 c1 gs H m1 d1 hs E nv cv vs _ HI_0.out hc HV_0.out).mono ?_
    rintro e w2 ⟨b2, rfl, h2, hb⟩
    have HF : Hid (LpOkEnd (CheckP p k la lb lc 2 xs ⟨g, gs, hs⟩ vs) w w2 (.returned (.bool b2))) := ⟨b2, rfl, h2.trans ⟨fun q => .inl ⟨rfl, q⟩, fun q => q.elim (fun q => q.2) fun q => absurd q.1 (by decide)⟩, BW_0.out.trans (hb.mono BW_0.out.size)⟩
    clear h2 hb
    go_wp2_with fail
    go_ret
    exact HF.out
  have HF : Hid (LpOkEnd (CheckP p k la lb lc q xs ⟨g, gs, hs⟩ vs) w W0 (.returned (.bool false))) := lpOk_no (fun h => h.elim (fun h => hq2 h.1) fun h => hq0 h.1) BW_0.out
  clear hq0 hq2
  go_wp2_with fail
  go_ret
  exact HF.out
theorem impl_checkResult (p k : Int) (A : Option Addr) (n c : Nat) (la : List Int) (B : Option Addr) (m d : Nat) (lb : List Int) (C : Option Addr) (l f : Nat) (lc : List Int) (q : Int) (X : Option Addr) (nx cx : Nat) (xs : List RD) (g : Bool) (G : Option Addr) (n1 c1 : Nat) (gs : List Int) (H : Option Addr) (m1 d1 : Nat) (hs : List Int) (E : Option Addr) (nv cv : Nat) (vs : List RD) (w : World) (h : InP w A n la B m lb C l lc) (_hp : -9223372036854775808 ≤ p ∧ p ≤ 9223372036854775807) (_hk : -9223372036854775808 ≤ k ∧ k ≤ 9223372036854775807) (hc : n ≤ c) (hx : InV w X nx xs) (hg : InI w G n1 gs) (rg : Room G n1 c1) (hh : InI w H m1 hs) (rh : Room H m1 d1) (hv : InV w E nv vs) :
    Calls Tryz.prog 40 #[.agg #[.int .i64 p, .int .i64 k, .slice A n c, .slice B m d, .slice C l f], .agg #[.int .i64 q, .slice X nx cx, .bool g, .slice G n1 c1, .slice H m1 d1], .slice E nv cv] w fun e w' => ∃ b, e = .returned (.bool b) ∧ CheckResultIs p k la lb lc q xs g gs hs vs b ∧ Below w.heap.size w w' := (impl_checkResult0 p k A n c la B m d lb C l f lc q X nx cx xs g G n1 c1 gs H m1 d1 hs E nv cv vs w h hc ⟨hx, hg, rg, hh, rh⟩ hv).mono fun _ _ h => h
end Go.Proofs.YtegclofijaoajaaGreat
