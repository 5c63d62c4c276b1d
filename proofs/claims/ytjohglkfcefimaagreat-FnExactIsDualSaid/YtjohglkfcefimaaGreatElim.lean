/- Elimination as data: what the model and the program reckon, column by column. No program is named here. -/
import Derived.Test.YtjohglkfcefimaaGreatMat
namespace Go.Proofs.YtjohglkfcefimaaGreat
set_option maxRecDepth 100000
open Go.RowKit

noncomputable def rdiv (r s : RD) : RD := pickR (RatDivIs r.g r.xs r.ds s.g s.xs s.ds)
noncomputable def rneg (r : RD) : RD := pickR (RatNegIs r.g r.xs r.ds)
theorem rdiv_of {r s : RD} {g : Bool} {l d : List Int} (h : RatDivIs r.g r.xs r.ds s.g s.xs s.ds g l d) : RD.mk g l d = rdiv r s := pickR_of ratDiv_unique h
theorem rneg_of {r : RD} {g : Bool} {l d : List Int} (h : RatNegIs r.g r.xs r.ds g l d) : RD.mk g l d = rneg r := pickR_of ratNeg_unique h
theorem rdiv_spec (r s : RD) : RatDivIs r.g r.xs r.ds s.g s.xs s.ds (rdiv r s).g (rdiv r s).xs (rdiv r s).ds := pickR_spec _ _ _
theorem rneg_spec (r : RD) : RatNegIs r.g r.xs r.ds (rneg r).g (rneg r).xs (rneg r).ds := pickR_spec _ _ _
theorem rsub_spec (r s : RD) : RatSubIs r.g r.xs r.ds s.g s.xs s.ds (rsub r s).g (rsub r s).xs (rsub r s).ds := pickR_spec _ _ _
theorem rint_spec (n : Int) : RatFromIntIs n (rint n).g (rint n).xs (rint n).ds := pickR_spec _ _ _
theorem rdiv_good (r s : RD) : (rdiv r s).ok ∨ rdiv r s = RD.zero := pickR_good
theorem rneg_good (r : RD) : (rneg r).ok ∨ rneg r = RD.zero := pickR_good
theorem rdiv_ok {r s : RD} (h : (rdiv r s).ok) : r.ok ∧ s.ok := pickR_ok h
theorem rneg_ok {r : RD} (h : (rneg r).ok) : r.ok := pickR_ok h
theorem rsub_bad {r s : RD} (h : ¬ (r.ok ∧ s.ok)) : rsub r s = RD.zero := (rsub_good r s).resolve_left fun k => h (rsub_ok k)
theorem rmul_bad {r s : RD} (h : ¬ (r.ok ∧ s.ok)) : rmul r s = RD.zero := (rmul_good r s).resolve_left fun k => h (rmul_ok k)

/-! Nought and one. -/
def R0 : RD := ⟨false, [], [1]⟩
def R1 : RD := ⟨false, [1], [1]⟩
theorem R0_ok : R0.ok := ⟨⟨⟨⟨fun z hz => (by cases hz), (by decide)⟩, (by decide)⟩, fun e => by cases e⟩, ⟨one_canon, by simp [R0]⟩, by decide, by decide, by decide, by decide⟩
theorem R1_ok : R1.ok := ⟨⟨⟨one_canon, by decide⟩, fun e => by cases e⟩, ⟨one_canon, by decide⟩, by decide, by decide, by decide, by decide⟩
theorem rint0 : rint 0 = R0 := (rint_of (n := 0) (g := false) (l := []) (d := [1]) (.inl ⟨trivial, ⟨by decide, R0_ok.1, R0_ok.2.1, R0_ok.2.2.1, R0_ok.2.2.2.1, by decide⟩, R0_ok.2.2.2.2⟩)).symm
theorem rint1 : rint 1 = R1 := (rint_of (n := 1) (g := false) (l := [1]) (d := [1]) (.inl ⟨trivial, ⟨by decide, R1_ok.1, R1_ok.2.1, R1_ok.2.2.1, R1_ok.2.2.2.1, by decide⟩, R1_ok.2.2.2.2⟩)).symm
theorem nil_is {x : RD} (h : x.ok) (hx : x.xs = []) : x = R0 := by
  obtain ⟨g, l, d⟩ := x
  obtain rfl : l = [] := hx
  obtain ⟨h1, h2, h3, h4, _⟩ := h
  have hg : g = false := by cases g <;> simp_all [BOk]
  have hd : d = [1] := by
    refine one_of h2.1 ?_
    have h5 : Int.gcd 0 (val d) = 1 := h4
    rw [Int.gcd_zero_left] at h5
    have h6 : 0 < val d := h3
    omega
  rw [hg, hd]; rfl
theorem xs_nil {x : RD} (h : x.ok) : x.xs = [] ↔ bval x.g x.xs = 0 := by
  constructor
  · exact RD.val_nil
  · intro h0
    have hv : val x.xs = 0 := by
      cases hg : x.g <;> simp [bval, hg] at h0 <;> omega
    exact canon_unique h.1.1.1 ⟨fun z hz => (by cases hz), by decide⟩ (by rw [hv]; rfl)
/-- Two fractions of one value are one. -/
theorem rd_inj {x y : RD} (hx : x.ok) (hy : y.ok) (h : bval x.g x.xs * val y.ds = bval y.g y.xs * val x.ds) : x = y := by
  have h1 : RLow (bval x.g x.xs) (val x.ds) x.g x.xs x.ds := ROk.low hx
  have h2 : RLow (bval y.g y.xs) (val y.ds) y.g y.xs y.ds := ROk.low hy
  have h3 := rlow_eq h2 (N' := bval x.g x.xs) (D' := val x.ds) (by have := hx.2.2.1; omega) h.symm
  obtain ⟨a, b, c⟩ := rlow_unique h1 h3
  cases x; cases y; simp_all
theorem ok_of_ne {x : RD} (h : x.ok ∨ x = RD.zero) (hn : x ≠ RD.zero) : x.ok := h.resolve_right hn
/-- What a valid result says. -/
theorem RIs.eq_of {P : Prop} {N D : Int} {r : RD} (h : RIs P N D r.g r.xs r.ds) (hr : r.ok) : bval r.g r.xs * D = N * val r.ds := by
  rcases h with ⟨_, h, _⟩ | ⟨_, h⟩
  · exact h.2.2.2.2.2
  · exfalso; obtain ⟨a, b, c⟩ := h; exact RD.zero_bad (by cases r; simp_all [RD.zero])
theorem pd {x : RD} (h : x.ok) : val x.ds ≠ 0 := by have := h.2.2.1; omega
theorem pick_is {P : Prop} {N D : Int} {x : RD} (hp : P) (hD : D ≠ 0) (hx : x.ok) (e : bval x.g x.xs * D = N * val x.ds) : pickR (RIs P N D) = x := by
  symm
  refine pickR_of (g := x.g) (l := x.xs) (d := x.ds) rIs_unique (.inl ⟨hp, ⟨hD, hx.1, hx.2.1, hx.2.2.1, hx.2.2.2.1, e⟩, hx.2.2.2.2⟩)
theorem rsub_nought {x z : RD} (hx : x.ok) (hz : z.ok) (h : z.xs = []) : rsub x z = x := by
  rw [nil_is hz h]
  refine pick_is ⟨hx, R0_ok⟩ (Int.mul_ne_zero (pd hx) (by decide)) hx ?_
  simp [R0, bval, val]
theorem rmul_nought {x z : RD} (hx : x.ok) (hz : z.ok) (h : z.xs = []) : rmul x z = R0 := by
  rw [nil_is hz h]
  refine pick_is ⟨hx, R0_ok⟩ (Int.mul_ne_zero (pd hx) (by decide)) R0_ok ?_
  simp [R0, bval, val]
theorem rmul_one {x : RD} (hx : x.ok) : rmul x R1 = x := by
  refine pick_is ⟨hx, R1_ok⟩ (Int.mul_ne_zero (pd hx) (by decide)) hx ?_
  simp [R1, bval, val]
theorem rsub_self {x : RD} (hx : x.ok) : rsub x x = R0 := by
  refine pick_is ⟨hx, hx⟩ (Int.mul_ne_zero (pd hx) (pd hx)) R0_ok ?_
  simp [R0, bval, val]
theorem num_ne {p : RD} (hp : p.ok) (hn : p.xs ≠ []) : bval p.g p.xs ≠ 0 := fun h => hn ((xs_nil hp).2 h)
theorem rdiv_self {p : RD} (hp : p.ok) (hn : p.xs ≠ []) : rdiv p p = R1 := by
  refine pick_is ⟨hp, hp⟩ (Int.mul_ne_zero (num_ne hp hn) (pd hp)) R1_ok ?_
  simp [R1, bval, val]
theorem rdiv_one {x : RD} (hx : x.ok) : rdiv x R1 = x := by
  refine pick_is ⟨hx, R1_ok⟩ (Int.mul_ne_zero (by decide) (pd hx)) hx ?_
  simp [R1, bval, val]
theorem rdiv_nil {x p : RD} (hx : x.ok) (hp : p.ok) (hn : p.xs ≠ []) (h : x.xs = []) : rdiv x p = R0 := by
  rw [nil_is hx h]
  refine pick_is ⟨R0_ok, hp⟩ (Int.mul_ne_zero (num_ne hp hn) (by decide)) R0_ok ?_
  simp [R0, bval, val]
/-- One over a fraction is its numerator and denominator exchanged: as long as these. -/
theorem inv_is {p : RD} (hp : p.ok) (hn : p.xs ≠ []) : rdiv R1 p = ⟨p.g, p.ds, p.xs⟩ ∧ (RD.mk p.g p.ds p.xs).ok := by
  have hv : 0 < val p.xs := by
    have h1 := val_nonneg hp.1.1.1.1
    have h2 : val p.xs ≠ 0 := fun h => num_ne hp hn (by cases hg : p.g <;> simp [bval, h])
    omega
  have hd : p.ds ≠ [] := fun e => by have := hp.2.2.1; rw [e] at this; simp [val] at this
  have hok : (RD.mk p.g p.ds p.xs).ok := ⟨⟨hp.2.1, fun _ => hd⟩, hp.1.1, hv, by rw [Int.gcd_comm]; exact hp.2.2.2.1, hp.2.2.2.2.2, hp.2.2.2.2.1⟩
  refine ⟨pick_is ⟨R1_ok, hp⟩ (Int.mul_ne_zero (num_ne hp hn) (by decide)) hok ?_, hok⟩
  cases hg : p.g <;> simp [R1, bval, val, Int.mul_comm] <;> grind
theorem pick_eq {P Q : Prop} {N D N' D' : Int} (hp : P) (hq : Q) (hD : D ≠ 0) (hD' : D' ≠ 0) (e : N * D' = N' * D) : pickR (RIs P N D) = pickR (RIs Q N' D') :=
  pickR_of rIs_unique (rIs_prop (rIs_eq (pickR_spec P N D) hD hD' e) hp hq)
theorem inv_mul {p x : RD} (hp : p.ok) (hn : p.xs ≠ []) (hx : x.ok) : rmul (rdiv R1 p) x = rdiv x p := by
  obtain ⟨e, hok⟩ := inv_is hp hn
  rw [e]
  have hq : val p.xs ≠ 0 := by have h1 : 0 < val p.xs := hok.2.2.1; omega
  refine pick_eq ⟨hok, hx⟩ ⟨hx, hp⟩ (Int.mul_ne_zero hq (pd hx)) (Int.mul_ne_zero (num_ne hp hn) (pd hx)) ?_
  cases hg : p.g <;> simp [bval] <;> grind
/-- A negation, and the product with -1. -/
theorem rneg_mul {x : RD} (h : x.ok ∨ x = RD.zero) : rmul x (rint (-1)) = rneg x := by
  have hm : rint (-1) = ⟨true, [1], [1]⟩ ∧ (RD.mk true [1] [1]).ok := by
    have hok : (RD.mk true [1] [1]).ok := ⟨⟨⟨one_canon, by decide⟩, fun _ e => by cases e⟩, ⟨one_canon, by decide⟩, by decide, by decide, by decide, by decide⟩
    exact ⟨(rint_of (n := -1) (g := true) (l := [1]) (d := [1]) (.inl ⟨trivial, ⟨by decide, hok.1, hok.2.1, hok.2.2.1, hok.2.2.2.1, by decide⟩, hok.2.2.2.2⟩)).symm, hok⟩
  rcases h with h | rfl
  · rw [hm.1]
    refine pick_eq ⟨h, hm.2⟩ h (Int.mul_ne_zero (pd h) (by decide)) (pd h) ?_
    simp [bval, val] <;> grind
  · rw [rmul_bad fun k => RD.zero_bad k.1]
    exact ((rneg_good _).resolve_left fun k => RD.zero_bad (rneg_ok k)).symm

/-! A matrix by its elements. -/
noncomputable def cell (K : Nat) (rs : List RD) (i j : Nat) : RD := (rs[i * K + j]?).getD RD.zero
def mk (P K : Nat) (f : Nat → Nat → RD) : List RD := (List.range (P * K)).map fun t => f (t / K) (t % K)
section
variable {P K : Nat} {f g : Nat → Nat → RD} {rs : List RD} {i j : Nat}
theorem mk_length : (mk P K f).length = P * K := by simp [mk]
theorem mk_at (hi : i < P) (hj : j < K) : (mk P K f)[i * K + j]? = some (f i j) := by
  have hlt : i * K + j < P * K := cell_lt hi hj
  simp [mk, hlt, div_of hj, mod_of hj]
theorem cell_mk (hi : i < P) (hj : j < K) : cell K (mk P K f) i j = f i j := by unfold cell; rw [mk_at hi hj]; rfl
theorem cell_at (hl : rs.length = P * K) (hi : i < P) (hj : j < K) : rs[i * K + j]? = some (cell K rs i j) := by
  have hlt : i * K + j < rs.length := by rw [hl]; exact cell_lt hi hj
  unfold cell; rw [List.getElem?_eq_getElem hlt]; rfl
theorem place {t : Nat} (h : t < P * K) : t / K < P ∧ t % K < K ∧ t / K * K + t % K = t := by
  have hK : 0 < K := by rcases Nat.eq_zero_or_pos K with h0 | h0; subst h0; omega; exact h0
  refine ⟨by rw [Nat.div_lt_iff_lt_mul hK]; exact h, Nat.mod_lt _ hK, ?_⟩
  have := Nat.div_add_mod t K
  rw [Nat.mul_comm] at this; exact this
theorem mk_of (hl : rs.length = P * K) (h : ∀ i j, i < P → j < K → cell K rs i j = f i j) : rs = mk P K f := by
  apply List.ext_getElem?
  intro t
  by_cases ht : t < P * K
  · obtain ⟨h1, h2, h3⟩ := place ht
    rw [← h3, cell_at hl h1 h2, mk_at h1 h2, h _ _ h1 h2]
  · rw [List.getElem?_eq_none (by omega), List.getElem?_eq_none (by rw [mk_length]; omega)]
theorem mk_congr (h : ∀ i j, i < P → j < K → f i j = g i j) : mk P K f = mk P K g := mk_of mk_length fun i j hi hj => by rw [cell_mk hi hj, h i j hi hj]
theorem mk_self (hl : rs.length = P * K) : mk P K (cell K rs) = rs := (mk_of hl fun _ _ _ _ => rfl).symm
theorem place_inj {a b : Nat} (hj : j < K) (hb : b < K) (h : i * K + j = a * K + b) : i = a ∧ j = b := by
  have h1 := congrArg (· / K) h
  have h2 := congrArg (· % K) h
  simp only [div_of hj, div_of hb, mod_of hj, mod_of hb] at h1 h2
  exact ⟨h1, h2⟩
theorem cell_set {x : RD} {a b : Nat} (hl : rs.length = P * K) (hi : i < P) (hj : j < K) (hb : b < K) : cell K (rs.set (i * K + j) x) a b = if a = i ∧ b = j then x else cell K rs a b := by
  unfold cell
  rw [List.getElem?_set]
  have hlt : i * K + j < rs.length := by rw [hl]; exact cell_lt hi hj
  by_cases h : a = i ∧ b = j
  · obtain ⟨rfl, rfl⟩ := h
    simp [hlt]
  · rw [if_neg h, if_neg fun e => h (by obtain ⟨h1, h2⟩ := place_inj hj hb e; exact ⟨h1.symm, h2.symm⟩)]
theorem mk_set {x : RD} (hi : i < P) (hj : j < K) : (mk P K f).set (i * K + j) x = mk P K fun a b => if a = i ∧ b = j then x else f a b := by
  refine mk_of (by rw [List.length_set, mk_length]) fun a b ha hb => ?_
  rw [cell_set mk_length hi hj hb, cell_mk ha hb]
theorem mem_mk {x : RD} (h : x ∈ mk P K f) : ∃ i j, i < P ∧ j < K ∧ x = f i j := by
  obtain ⟨t, ht, rfl⟩ := List.mem_map.1 h
  obtain ⟨h1, h2, _⟩ := place (List.mem_range.1 ht)
  exact ⟨_, _, h1, h2, rfl⟩
theorem mk_mem (hi : i < P) (hj : j < K) : f i j ∈ mk P K f := List.mem_of_getElem? (mk_at hi hj)
theorem mk_all {Q : RD → Prop} : (∀ x ∈ mk P K f, Q x) ↔ ∀ i j, i < P → j < K → Q (f i j) := by
  constructor
  · exact fun h i j hi hj => h _ (mk_mem hi hj)
  · intro h x hx
    obtain ⟨i, j, hi, hj, rfl⟩ := mem_mk hx
    exact h i j hi hj
theorem cell_mem (hl : rs.length = P * K) (hi : i < P) (hj : j < K) : cell K rs i j ∈ rs := List.mem_of_getElem? (cell_at hl hi hj)
theorem mrow_is (hl : rs.length = P * K) (hi : i < P) : mrow K rs i = (List.range K).map (cell K rs i) := by
  apply List.ext_getElem?
  intro j
  by_cases hj : j < K
  · rw [mrow_at hj, cell_at hl hi hj]; simp [hj]
  · rw [List.getElem?_eq_none (by rw [mrow_length hl hi]; omega), List.getElem?_eq_none (by simp; omega)]
end

/-! The elimination. -/
/-- The first row from n on with an element other than 0 in column k. -/
noncomputable def firstRow (P K : Nat) (rs : List RD) (n k : Nat) : Option Nat := (List.range P).find? fun i => decide (n ≤ i) && !(cell K rs i k).xs.isEmpty
noncomputable def mswap (P K : Nat) (rs : List RD) (n i : Nat) : List RD := mk P K fun a b => cell K rs (if a = n then i else if a = i then n else a) b
noncomputable def mdiv (P K : Nat) (rs : List RD) (n k : Nat) : List RD := mk P K fun a b => if a = n then rdiv (cell K rs n b) (cell K rs n k) else cell K rs a b
noncomputable def clr (K : Nat) (rs : List RD) (n k a b : Nat) : RD := open Classical in if a = n ∨ (cell K rs a k).xs = [] ∨ (cell K rs n b).xs = [] then cell K rs a b else rsub (cell K rs a b) (rmul (cell K rs a k) (cell K rs n b))
noncomputable def mclear (P K : Nat) (rs : List RD) (n k : Nat) : List RD := mk P K (clr K rs n k)
noncomputable def mpiv (P K : Nat) (rs : List RD) (n i k : Nat) : List RD := mclear P K (mdiv P K (mswap P K rs n i) n k) n k
structure ES where
  rs : List RD
  pv : List Nat
  fs : List RD
def AllOk (rs : List RD) : Prop := ∀ x ∈ rs, x.ok
noncomputable def estep (P K : Nat) (s : ES) (k : Nat) : ES := open Classical in
  if s.pv.length < P ∧ AllOk s.rs then
    match firstRow P K s.rs s.pv.length k with
    | none => s
    | some i => ⟨mpiv P K s.rs s.pv.length i k, s.pv ++ [k], s.fs ++ ((if i = s.pv.length then [] else [rint (-1)]) ++ [cell K s.rs i k])⟩
  else s
noncomputable def est (P K : Nat) (rs : List RD) (k : Nat) : ES := (List.range k).foldl (estep P K) ⟨rs, [], []⟩
theorem est_zero (P K : Nat) (rs : List RD) : est P K rs 0 = ⟨rs, [], []⟩ := rfl
theorem est_succ (P K : Nat) (rs : List RD) (k : Nat) : est P K rs (k + 1) = estep P K (est P K rs k) k := by simp [est, List.range_succ, List.foldl_append]
section
variable {P K n k i : Nat} {rs : List RD} {s : ES}
theorem firstRow_none : firstRow P K rs n k = none ↔ ∀ i, n ≤ i → i < P → (cell K rs i k).xs = [] := by
  unfold firstRow
  rw [List.find?_eq_none]
  constructor
  · intro h i h1 h2
    have := h i (List.mem_range.2 h2)
    simpa [h1] using this
  · intro h i hi
    have hi := List.mem_range.1 hi
    by_cases h1 : n ≤ i
    · simp [h i h1 hi]
    · simp [h1]
theorem firstRow_some (h1 : n ≤ i) (h2 : i < P) (h3 : (cell K rs i k).xs ≠ []) (h4 : ∀ a, n ≤ a → a < i → (cell K rs a k).xs = []) : firstRow P K rs n k = some i := by
  unfold firstRow
  rw [List.find?_range_eq_some]
  refine ⟨by simp [h1, h3], by simpa using h2, fun a ha => ?_⟩
  by_cases hn : n ≤ a
  · simp [h4 a hn ha]
  · simp [hn]
theorem of_firstRow (h : firstRow P K rs n k = some i) : n ≤ i ∧ i < P ∧ (cell K rs i k).xs ≠ [] ∧ ∀ a, n ≤ a → a < i → (cell K rs a k).xs = [] := by
  unfold firstRow at h
  rw [List.find?_range_eq_some] at h
  obtain ⟨h1, h2, h3⟩ := h
  simp at h1 h2
  refine ⟨h1.1, h2, h1.2, fun a ha hai => ?_⟩
  have := h3 a hai
  simpa [ha] using this
theorem estep_done (h : ¬ (s.pv.length < P ∧ AllOk s.rs)) : estep P K s k = s := by unfold estep; rw [if_neg h]
theorem estep_none (h : firstRow P K s.rs s.pv.length k = none) : estep P K s k = s := by
  unfold estep
  rw [h]; split <;> rfl
theorem estep_some (h1 : s.pv.length < P) (h2 : AllOk s.rs) (h : firstRow P K s.rs s.pv.length k = some i) :
    estep P K s k = ⟨mpiv P K s.rs s.pv.length i k, s.pv ++ [k], s.fs ++ ((if i = s.pv.length then [] else [rint (-1)]) ++ [cell K s.rs i k])⟩ := by
  unfold estep
  rw [if_pos ⟨h1, h2⟩, h]
theorem est_done (h : ¬ ((est P K rs k).pv.length < P ∧ AllOk (est P K rs k).rs)) : ∀ m, est P K rs (k + m) = est P K rs k
  | 0 => rfl
  | m + 1 => by rw [← Nat.add_assoc, est_succ, est_done h m, estep_done h]
theorem est_stay : ∀ m, (∀ j, k ≤ j → j < k + m → firstRow P K (est P K rs k).rs (est P K rs k).pv.length j = none) → est P K rs (k + m) = est P K rs k
  | 0, _ => rfl
  | m + 1, h => by
    have e := est_stay m fun j h1 h2 => h j h1 (by omega)
    rw [← Nat.add_assoc, est_succ, e, estep_none (h _ (by omega) (by omega))]
/-- Below the used rows nothing is left before column k. -/
def Low (P K : Nat) (rs : List RD) (n k : Nat) : Prop := ∀ a b, n ≤ a → a < P → b < k → b < K → (cell K rs a b).xs = []
end
end Go.Proofs.YtjohglkfcefimaaGreat
