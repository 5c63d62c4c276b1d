/- Elimination as data: what the model and the program reckon, column by column. No program is named here. -/
import Derived.Test.YtegclofijaoajaaGreatMat
namespace Go.Proofs.YtegclofijaoajaaGreat
set_option maxRecDepth 100000
open Go.RowKit

noncomputable def rdiv (r s : RD) : RD := pickR (RatDivIs r.g r.xs r.ds s.g s.xs s.ds)
noncomputable def rneg (r : RD) : RD := pickR (RatNegIs r.g r.xs r.ds)
theorem rint_spec (n : Int) : RatFromIntIs n (rint n).g (rint n).xs (rint n).ds := pickR_spec _ _ _
/-! Nought and one. -/
def R0 : RD := ⟨false, [], [1]⟩
def R1 : RD := ⟨false, [1], [1]⟩
theorem R0_ok : R0.ok := ⟨⟨⟨⟨fun z hz => (by cases hz), (by decide)⟩, (by decide)⟩, fun e => by cases e⟩, ⟨one_canon, by simp [R0]⟩, by decide, by decide, by decide, by decide⟩
theorem R1_ok : R1.ok := ⟨⟨⟨one_canon, by decide⟩, fun e => by cases e⟩, ⟨one_canon, by decide⟩, by decide, by decide, by decide, by decide⟩
theorem rint0 : rint 0 = R0 := (rint_of (n := 0) (g := false) (l := []) (d := [1]) (.inl ⟨trivial, ⟨by decide, R0_ok.1, R0_ok.2.1, R0_ok.2.2.1, R0_ok.2.2.2.1, by decide⟩, R0_ok.2.2.2.2⟩)).symm
theorem nil_is {x : RD} (h : x.ok) (hx : x.xs = []) : x = R0 := by
  obtain ⟨g, l, d⟩ := x
  obtain rfl : l = [] := hx
  obtain ⟨h1, h2, h3, h4, _⟩ := h
  have hg : g = false := by cases g <;> simp_all [BOk]
  have hd : d = [1] := by
    refine one_of h2.1 ?_
    have h5 : Int.gcd 0 (val d) = 1 := h4
    rw [Int.gcd_zero_left] at h5
    have h6 : 0 < val d := h3
    omega
  rw [hg, hd]; rfl
theorem xs_nil {x : RD} (h : x.ok) : x.xs = [] ↔ bval x.g x.xs = 0 := by
  constructor
  · exact RD.val_nil
  · intro h0
    have hv : val x.xs = 0 := by
      cases hg : x.g <;> simp [bval, hg] at h0 <;> omega
    exact canon_unique h.1.1.1 ⟨fun z hz => (by cases hz), by decide⟩ (by rw [hv]; rfl)
theorem pd {x : RD} (h : x.ok) : val x.ds ≠ 0 := by have := h.2.2.1; omega
theorem pick_is {P : Prop} {N D : Int} {x : RD} (hp : P) (hD : D ≠ 0) (hx : x.ok) (e : bval x.g x.xs * D = N * val x.ds) : pickR (RIs P N D) = x := by
  symm
  refine pickR_of (g := x.g) (l := x.xs) (d := x.ds) rIs_unique (.inl ⟨hp, ⟨hD, hx.1, hx.2.1, hx.2.2.1, hx.2.2.2.1, e⟩, hx.2.2.2.2⟩)
theorem rmul_one {x : RD} (hx : x.ok) : rmul x R1 = x := by
  refine pick_is ⟨hx, R1_ok⟩ (Int.mul_ne_zero (pd hx) (by decide)) hx ?_
  simp [R1, bval, val]
theorem rsub_self {x : RD} (hx : x.ok) : rsub x x = R0 := by
  refine pick_is ⟨hx, hx⟩ (Int.mul_ne_zero (pd hx) (pd hx)) R0_ok ?_
  simp [R0, bval, val]
theorem num_ne {p : RD} (hp : p.ok) (hn : p.xs ≠ []) : bval p.g p.xs ≠ 0 := fun h => hn ((xs_nil hp).2 h)
theorem rdiv_self {p : RD} (hp : p.ok) (hn : p.xs ≠ []) : rdiv p p = R1 := by
  refine pick_is ⟨hp, hp⟩ (Int.mul_ne_zero (num_ne hp hn) (pd hp)) R1_ok ?_
  simp [R1, bval, val]
theorem rdiv_nil {x p : RD} (hx : x.ok) (hp : p.ok) (hn : p.xs ≠ []) (h : x.xs = []) : rdiv x p = R0 := by
  rw [nil_is hx h]
  refine pick_is ⟨R0_ok, hp⟩ (Int.mul_ne_zero (num_ne hp hn) (by decide)) R0_ok ?_
  simp [R0, bval, val]
/-! A matrix by its elements. -/
noncomputable def cell (K : Nat) (rs : List RD) (i j : Nat) : RD := (rs[i * K + j]?).getD RD.zero
def mk (P K : Nat) (f : Nat → Nat → RD) : List RD := (List.range (P * K)).map fun t => f (t / K) (t % K)
section
variable {P K : Nat} {f g : Nat → Nat → RD} {rs : List RD} {i j : Nat}
theorem mk_length : (mk P K f).length = P * K := by simp [mk]
theorem mk_at (hi : i < P) (hj : j < K) : (mk P K f)[i * K + j]? = some (f i j) := by
  have hlt : i * K + j < P * K := cell_lt hi hj
  simp [mk, hlt, div_of hj, mod_of hj]
theorem cell_mk (hi : i < P) (hj : j < K) : cell K (mk P K f) i j = f i j := by unfold cell; rw [mk_at hi hj]; rfl
theorem cell_at (hl : rs.length = P * K) (hi : i < P) (hj : j < K) : rs[i * K + j]? = some (cell K rs i j) := by
  have hlt : i * K + j < rs.length := by rw [hl]; exact cell_lt hi hj
  unfold cell; rw [List.getElem?_eq_getElem hlt]; rfl
theorem place {t : Nat} (h : t < P * K) : t / K < P ∧ t % K < K ∧ t / K * K + t % K = t := by
  have hK : 0 < K := by rcases Nat.eq_zero_or_pos K with h0 | h0; subst h0; omega; exact h0
  refine ⟨by rw [Nat.div_lt_iff_lt_mul hK]; exact h, Nat.mod_lt _ hK, ?_⟩
  have := Nat.div_add_mod t K
  rw [Nat.mul_comm] at this; exact this
theorem mem_mk {x : RD} (h : x ∈ mk P K f) : ∃ i j, i < P ∧ j < K ∧ x = f i j := by
  obtain ⟨t, ht, rfl⟩ := List.mem_map.1 h
  obtain ⟨h1, h2, _⟩ := place (List.mem_range.1 ht)
  exact ⟨_, _, h1, h2, rfl⟩
theorem mk_mem (hi : i < P) (hj : j < K) : f i j ∈ mk P K f := List.mem_of_getElem? (mk_at hi hj)
theorem mk_all {Q : RD → Prop} : (∀ x ∈ mk P K f, Q x) ↔ ∀ i j, i < P → j < K → Q (f i j) := by
  constructor
  · exact fun h i j hi hj => h _ (mk_mem hi hj)
  · intro h x hx
    obtain ⟨i, j, hi, hj, rfl⟩ := mem_mk hx
    exact h i j hi hj
theorem cell_mem (hl : rs.length = P * K) (hi : i < P) (hj : j < K) : cell K rs i j ∈ rs := List.mem_of_getElem? (cell_at hl hi hj)
end

/-! The elimination. -/
/-- The first row from n on with an element other than 0 in column k. -/
noncomputable def firstRow (P K : Nat) (rs : List RD) (n k : Nat) : Option Nat := (List.range P).find? fun i => decide (n ≤ i) && !(cell K rs i k).xs.isEmpty
noncomputable def mswap (P K : Nat) (rs : List RD) (n i : Nat) : List RD := mk P K fun a b => cell K rs (if a = n then i else if a = i then n else a) b
noncomputable def mdiv (P K : Nat) (rs : List RD) (n k : Nat) : List RD := mk P K fun a b => if a = n then rdiv (cell K rs n b) (cell K rs n k) else cell K rs a b
noncomputable def clr (K : Nat) (rs : List RD) (n k a b : Nat) : RD := open Classical in if a = n ∨ (cell K rs a k).xs = [] ∨ (cell K rs n b).xs = [] then cell K rs a b else rsub (cell K rs a b) (rmul (cell K rs a k) (cell K rs n b))
noncomputable def mclear (P K : Nat) (rs : List RD) (n k : Nat) : List RD := mk P K (clr K rs n k)
noncomputable def mpiv (P K : Nat) (rs : List RD) (n i k : Nat) : List RD := mclear P K (mdiv P K (mswap P K rs n i) n k) n k
structure ES where
  rs : List RD
  pv : List Nat
  fs : List RD
def AllOk (rs : List RD) : Prop := ∀ x ∈ rs, x.ok
noncomputable def estep (P K : Nat) (s : ES) (k : Nat) : ES := open Classical in
  if s.pv.length < P ∧ AllOk s.rs then
    match firstRow P K s.rs s.pv.length k with
    | none => s
    | some i => ⟨mpiv P K s.rs s.pv.length i k, s.pv ++ [k], s.fs ++ ((if i = s.pv.length then [] else [rint (-1)]) ++ [cell K s.rs i k])⟩
  else s
noncomputable def est (P K : Nat) (rs : List RD) (k : Nat) : ES := (List.range k).foldl (estep P K) ⟨rs, [], []⟩
theorem est_succ (P K : Nat) (rs : List RD) (k : Nat) : est P K rs (k + 1) = estep P K (est P K rs k) k := by simp [est, List.range_succ, List.foldl_append]
section
variable {P K n k i : Nat} {rs : List RD} {s : ES}
theorem firstRow_none : firstRow P K rs n k = none ↔ ∀ i, n ≤ i → i < P → (cell K rs i k).xs = [] := by
  unfold firstRow
  rw [List.find?_eq_none]
  constructor
  · intro h i h1 h2
    have := h i (List.mem_range.2 h2)
    simpa [h1] using this
  · intro h i hi
    have hi := List.mem_range.1 hi
    by_cases h1 : n ≤ i
    · simp [h i h1 hi]
    · simp [h1]
theorem of_firstRow (h : firstRow P K rs n k = some i) : n ≤ i ∧ i < P ∧ (cell K rs i k).xs ≠ [] ∧ ∀ a, n ≤ a → a < i → (cell K rs a k).xs = [] := by
  unfold firstRow at h
  rw [List.find?_range_eq_some] at h
  obtain ⟨h1, h2, h3⟩ := h
  simp at h1 h2
  refine ⟨h1.1, h2, h1.2, fun a ha hai => ?_⟩
  have := h3 a hai
  simpa [ha] using this
theorem estep_done (h : ¬ (s.pv.length < P ∧ AllOk s.rs)) : estep P K s k = s := by unfold estep; rw [if_neg h]
theorem estep_none (h : firstRow P K s.rs s.pv.length k = none) : estep P K s k = s := by
  unfold estep
  rw [h]; split <;> rfl
theorem estep_some (h1 : s.pv.length < P) (h2 : AllOk s.rs) (h : firstRow P K s.rs s.pv.length k = some i) :
    estep P K s k = ⟨mpiv P K s.rs s.pv.length i k, s.pv ++ [k], s.fs ++ ((if i = s.pv.length then [] else [rint (-1)]) ++ [cell K s.rs i k])⟩ := by
  unfold estep
  rw [if_pos ⟨h1, h2⟩, h]
theorem est_done (h : ¬ ((est P K rs k).pv.length < P ∧ AllOk (est P K rs k).rs)) : ∀ m, est P K rs (k + m) = est P K rs k
  | 0 => rfl
  | m + 1 => by rw [← Nat.add_assoc, est_succ, est_done h m, estep_done h]
theorem est_stay : ∀ m, (∀ j, k ≤ j → j < k + m → firstRow P K (est P K rs k).rs (est P K rs k).pv.length j = none) → est P K rs (k + m) = est P K rs k
  | 0, _ => rfl
  | m + 1, h => by
    have e := est_stay m fun j h1 h2 => h j h1 (by omega)
    rw [← Nat.add_assoc, est_succ, e, estep_none (h _ (by omega) (by omega))]
/-- Below the used rows nothing is left before column k. -/
def Low (P K : Nat) (rs : List RD) (n k : Nat) : Prop := ∀ a b, n ≤ a → a < P → b < k → b < K → (cell K rs a b).xs = []
end
end Go.Proofs.YtegclofijaoajaaGreat
namespace Go.Proofs.YtegclofijaoajaaGreat
set_option maxRecDepth 100000
open Go.RowKit

section
variable {P K n k i : Nat} {rs : List RD}
theorem mdiv_length : (mdiv P K rs n k).length = P * K := mk_length
theorem mpiv_length : (mpiv P K rs n i k).length = P * K := mk_length
theorem cell_mswap {a b : Nat} (ha : a < P) (hb : b < K) : cell K (mswap P K rs n i) a b = cell K rs (if a = n then i else if a = i then n else a) b := cell_mk ha hb
theorem cell_mdiv {a b : Nat} (ha : a < P) (hb : b < K) : cell K (mdiv P K rs n k) a b = if a = n then rdiv (cell K rs n b) (cell K rs n k) else cell K rs a b := cell_mk ha hb
theorem cell_mclear {a b : Nat} (ha : a < P) (hb : b < K) : cell K (mclear P K rs n k) a b = clr K rs n k a b := cell_mk ha hb
theorem mok_mk {f : Nat → Nat → RD} (hP : P ≤ 24) (hK : K ≤ 24) (h : ∀ a b, a < P → b < K → (f a b).ok) : MOk P K (mk P K f) := ⟨by omega, by omega, by rw [mk_length, Int.natCast_mul], mk_all.2 h⟩
theorem mok_of {rs : List RD} (hP : P ≤ 24) (hK : K ≤ 24) (hl : rs.length = P * K) (h : AllOk rs) : MOk P K rs := ⟨by omega, by omega, by rw [hl, Int.natCast_mul], h⟩
theorem mok_plen (h : MOk P K rs) : rs.length = P * K := by have := h.2.2.1; rw [← Int.natCast_mul] at this; omega
theorem mok_24 (h : MOk P K rs) : P ≤ 24 ∧ K ≤ 24 := by have h1 := h.1; have h2 := h.2.1; omega
theorem mok_cell (h : MOk P K rs) {a b : Nat} (ha : a < P) (hb : b < K) : (cell K rs a b).ok := h.all _ (cell_mem (mok_plen h) ha hb)
theorem mswap_row {a : Nat} (hn : n < P) (hi : i < P) (ha : a < P) : (if a = n then i else if a = i then n else a) < P := by
  split
  · exact hi
  · split
    · exact hn
    · exact ha
theorem mswap_mok (h : MOk P K rs) (hn : n < P) (hi : i < P) : MOk P K (mswap P K rs n i) := mok_mk (mok_24 h).1 (mok_24 h).2 fun _ _ ha hb => mok_cell h (mswap_row hn hi ha) hb
/-- Where the step fits, its parts do. -/
theorem div_of_piv (h : MOk P K rs) (hn : n < P) (hi : i < P) (hp : AllOk (mpiv P K rs n i k)) : AllOk (mdiv P K (mswap P K rs n i) n k) := by
  have hs := mswap_mok h hn hi
  refine mk_all.2 fun a b ha hb => ?_
  by_cases e : a = n
  · have h1 := mk_all.1 hp a b ha hb
    unfold clr at h1
    rw [if_pos (.inl e), cell_mdiv ha hb] at h1
    exact h1
  · rw [if_neg e]; exact mok_cell hs ha hb
theorem Low.step (h : MOk P K rs) (hl : Low P K rs n k) (hni : n ≤ i) (hi : i < P) (hk : k < K) (hp : (cell K rs i k).xs ≠ []) (hok : AllOk (mpiv P K rs n i k)) : Low P K (mpiv P K rs n i k) (n + 1) (k + 1) := by
  have hn : n < P := by omega
  have hs := mswap_mok h hn hi
  have hdo := div_of_piv h hn hi hok
  have hd : MOk P K (mdiv P K (mswap P K rs n i) n k) := mok_of (mok_24 h).1 (mok_24 h).2 mdiv_length hdo
  have hpn : cell K (mswap P K rs n i) n k = cell K rs i k := by rw [cell_mswap hn hk, if_pos rfl]
  have hpo := mok_cell h hi hk
  intro a b ha haP hbk hbK
  show (cell K (mclear P K _ n k) a b).xs = []
  rw [cell_mclear haP hbK]
  have han : a ≠ n := by omega
  have hrow : cell K (mdiv P K (mswap P K rs n i) n k) a b = cell K (mswap P K rs n i) a b := by rw [cell_mdiv haP hbK, if_neg han]
  have hge : n ≤ (if a = n then i else if a = i then n else a) := by split; exact hni; split; exact Nat.le_refl _; omega
  by_cases hb : b < k
  · have h1 : (cell K (mswap P K rs n i) a b).xs = [] := by rw [cell_mswap haP hbK]; exact hl _ b hge (mswap_row hn hi haP) hb hbK
    have h2 : (cell K (mdiv P K (mswap P K rs n i) n k) n b).xs = [] := by
      rw [cell_mdiv hn hbK, if_pos rfl, hpn]
      have h3 : (cell K (mswap P K rs n i) n b).xs = [] := by rw [cell_mswap hn hbK, if_pos rfl]; exact hl _ b hni hi hb hbK
      rw [rdiv_nil (mok_cell hs hn hbK) hpo hp h3]; rfl
    unfold clr
    rw [if_pos (.inr (.inr h2)), hrow, h1]
  · obtain rfl : b = k := by omega
    have h2 : cell K (mdiv P K (mswap P K rs n i) n b) n b = R1 := by rw [cell_mdiv hn hbK, if_pos rfl, hpn, rdiv_self hpo hp]
    unfold clr
    by_cases h3 : (cell K (mdiv P K (mswap P K rs n i) n b) a b).xs = []
    · rw [if_pos (.inr (.inl h3)), h3]
    · have h4 : ¬ (a = n ∨ (cell K (mdiv P K (mswap P K rs n i) n b) a b).xs = [] ∨ (cell K (mdiv P K (mswap P K rs n i) n b) n b).xs = []) := by
        rw [h2]; simp [han, h3, R1]
      rw [if_neg h4, h2, rmul_one (mok_cell hd haP hbK), rsub_self (mok_cell hd haP hbK)]; rfl
/-- Nothing is found before the column from which on the rows are open. -/
theorem Low.find {j : Nat} (hl : Low P K rs n k) (h : firstRow P K rs n j = some i) (hj : j < K) : k ≤ j := by
  rcases Nat.lt_or_ge j k with h1 | h1
  · obtain ⟨h2, h3, h4, _⟩ := of_firstRow h
    exact absurd (hl i j h2 h3 h1 hj) h4
  · exact h1
end
/-- The product of the divisors, in order. -/
noncomputable def prod (fs : List RD) : RD := fs.foldl rmul R1
/-- What is known of a state of the elimination in which all numbers fit. -/
structure EOk (P K : Nat) (rs0 : List RD) (n kc : Nat) (s : ES) : Prop where
  kle : kc ≤ K
  st : est P K rs0 kc = s
  len : s.pv.length = n
  mok : MOk P K s.rs
  low : Low P K s.rs n kc
section
variable {P K n kc i k : Nat} {rs0 : List RD} {s : ES}
theorem EOk.start (h : MOk P K rs0) : EOk P K rs0 0 0 ⟨rs0, [], []⟩ := ⟨Nat.zero_le _, rfl, rfl, h, fun _ _ _ _ hb _ => by omega⟩
theorem EOk.done (h : EOk P K rs0 n kc s) (hn : ∀ j, j < K → firstRow P K s.rs n j = none) : est P K rs0 K = s := by
  have h1 := est_stay (P := P) (K := K) (k := kc) (rs := rs0) (K - kc) fun j _ h2 => by rw [h.st, h.len]; exact hn j (by have := h.kle; omega)
  rw [show kc + (K - kc) = K by have := h.kle; omega, h.st] at h1
  exact h1
theorem EOk.full (h : EOk P K rs0 n kc s) (hn : n = P) : est P K rs0 K = s := by
  have h1 := est_done (P := P) (K := K) (k := kc) (rs := rs0) (by rw [h.st, h.len, hn]; exact fun k => Nat.lt_irrefl _ k.1) (K - kc)
  rw [show kc + (K - kc) = K by have := h.kle; omega, h.st] at h1
  exact h1
/-- The next state. -/
noncomputable def enext (P K : Nat) (s : ES) (n i k : Nat) : ES := ⟨mpiv P K s.rs n i k, s.pv ++ [k], s.fs ++ ((if i = n then [] else [rint (-1)]) ++ [cell K s.rs i k])⟩
theorem EOk.at_next (h : EOk P K rs0 n kc s) (hn : n < P) (hf : firstRow P K s.rs n k = some i) (hb : ∀ j, j < k → firstRow P K s.rs n j = none) (hk : k < K) : est P K rs0 (k + 1) = enext P K s n i k := by
  have hkc := h.low.find hf hk
  have h1 := est_stay (P := P) (K := K) (k := kc) (rs := rs0) (k - kc) fun j _ h2 => by rw [h.st, h.len]; exact hb j (by omega)
  rw [show kc + (k - kc) = k by omega, h.st] at h1
  have hl := h.len
  rw [est_succ, h1, estep_some (i := i) (by rw [hl]; exact hn) h.mok.all (by rw [hl]; exact hf), hl]
  rfl
theorem EOk.next (h : EOk P K rs0 n kc s) (hn : n < P) (hf : firstRow P K s.rs n k = some i) (hb : ∀ j, j < k → firstRow P K s.rs n j = none) (hk : k < K) (hok : AllOk (mpiv P K s.rs n i k)) : EOk P K rs0 (n + 1) (k + 1) (enext P K s n i k) := by
  obtain ⟨h1, h2, h3, _⟩ := of_firstRow hf
  have hkc := h.low.find hf hk
  refine ⟨hk, h.at_next hn hf hb hk, by simp [enext, h.len], mok_of (mok_24 h.mok).1 (mok_24 h.mok).2 mpiv_length hok, ?_⟩
  refine Low.step h.mok (fun a b ha haP hbk hbK => ?_) h1 h2 hk h3 hok
  by_cases e : b < kc
  · exact h.low a b ha haP e hbK
  · exact firstRow_none.1 (hb b hbk) a ha haP
end
/-- The elimination of p rows and k columns goes through. -/
def Elim (p k : Int) (rs : List RD) : Prop := MOk p k rs ∧ AllOk (est p.toNat k.toNat rs k.toNat).rs
end Go.Proofs.YtegclofijaoajaaGreat
