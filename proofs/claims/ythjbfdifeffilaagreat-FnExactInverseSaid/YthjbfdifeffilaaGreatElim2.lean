/- Elimination as data: one step keeps what lies to the left and below 0; the product of the divisors. No program is named here. -/
import Derived.Test.YthjbfdifeffilaaGreatElim
namespace Go.Proofs.YthjbfdifeffilaaGreat
set_option maxRecDepth 100000
open Go.RowKit

section
variable {P K n k i : Nat} {rs : List RD}
theorem mdiv_length : (mdiv P K rs n k).length = P * K := mk_length
theorem mpiv_length : (mpiv P K rs n i k).length = P * K := mk_length
theorem cell_mswap {a b : Nat} (ha : a < P) (hb : b < K) : cell K (mswap P K rs n i) a b = cell K rs (if a = n then i else if a = i then n else a) b := cell_mk ha hb
theorem cell_mdiv {a b : Nat} (ha : a < P) (hb : b < K) : cell K (mdiv P K rs n k) a b = if a = n then rdiv (cell K rs n b) (cell K rs n k) else cell K rs a b := cell_mk ha hb
theorem cell_mclear {a b : Nat} (ha : a < P) (hb : b < K) : cell K (mclear P K rs n k) a b = clr K rs n k a b := cell_mk ha hb
theorem mswap_self (hl : rs.length = P * K) : mswap P K rs n n = rs := (mk_of hl fun a b _ _ => by
  by_cases h : a = n
  · rw [if_pos h, h]
  · rw [if_neg h, if_neg h]).symm
theorem mok_mk {f : Nat → Nat → RD} (hP : P ≤ 24) (hK : K ≤ 24) (h : ∀ a b, a < P → b < K → (f a b).ok) : MOk P K (mk P K f) := ⟨by omega, by omega, by rw [mk_length, Int.natCast_mul], mk_all.2 h⟩
theorem mok_of {rs : List RD} (hP : P ≤ 24) (hK : K ≤ 24) (hl : rs.length = P * K) (h : AllOk rs) : MOk P K rs := ⟨by omega, by omega, by rw [hl, Int.natCast_mul], h⟩
theorem mok_plen (h : MOk P K rs) : rs.length = P * K := by have := h.2.2.1; rw [← Int.natCast_mul] at this; omega
theorem mok_24 (h : MOk P K rs) : P ≤ 24 ∧ K ≤ 24 := by have h1 := h.1; have h2 := h.2.1; omega
theorem mok_cell (h : MOk P K rs) {a b : Nat} (ha : a < P) (hb : b < K) : (cell K rs a b).ok := h.all _ (cell_mem (mok_plen h) ha hb)
theorem mswap_row {a : Nat} (hn : n < P) (hi : i < P) (ha : a < P) : (if a = n then i else if a = i then n else a) < P := by
  split
  · exact hi
  · split
    · exact hn
    · exact ha
theorem mswap_mok (h : MOk P K rs) (hn : n < P) (hi : i < P) : MOk P K (mswap P K rs n i) := mok_mk (mok_24 h).1 (mok_24 h).2 fun _ _ ha hb => mok_cell h (mswap_row hn hi ha) hb
/-- Where the step fits, its parts do. -/
theorem div_of_piv (h : MOk P K rs) (hn : n < P) (hi : i < P) (hp : AllOk (mpiv P K rs n i k)) : AllOk (mdiv P K (mswap P K rs n i) n k) := by
  have hs := mswap_mok h hn hi
  refine mk_all.2 fun a b ha hb => ?_
  by_cases e : a = n
  · have h1 := mk_all.1 hp a b ha hb
    unfold clr at h1
    rw [if_pos (.inl e), cell_mdiv ha hb] at h1
    exact h1
  · rw [if_neg e]; exact mok_cell hs ha hb
theorem Low.step (h : MOk P K rs) (hl : Low P K rs n k) (hni : n ≤ i) (hi : i < P) (hk : k < K) (hp : (cell K rs i k).xs ≠ []) (hok : AllOk (mpiv P K rs n i k)) : Low P K (mpiv P K rs n i k) (n + 1) (k + 1) := by
  have hn : n < P := by omega
  have hs := mswap_mok h hn hi
  have hdo := div_of_piv h hn hi hok
  have hd : MOk P K (mdiv P K (mswap P K rs n i) n k) := mok_of (mok_24 h).1 (mok_24 h).2 mdiv_length hdo
  have hpn : cell K (mswap P K rs n i) n k = cell K rs i k := by rw [cell_mswap hn hk, if_pos rfl]
  have hpo := mok_cell h hi hk
  intro a b ha haP hbk hbK
  show (cell K (mclear P K _ n k) a b).xs = []
  rw [cell_mclear haP hbK]
  have han : a ≠ n := by omega
  have hrow : cell K (mdiv P K (mswap P K rs n i) n k) a b = cell K (mswap P K rs n i) a b := by rw [cell_mdiv haP hbK, if_neg han]
  have hge : n ≤ (if a = n then i else if a = i then n else a) := by split; exact hni; split; exact Nat.le_refl _; omega
  by_cases hb : b < k
  · have h1 : (cell K (mswap P K rs n i) a b).xs = [] := by rw [cell_mswap haP hbK]; exact hl _ b hge (mswap_row hn hi haP) hb hbK
    have h2 : (cell K (mdiv P K (mswap P K rs n i) n k) n b).xs = [] := by
      rw [cell_mdiv hn hbK, if_pos rfl, hpn]
      have h3 : (cell K (mswap P K rs n i) n b).xs = [] := by rw [cell_mswap hn hbK, if_pos rfl]; exact hl _ b hni hi hb hbK
      rw [rdiv_nil (mok_cell hs hn hbK) hpo hp h3]; rfl
    unfold clr
    rw [if_pos (.inr (.inr h2)), hrow, h1]
  · obtain rfl : b = k := by omega
    have h2 : cell K (mdiv P K (mswap P K rs n i) n b) n b = R1 := by rw [cell_mdiv hn hbK, if_pos rfl, hpn, rdiv_self hpo hp]
    unfold clr
    by_cases h3 : (cell K (mdiv P K (mswap P K rs n i) n b) a b).xs = []
    · rw [if_pos (.inr (.inl h3)), h3]
    · have h4 : ¬ (a = n ∨ (cell K (mdiv P K (mswap P K rs n i) n b) a b).xs = [] ∨ (cell K (mdiv P K (mswap P K rs n i) n b) n b).xs = []) := by
        rw [h2]; simp [han, h3, R1]
      rw [if_neg h4, h2, rmul_one (mok_cell hd haP hbK), rsub_self (mok_cell hd haP hbK)]; rfl
/-- Nothing is found before the column from which on the rows are open. -/
theorem Low.find {j : Nat} (hl : Low P K rs n k) (h : firstRow P K rs n j = some i) (hj : j < K) : k ≤ j := by
  rcases Nat.lt_or_ge j k with h1 | h1
  · obtain ⟨h2, h3, h4, _⟩ := of_firstRow h
    exact absurd (hl i j h2 h3 h1 hj) h4
  · exact h1
end
/-- The product of the divisors, in order. -/
noncomputable def prod (fs : List RD) : RD := fs.foldl rmul R1
theorem prod_snoc (fs : List RD) (x : RD) : prod (fs ++ [x]) = rmul (prod fs) x := by simp [prod, List.foldl_append]
theorem foldl_good : ∀ (fs : List RD) (x : RD), x.ok ∨ x = RD.zero → (fs.foldl rmul x).ok ∨ fs.foldl rmul x = RD.zero
  | [], _, h => h
  | y :: fs, x, _ => foldl_good fs _ (rmul_good x y)
theorem prod_good (fs : List RD) : (prod fs).ok ∨ prod fs = RD.zero := foldl_good fs _ (.inl R1_ok)
theorem prod_step {fs : List RD} {p : RD} {n i : Nat} : prod (fs ++ ((if i = n then [] else [rint (-1)]) ++ [p])) = rmul (if i = n then prod fs else rneg (prod fs)) p := by
  rw [← List.append_assoc, prod_snoc]
  by_cases h : i = n
  · rw [if_pos h, if_pos h, List.append_nil]
  · rw [if_neg h, if_neg h, prod_snoc, rneg_mul (prod_good fs)]
/-- What is known of a state of the elimination in which all numbers fit. -/
structure EOk (P K : Nat) (rs0 : List RD) (n kc : Nat) (s : ES) : Prop where
  kle : kc ≤ K
  st : est P K rs0 kc = s
  len : s.pv.length = n
  mok : MOk P K s.rs
  low : Low P K s.rs n kc
section
variable {P K n kc i k : Nat} {rs0 : List RD} {s : ES}
theorem EOk.start (h : MOk P K rs0) : EOk P K rs0 0 0 ⟨rs0, [], []⟩ := ⟨Nat.zero_le _, rfl, rfl, h, fun _ _ _ _ hb _ => by omega⟩
theorem EOk.done (h : EOk P K rs0 n kc s) (hn : ∀ j, j < K → firstRow P K s.rs n j = none) : est P K rs0 K = s := by
  have h1 := est_stay (P := P) (K := K) (k := kc) (rs := rs0) (K - kc) fun j _ h2 => by rw [h.st, h.len]; exact hn j (by have := h.kle; omega)
  rw [show kc + (K - kc) = K by have := h.kle; omega, h.st] at h1
  exact h1
theorem EOk.full (h : EOk P K rs0 n kc s) (hn : n = P) : est P K rs0 K = s := by
  have h1 := est_done (P := P) (K := K) (k := kc) (rs := rs0) (by rw [h.st, h.len, hn]; exact fun k => Nat.lt_irrefl _ k.1) (K - kc)
  rw [show kc + (K - kc) = K by have := h.kle; omega, h.st] at h1
  exact h1
/-- The next state. -/
noncomputable def enext (P K : Nat) (s : ES) (n i k : Nat) : ES := ⟨mpiv P K s.rs n i k, s.pv ++ [k], s.fs ++ ((if i = n then [] else [rint (-1)]) ++ [cell K s.rs i k])⟩
theorem EOk.at_next (h : EOk P K rs0 n kc s) (hn : n < P) (hf : firstRow P K s.rs n k = some i) (hb : ∀ j, j < k → firstRow P K s.rs n j = none) (hk : k < K) : est P K rs0 (k + 1) = enext P K s n i k := by
  have hkc := h.low.find hf hk
  have h1 := est_stay (P := P) (K := K) (k := kc) (rs := rs0) (k - kc) fun j _ h2 => by rw [h.st, h.len]; exact hb j (by omega)
  rw [show kc + (k - kc) = k by omega, h.st] at h1
  have hl := h.len
  rw [est_succ, h1, estep_some (i := i) (by rw [hl]; exact hn) h.mok.all (by rw [hl]; exact hf), hl]
  rfl
theorem EOk.next (h : EOk P K rs0 n kc s) (hn : n < P) (hf : firstRow P K s.rs n k = some i) (hb : ∀ j, j < k → firstRow P K s.rs n j = none) (hk : k < K) (hok : AllOk (mpiv P K s.rs n i k)) : EOk P K rs0 (n + 1) (k + 1) (enext P K s n i k) := by
  obtain ⟨h1, h2, h3, _⟩ := of_firstRow hf
  have hkc := h.low.find hf hk
  refine ⟨hk, h.at_next hn hf hb hk, by simp [enext, h.len], mok_of (mok_24 h.mok).1 (mok_24 h.mok).2 mpiv_length hok, ?_⟩
  refine Low.step h.mok (fun a b ha haP hbk hbK => ?_) h1 h2 hk h3 hok
  by_cases e : b < kc
  · exact h.low a b ha haP e hbK
  · exact firstRow_none.1 (hb b hbk) a ha haP
theorem EOk.bad (h : EOk P K rs0 n kc s) (hn : n < P) (hf : firstRow P K s.rs n k = some i) (hb : ∀ j, j < k → firstRow P K s.rs n j = none) (hk : k < K) (hno : ¬ AllOk (mpiv P K s.rs n i k)) : ¬ AllOk (est P K rs0 K).rs := by
  have h1 := h.at_next hn hf hb hk
  have h2 := est_done (P := P) (K := K) (k := k + 1) (rs := rs0) (by rw [h1]; exact fun k => hno k.2) (K - (k + 1))
  rw [show k + 1 + (K - (k + 1)) = K by omega, h1] at h2
  rw [h2]; exact hno
end
/-- The elimination of p rows and k columns goes through. -/
def Elim (p k : Int) (rs : List RD) : Prop := MOk p k rs ∧ AllOk (est p.toNat k.toNat rs k.toNat).rs
end Go.Proofs.YthjbfdifeffilaaGreat
