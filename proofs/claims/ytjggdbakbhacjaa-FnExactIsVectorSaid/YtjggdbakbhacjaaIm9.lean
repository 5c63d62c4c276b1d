/- Contracts of the program's division and greatest common divisor. -/
import Derived.Test.YtjggdbakbhacjaaIm8
import Derived.Deep.LoopGhost
namespace Go.Proofs.Ytjggdbakbhacjaa
set_option maxRecDepth 100000
open Go.RowKit

theorem DivEnd.gives {xs ys : List Int} {B : Nat} {w w' : World} {e : Ending} (h : DivEnd (val xs) (val ys) B w w' e) (k1 : Ok xs) (k2 : Ok ys) (hp : 0 < val ys) (hB : B ≤ 4194304) :
    ∃ r0 v0 r1 v1, e = .returned (.tuple #[v0, v1]) ∧ NatDivIs xs ys r0 r1 ∧ ResI w w' v0 r0 ∧ ResI w w' v1 r1 ∧ Apart v1 v0 ∧ Below w.heap.size w w' := by
  obtain ⟨q, v, r, u, he, hd, hq, hr, h1, h2, ha, hb⟩ := h
  exact ⟨q, v, r, u, he, .inl ⟨k1, k2, hp, hd⟩, ⟨by omega, h1⟩, ⟨by omega, h2⟩, ha, hb⟩
theorem natDiv_none {xs ys : List Int} (w : World) (h : ¬ (Ok xs ∧ Ok ys ∧ 0 < val ys)) :
    ∃ r0 v0 r1 v1, (Ending.returned (.tuple #[.slice none 0 0, .slice none 0 0])) = .returned (.tuple #[v0, v1]) ∧ NatDivIs xs ys r0 r1 ∧ ResI w w v0 r0 ∧ ResI w w v1 r1 ∧ Apart v1 v0 ∧ Below w.heap.size w w :=
  ⟨[], _, [], _, rfl, .inr ⟨h, rfl, rfl⟩, ⟨by simp, World.ownsRow_nil _ _ _ _⟩, ⟨by simp, World.ownsRow_nil _ _ _ _⟩, fun k hk => by simp [Value.ownBlock] at hk, Below.refl _ _⟩


theorem gcd_end (a : Int) (h : 0 ≤ a) : (Int.gcd a 0 : Int) = a := by rw [Int.gcd_zero_right]; omega
set_option maxHeartbeats 400000 in
theorem impl_gcdOfInts (m n : Int) (w : World) (m0 : 0 ≤ m) (m1 : m ≤ 9223372036854775807) (n0 : 0 ≤ n) (n1 : n ≤ 9223372036854775807) :
    Calls Try.prog 136 #[.int .i64 m, .int .i64 n] w fun e w' => e = .returned (.int .i64 (Int.gcd m n : Int)) ∧ Below w.heap.size w w' := by
  obtain ⟨G, hG⟩ : ∃ G, G = Int.gcd m n := ⟨_, rfl⟩
  have HG : Hid (Int.gcd m n = G) := hG.symm
  rw [← hG]
  clear hG
  go_enter Try.func136, Try.ntmps136
  go_wp2_with fail
  go_loopw [0, 1] (fun x y wr => ∃ (a b : Int), Hid (Below w.heap.size w wr) ∧ x = .int .i64 a ∧ y = .int .i64 b ∧ 0 ≤ a ∧ a ≤ 9223372036854775807 ∧ 0 ≤ b ∧ b ≤ 9223372036854775807 ∧ Hid (Int.gcd a b = G)) (fun _ y _ => (intOf y).toNat)
  case atStart => exact ⟨m, n, Below.refl _ _, rfl, rfl, m0, m1, n0, n1, HG⟩
  case round =>
    obtain ⟨a, b, hbel, rfl, rfl, a0, a1, b0, b1, hg⟩ := hrel
    by_cases hb : 0 < b
    · have hnx : Hid (Int.gcd b (a % b) = G) := by unfold Hid; rw [← gcd_mod]; exact hg.out
      have hm0 := Int.emod_nonneg a (show b ≠ 0 by omega)
      have hm1 := Int.emod_lt_of_pos a hb
      go_wp2_with fail
      go_quiet (fail)
      go_wp2_with fail
      go_roundw
      case rel => exact ⟨b, a % b, below_drewN hbel.out _, rfl, rfl, b0, b1, hm0, by omega, hnx⟩
      case measure => simp [intOf]; omega
    · obtain rfl : b = 0 := by omega
      have hfin : Hid (a = (G : Int)) := by unfold Hid; rw [← hg.out, gcd_end a a0]
      go_wp2_with fail
      go_ret
      exact ⟨ret_int hfin.out, hbel.out⟩

/-- Two numbers whose greatest common divisor is G, in memory. -/
def GcdMem (G : Nat) (A1 : Option Addr) (n1 : Nat) (xs : List Int) (A2 : Option Addr) (n2 : Nat) (ys : List Int) (wr : World) : Prop :=
  xs.length = n1 ∧ Canon xs ∧ Reads wr A1 (xs.map (.int .i64)) ∧ ys.length = n2 ∧ Canon ys ∧ Reads wr A2 (ys.map (.int .i64)) ∧ Int.gcd (val xs) (val ys) = G
theorem two_limbs {xs : List Int} (h : InR xs) (hl : xs.length ≤ 2) : 0 ≤ val xs ∧ val xs ≤ 999999999999999999 := by
  have h1 := val_lt h
  have h2 := pw_mono hl
  have h3 : pw 2 = 1000000000000000000 := by decide
  exact ⟨val_nonneg h, by omega⟩
theorem gcd_le_nat (a b : Int) (a0 : 0 ≤ a) (ha : a ≤ 999999999999999999) (b0 : 0 ≤ b) (hb : b ≤ 999999999999999999) : (Int.gcd a b : Int) ≤ 999999999999999999 := by
  by_cases e : b = 0
  · subst e; rw [gcd_end a a0]; exact ha
  · have h := Int.gcd_dvd_right a b
    have := Int.le_of_dvd (by omega) h
    omega
theorem natGcd_natOf {a b : Int} {r : List Int} (h : NatOfIs (Int.gcd a b : Int) r) : GcdIs a b r := ⟨h.1, by
  rw [h.2]; split
  · omega
  · rfl⟩
set_option maxHeartbeats 1600000 in
theorem impl_natGcd (A1 : Option Addr) (n1 c1 : Nat) (xs : List Int) (A2 : Option Addr) (n2 c2 : Nat) (ys : List Int) (w : World) (h1 : InI w A1 n1 xs) (h2 : InI w A2 n2 ys) :
    Calls Try.prog 102 #[.slice A1 n1 c1, .slice A2 n2 c2] w fun e w' => ∃ rs v, e = .returned v ∧ NatGcdIs xs ys rs ∧ ResI w w' v rs ∧ Below w.heap.size w w' := by
  have H1 := Lib.hid h1
  have H2 := Lib.hid h2
  clear h1 h2
  go_enter Try.func102, Try.ntmps102
  go_wp2_with fail
  refine (impl_natOk' A1 n1 c1 xs _ H1.out).mono ?_
  rintro e w' ⟨⟨b1, rfl, ho1⟩, rfl⟩
  cases b1
  · have hfin : Hid (NatGcdIs xs ys []) := .inr ⟨(fun h => by have := ho1.2 h.1; cases this), rfl⟩
    clear ho1
    go_wp2_with fail
    go_ret
    exact ⟨[], _, rfl, hfin.out, ⟨by simp, World.ownsRow_nil _ _ _ _⟩, Below.refl _ _⟩
  have k1 := Lib.hid (ho1.1 rfl)
  clear ho1
  go_wp2_with fail
  refine (impl_natOk' A2 n2 c2 ys _ H2.out).mono ?_
  rintro e w' ⟨⟨b2, rfl, ho2⟩, rfl⟩
  cases b2
  · have hfin : Hid (NatGcdIs xs ys []) := .inr ⟨(fun h => by have := ho2.2 h.2; cases this), rfl⟩
    clear ho2
    go_wp2_with fail
    go_ret
    exact ⟨[], _, rfl, hfin.out, ⟨by simp, World.ownsRow_nil _ _ _ _⟩, Below.refl _ _⟩
  have k2 := Lib.hid (ho2.1 rfl)
  clear ho2
  have hn1 : n1 ≤ 60 := by have := k1.out.2; rwa [H1.out.1] at this
  have hn2 : n2 ≤ 60 := by have := k2.out.2; rwa [H2.out.1] at this
  have M0 : Hid (GcdMem (Int.gcd (val xs) (val ys)) A1 n1 xs A2 n2 ys w) := ⟨H1.out.1, k1.out.1, H1.out.2.2.1, H2.out.1, k2.out.1, H2.out.2.2.1, rfl⟩
  have hend : ∀ rs, GcdIs (val xs) (val ys) rs → NatGcdIs xs ys rs := fun rs h => .inl ⟨k1.out, k2.out, h⟩
  have Hend := Lib.hid hend
  obtain ⟨G, hG⟩ : ∃ G, G = Int.gcd (val xs) (val ys) := ⟨_, rfl⟩
  rw [← hG] at M0
  have HG := Lib.hid hG
  clear hend hG
  go_wp2_with fail
  go_loopg [0, 1] (val ys).toNat (fun k x y wr => ∃ (B1 : Option Addr) (m1 d1 : Nat) (us : List Int) (B2 : Option Addr) (m2 d2 : Nat) (bs : List Int), x = .slice B1 m1 d1 ∧ y = .slice B2 m2 d2 ∧ m1 ≤ 60 ∧ m2 ≤ 60 ∧ Hid (GcdMem G B1 m1 us B2 m2 bs wr) ∧ Hid ((val bs).toNat ≤ k) ∧ Hid (Below w.heap.size w wr))
  case atStart => exact ⟨A1, n1, c1, xs, A2, n2, c2, ys, rfl, rfl, hn1, hn2, M0, Nat.le_refl _, Below.refl _ _⟩
  case round =>
    obtain ⟨B1, m1, d1, us, B2, m2, d2, bs, rfl, rfl, hm1, hm2, hm, hk, hb⟩ := hrel
    obtain ⟨q1, q2, q3, q4, q5, q6, q7⟩ := hm.out
    have Q1 := Lib.hid q1
    have Q2 := Lib.hid q2
    have Q3 := Lib.hid q3
    have Q4 := Lib.hid q4
    have Q5 := Lib.hid q5
    have Q6 := Lib.hid q6
    have Q7 := Lib.hid q7
    clear q1 q2 q3 q4 q5 q6 q7 hm
    by_cases h0 : m2 = 0
    · have hfin : Hid (GcdIs (val xs) (val ys) us) := by
        have h3 := Q7.out
        rw [List.eq_nil_of_length_eq_zero (Q4.out.trans h0), HG.out] at h3
        exact ⟨Q2.out, by rw [← h3]; simp only [val]; rw [gcd_end _ (val_nonneg Q2.out.1)]⟩
      subst h0
      go_wp2_with fail
      refine (clone_any B1 m1 d1 us _ Q1.out (by omega) Q3.out).mono ?_
      rintro e w1 ⟨v, rfl, ho, hb1⟩
      have hfin2 : Hid (NatGcdIs xs ys us ∧ ResI w w1 v us ∧ Below w.heap.size w w1) :=
        ⟨Hend.out _ hfin.out, ⟨by rw [Q1.out]; omega, own_lower ho hb.out.size⟩, hb.out.trans (hb1.mono hb.out.size)⟩
      clear ho hb1
      go_wp2_with fail
      go_ret
      exact ⟨us, v, rfl, hfin2.out⟩
    have hpos : 0 < val bs := canon_pos Q5.out (by rw [Q4.out]; omega)
    have HP := Lib.hid hpos
    have hm20 : (0 : Int) < (m2 : Int) := by omega
    by_cases hs : m1 ≤ 2 ∧ m2 ≤ 2
    · obtain ⟨s1, s2⟩ := hs
      have t1 := two_limbs Q2.out.1 (by rw [Q1.out]; exact s1)
      have t2 := two_limbs Q5.out.1 (by rw [Q4.out]; exact s2)
      have hg9 := gcd_le_nat _ _ t1.1 t1.2 t2.1 t2.2
      have T1 := Lib.hid t1
      have T2 := Lib.hid t2
      have hi1 : (m1 : Int) ≤ 2 := by omega
      have hi2 : (m2 : Int) ≤ 2 := by omega
      have HG9 := Lib.hid hg9
      clear t1 t2 hg9 hpos s1 s2
      go_wp2_with fail
      refine (impl_valueOf B1 m1 d1 us _ Q1.out (by omega) Q3.out Q2.out.1 (by have := T1.out; omega)).mono ?_
      rintro e w' ⟨rfl, rfl⟩
      go_wp2_with fail
      refine (impl_valueOf B2 m2 d2 bs _ Q4.out (by omega) Q6.out Q5.out.1 (by have := T2.out; omega)).mono ?_
      rintro e w' ⟨rfl, rfl⟩
      go_wp2_with fail
      refine (impl_gcdOfInts (val us) (val bs) _ T1.out.1 (by have := T1.out; omega) T2.out.1 (by have := T2.out; omega)).mono ?_
      rintro e w1 ⟨rfl, hb1⟩
      have HB1 := Lib.hid (hb.out.trans (hb1.mono hb.out.size))
      clear hb1
      go_wp2_with fail
      refine (impl_natOf _ _ (by have := HG9.out; omega)).mono ?_
      rintro e w2 ⟨rs, v, rfl, hof, hres, hb2⟩
      rw [Q7.out, HG.out] at hof
      have hfin2 : Hid (NatGcdIs xs ys rs ∧ ResI w w2 v rs ∧ Below w.heap.size w w2) :=
        ⟨Hend.out _ (natGcd_natOf hof), ⟨hres.1, own_lower hres.2 HB1.out.size⟩, HB1.out.trans (hb2.mono HB1.out.size)⟩
      clear hof hres hb2
      go_wp2_with fail
      go_ret
      exact ⟨rs, v, rfl, hfin2.out⟩
    · have hpart : (2 < (m1 : Int)) ∨ ((m1 : Int) ≤ 2 ∧ 2 < (m2 : Int)) := by omega
      have con := Lib.hid (impl_divide B1 m1 d1 us B2 m2 d2 bs wr ⟨Q1.out, by omega, Q3.out⟩ ⟨Q4.out, by omega, Q6.out⟩ Q2.out Q5.out HP.out)
      clear hs hpos
      rcases hpart with hp | ⟨hp, hp2⟩
      all_goals
        go_wp2_with fail
        refine con.out.mono ?_
        rintro e w1 ⟨q, v, r, u, rfl, hd, hq, hr, ho1, ho2, hap, hb1⟩
        obtain ⟨A9, c9, rfl⟩ := own_slice ho2
        have hrl : r.length ≤ m2 := by
          have h1 := hd.2.1
          by_cases e : r.length ≤ m2
          · exact e
          · have := shorter_lt Q5.out.1 h1 (by rw [Q4.out]; omega); have := hd.2.2.2; omega
        have hnx : Hid (GcdMem G B2 m2 bs A9 r.length r w1) := ⟨Q4.out, Q5.out, Q6.out.below hb1, rfl, hd.2.1, Reads.of_own ho2, by rw [← gcd_step hd.2.2.1]; exact Q7.out⟩
        have hlt : Hid ((val r).toNat < gk) := by
          have h1 := hd.2.2.2
          have h2 := hk.out
          have h3 := HP.out
          have h4 := val_nonneg hd.2.1.1
          unfold Hid; omega
        have hb2 := Lib.hid (hb.out.trans (hb1.mono hb.out.size))
        have hr60 : r.length ≤ 60 := by omega
        clear hd hq hr ho1 ho2 hap hb1 con
        obtain ⟨rl, hrl9⟩ : ∃ rl, rl = r.length := ⟨_, rfl⟩
        rw [← hrl9] at hnx hr60 hrl ⊢
        clear hrl9
        go_wp2_with fail
        go_roundg (val r).toNat
        case measure => exact hlt.out
        case rel => exact ⟨B2, m2, d2, bs, A9, rl, c9, r, rfl, rfl, hm2, hr60, hnx, Nat.le_refl _, hb2⟩
end Go.Proofs.Ytjggdbakbhacjaa
