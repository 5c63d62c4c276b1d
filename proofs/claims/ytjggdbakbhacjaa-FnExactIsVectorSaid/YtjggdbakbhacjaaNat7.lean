/- Contracts of the model's natural numbers: division, greatest common divisors. -/
import Derived.Test.YtjggdbakbhacjaaNat6
namespace Go.Proofs.Ytjggdbakbhacjaa
set_option maxRecDepth 100000
open Go.RowKit


set_option maxHeartbeats 400000 in
theorem spec_plain (m n : Int) (w : World) (m0 : 0 ≤ m) (m1 : m ≤ 999999999999999999) (n0 : 0 ≤ n) (n1 : n ≤ 999999999999999999) :
    Calls Try.prog 141 #[.int .i64 m, .int .i64 n] w fun e w' => BinEnd (GcdIs m n) w w' e := by
  have hG9 := gcd_le_nat m n m0 m1 n0 n1
  obtain ⟨G, hG⟩ : ∃ G, G = Int.gcd m n := ⟨_, rfl⟩
  have HG : Hid (Int.gcd m n = G) := hG.symm
  rw [← hG] at hG9
  clear hG
  go_enter Try.func141, Try.ntmps141
  go_wp2_with fail
  go_loop [0, 1] (fun x y => ∃ (a b : Int), x = .int .i64 a ∧ y = .int .i64 b ∧ 0 ≤ a ∧ a ≤ 999999999999999999 ∧ 0 ≤ b ∧ b ≤ 999999999999999999 ∧ Hid (Int.gcd a b = G)) (fun _ y => (intOf y).toNat)
  case atStart => exact ⟨m, n, rfl, rfl, m0, m1, n0, n1, HG⟩
  case round =>
    obtain ⟨a, b, rfl, rfl, a0, a1, b0, b1, hg⟩ := hrel
    by_cases hb : 0 < b
    · have hnx : Hid (Int.gcd b (a % b) = G) := by unfold Hid; rw [← gcd_mod]; exact hg.out
      have hm0 := Int.emod_nonneg a (show b ≠ 0 by omega)
      have hm1 := Int.emod_lt_of_pos a hb
      go_wp2_with fail
      go_round
      case rel => exact ⟨b, a % b, rfl, rfl, b0, b1, hm0, by omega, hnx⟩
      case measure => simp [intOf]; omega
    · obtain rfl : b = 0 := by omega
      have hfin : Hid (a = (G : Int)) := by unfold Hid; rw [← hg.out, gcd_end a a0]
      go_wp2_with fail
      refine (spec_natOf a _ (by omega)).mono ?_
      rintro e w1 ⟨rs, v, rfl, hof, hres, hb1⟩
      rw [hfin.out, ← HG.out] at hof
      have hend : Hid (BinEnd (GcdIs m n) w w1 (.returned v)) := ⟨rs, v, rfl, natGcd_natOf hof, hres, hb1⟩
      clear hof hres hb1
      go_wp2_with fail
      go_ret
      exact hend.out

/-- Two numbers whose greatest common divisor is G, in memory of the call's own. -/
def GcdOwn (G : Nat) (base : Nat) (A1 : Option Addr) (n1 c1 : Nat) (xs : List Int) (A2 : Option Addr) (n2 c2 : Nat) (ys : List Int) (wr : World) : Prop :=
  xs.length = n1 ∧ Canon xs ∧ wr.ownsRow base 3 1 (.slice A1 n1 c1) n1 (xs.map (.int .i64)) ∧ ys.length = n2 ∧ Canon ys ∧ wr.ownsRow base 3 1 (.slice A2 n2 c2) n2 (ys.map (.int .i64)) ∧ Int.gcd (val xs) (val ys) = G
theorem two_ok {xs : List Int} (h : Canon xs) (hl : xs.length ≤ 2) {v : Int} {b : Bool} (k : NatToIntIs xs v b) : v = val xs := by
  rcases k with ⟨_, _, _, h3⟩ | ⟨_, _, h3⟩
  · exact h3
  · exact absurd ⟨⟨h, by omega⟩, by have := two_limbs h.1 hl; omega⟩ h3
theorem two_bd {xs : List Int} (h : InR xs) : ∀ z ∈ xs, -9223372036854775808 ≤ z ∧ z ≤ 9223372036854775807 := fun z hz => by have := h z hz; omega
set_option maxHeartbeats 1600000 in
theorem spec_gcd (A1 : Option Addr) (n1 c1 : Nat) (xs : List Int) (A2 : Option Addr) (n2 c2 : Nat) (ys : List Int) (w : World) (h1 : xs.length = n1 ∧ n1 ≤ 60 ∧ Reads w A1 (xs.map (.int .i64))) (h2 : ys.length = n2 ∧ n2 ≤ 60 ∧ Reads w A2 (ys.map (.int .i64))) (k1 : Canon xs) (k2 : Canon ys) :
    Calls Try.prog 105 #[.slice A1 n1 c1, .slice A2 n2 c2] w fun e w' => BinEnd (GcdIs (val xs) (val ys)) w w' e := by
  obtain ⟨i0, hi, hz0, hz1, hz2⟩ := info_parts Try.infoI
  obtain ⟨hl1, hn1, hr1⟩ := h1
  obtain ⟨hl2, hn2, hr2⟩ := h2
  have HL1 : Hid ((xs.map (Value.int .i64)).length = n1) := by unfold Hid; rw [List.length_map, hl1]
  have HL2 : Hid ((ys.map (Value.int .i64)).length = n2) := by unfold Hid; rw [List.length_map, hl2]
  have HR1 : Hid (Reads (w.alloc (.cells #[] 3)) A1 (xs.map (.int .i64))) := hr1.below ((Below.refl _ _).alloc (Nat.le_refl _) _)
  have HR2 := Lib.hid hr2
  have K1 := Lib.hid k1
  have K2 := Lib.hid k2
  have L1 := Lib.hid hl1
  have L2 := Lib.hid hl2
  have h63 : 0 + n1 ≤ maxLen := by unfold maxLen; omega
  have hby : (0 + n1) * 8 ≤ 140737488355328 := by omega
  have h632 : 0 + n2 ≤ maxLen := by unfold maxLen; omega
  have hby2 : (0 + n2) * 8 ≤ 140737488355328 := by omega
  have hbs : w.heap.size ≤ (w.alloc (.cells #[] 3)).heap.size := by simp
  obtain ⟨G, hG⟩ : ∃ G, G = Int.gcd (val xs) (val ys) := ⟨_, rfl⟩
  have HG := Lib.hid hG
  clear hl1 hl2 hr1 hr2 k1 k2 hG
  go_enter Try.func105, Try.ntmps105
  go_wp2_with (at_builtin; refine wpList_append_reads rfl _ _ 22 rfl w.heap.size 3 i0 (.int .i64 0) 8 Try.underlying22 hi hz0 hz1 hz2 rfl _ _ _ rfl (World.ownsRow_lit w #[] 0 (Nat.le_refl _) (by simp) (by simp)) A1 n1 c1 (xs.map (.int .i64)) rfl HL1.out HR1.out (by simp [Value.oneCell']) h63 hby hbs ?_)
  intro v1 w1 hown hg
  obtain ⟨A5, c5, rfl⟩ := own_slice hown
  have B1 : Hid (Below w.heap.size w w1) := ((Below.refl w.heap.size w).alloc (Nat.le_refl _) _).grown hg (by simp) (fun k hk => by simp [Value.ownBlock] at hk; omega)
  have O1 : Hid (w1.ownsRow w.heap.size 3 1 (.slice A5 n1 c5) n1 (xs.map (.int .i64))) := by unfold Hid; simpa using hown
  have sz1 := B1.out.size
  have HR3 : Hid (Reads (w1.alloc (.cells #[] 3)) A2 (ys.map (.int .i64))) := HR2.out.below (B1.out.alloc sz1 _)
  have hbs2 : w.heap.size ≤ (w1.alloc (.cells #[] 3)).heap.size := by simp; omega
  clear hown hg HR1 hbs
  go_wp2_with (at_builtin; refine wpList_append_reads rfl _ _ 22 rfl w.heap.size 3 i0 (.int .i64 0) 8 Try.underlying22 hi hz0 hz1 hz2 rfl _ _ _ rfl (World.ownsRow_lit w1 #[] 0 sz1 (by simp) (by simp)) A2 n2 c2 (ys.map (.int .i64)) rfl HL2.out HR3.out (by simp [Value.oneCell']) h632 hby2 hbs2 ?_)
  intro v2 w2 hown hg
  obtain ⟨A6, c6, rfl⟩ := own_slice hown
  have hb12 : Below w1.heap.size w1 w2 := ((Below.refl w1.heap.size w1).alloc (Nat.le_refl _) _).grown hg (by simp) (fun k hk => by simp [Value.ownBlock] at hk; omega)
  have M0 : Hid (GcdOwn G w.heap.size A5 n1 c5 xs A6 n2 c6 ys w2) := ⟨L1.out, K1.out, own_below O1.out hb12, L2.out, K2.out, by simpa using hown, HG.out.symm⟩
  have BB := Lib.hid (B1.out.trans (hb12.mono sz1))
  clear hown hg hb12 HR3 hbs2 O1 B1 HR2
  go_wp2_with fail
  go_loopg [5, 6] (val ys).toNat (fun k x y wr => ∃ (B1 : Option Addr) (m1 d1 : Nat) (us : List Int) (B2 : Option Addr) (m2 d2 : Nat) (bs : List Int), x = .slice B1 m1 d1 ∧ y = .slice B2 m2 d2 ∧ m1 ≤ 60 ∧ m2 ≤ 60 ∧ Hid (GcdOwn G w.heap.size B1 m1 d1 us B2 m2 d2 bs wr) ∧ Hid ((val bs).toNat ≤ k) ∧ Hid (Below w.heap.size w wr))
  case atStart => exact ⟨A5, n1, c5, xs, A6, n2, c6, ys, rfl, rfl, hn1, hn2, M0, Nat.le_refl _, BB⟩
  case round =>
    obtain ⟨B1, m1, d1, us, B2, m2, d2, bs, rfl, rfl, hm1, hm2, hm, hk, hb⟩ := hrel
    obtain ⟨q1, q2, q3, q4, q5, q6, q7⟩ := hm.out
    have Q1 := Lib.hid q1
    have Q2 := Lib.hid q2
    have Q3 := Lib.hid q3
    have Q4 := Lib.hid q4
    have Q5 := Lib.hid q5
    have Q6 := Lib.hid q6
    have Q7 := Lib.hid q7
    clear q1 q2 q3 q4 q5 q6 q7 hm
    by_cases h0 : m2 = 0
    · have hfin : Hid (BinEnd (GcdIs (val xs) (val ys)) w wr (.returned (.slice B1 m1 d1))) := by
        have h3 := Q7.out
        rw [List.eq_nil_of_length_eq_zero (Q4.out.trans h0), HG.out] at h3
        exact ⟨us, _, rfl, ⟨Q2.out, by rw [← h3]; simp only [val]; rw [gcd_end _ (val_nonneg Q2.out.1)]⟩, ⟨by rw [Q1.out]; omega, by rw [Q1.out]; exact Q3.out⟩, hb.out⟩
      subst h0
      go_wp2_with fail
      go_ret
      exact hfin.out
    have hpos : 0 < val bs := canon_pos Q5.out (by rw [Q4.out]; omega)
    have HP := Lib.hid hpos
    have hm20 : (0 : Int) < (m2 : Int) := by omega
    by_cases hs : m1 < 3 ∧ m2 < 3
    · obtain ⟨s1, s2⟩ := hs
      have t1 := two_limbs Q2.out.1 (by rw [Q1.out]; omega)
      have t2 := two_limbs Q5.out.1 (by rw [Q4.out]; omega)
      have T1 := Lib.hid t1
      have T2 := Lib.hid t2
      have hi1 : (m1 : Int) < 3 := by omega
      have hi2 : (m2 : Int) < 3 := by omega
      clear t1 t2 hpos
      go_wp2_with fail
      refine (spec_natToInt B1 m1 d1 us _ ⟨Q1.out, by omega, Reads.of_own Q3.out, two_bd Q2.out.1⟩).mono ?_
      rintro e w3 ⟨v3, b3, rfl, hi3, hb3⟩
      obtain rfl := two_ok Q2.out (by rw [Q1.out]; omega) hi3
      have B3 := Lib.hid (hb.out.trans (hb3.mono hb.out.size))
      have Q63 := Lib.hid (own_below Q6.out hb3)
      clear hi3 hb3
      go_wp2_with fail
      refine (spec_natToInt B2 m2 d2 bs _ ⟨Q4.out, by omega, Reads.of_own Q63.out, two_bd Q5.out.1⟩).mono ?_
      rintro e w4 ⟨v4, b4, rfl, hi4, hb4⟩
      obtain rfl := two_ok Q5.out (by rw [Q4.out]; omega) hi4
      have B4 := Lib.hid (B3.out.trans (hb4.mono B3.out.size))
      clear hi4 hb4
      go_wp2_with fail
      refine (spec_plain (val us) (val bs) _ T1.out.1 T1.out.2 T2.out.1 T2.out.2).mono ?_
      rintro e w5 ⟨rs, v, rfl, hgc, hres, hb5⟩
      have hfin : Hid (BinEnd (GcdIs (val xs) (val ys)) w w5 (.returned v)) := by
        refine ⟨rs, v, rfl, ⟨hgc.1, ?_⟩, ⟨hres.1, own_lower hres.2 B4.out.size⟩, B4.out.trans (hb5.mono B4.out.size)⟩
        rw [hgc.2, Q7.out, HG.out]
      clear hgc hres hb5
      go_wp2_with fail
      go_ret
      exact hfin.out
    · have hpart : (¬ (m1 : Int) < 3) ∨ ((m1 : Int) < 3 ∧ ¬ (m2 : Int) < 3) := by omega
      have con := Lib.hid (spec_div B1 m1 d1 us B2 m2 d2 bs wr ⟨Q1.out, by omega, Reads.of_own Q3.out⟩ ⟨Q4.out, by omega, Reads.of_own Q6.out⟩ Q2.out Q5.out HP.out)
      clear hs hpos
      rcases hpart with hp | ⟨hp, hp2⟩
      all_goals
        go_wp2_with fail
        refine con.out.mono ?_
        rintro e w3 ⟨q, v, r, u, rfl, hd, hq, hr, ho1, ho2, hap, hb3⟩
        obtain ⟨A9, c9, rfl⟩ := own_slice ho2
        have hrl : r.length ≤ m2 := by
          have h1 := hd.2.1
          by_cases e : r.length ≤ m2
          · exact e
          · have := shorter_lt Q5.out.1 h1 (by rw [Q4.out]; omega); have := hd.2.2.2; omega
        have hnx : Hid (GcdOwn G w.heap.size B2 m2 d2 bs A9 r.length c9 r w3) := ⟨Q4.out, Q5.out, own_below Q6.out hb3, rfl, hd.2.1, own_lower ho2 hb.out.size, by rw [← gcd_step hd.2.2.1]; exact Q7.out⟩
        have hlt : Hid ((val r).toNat < gk) := by
          have h1 := hd.2.2.2
          have h2 := hk.out
          have h3 := HP.out
          have h4 := val_nonneg hd.2.1.1
          unfold Hid; omega
        have hb4 := Lib.hid (hb.out.trans (hb3.mono hb.out.size))
        have hr60 : r.length ≤ 60 := by omega
        clear hd hq hr ho1 ho2 hap hb3 con
        obtain ⟨rl, hrl9⟩ : ∃ rl, rl = r.length := ⟨_, rfl⟩
        rw [← hrl9] at hnx hr60 hrl ⊢
        clear hrl9
        go_wp2_with fail
        go_roundg (val r).toNat
        case measure => exact hlt.out
        case rel => exact ⟨B2, m2, d2, bs, A9, rl, c9, r, rfl, rfl, hm2, hr60, hnx, Nat.le_refl _, hb4⟩

end Go.Proofs.Ytjggdbakbhacjaa
