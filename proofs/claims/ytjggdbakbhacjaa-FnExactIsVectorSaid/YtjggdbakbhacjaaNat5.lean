/- Contracts of the model's natural numbers: one digit of a long division. -/
import Derived.Test.YtjggdbakbhacjaaNat4
import Derived.Test.YtjggdbakbhacjaaApp
namespace Go.Proofs.Ytjggdbakbhacjaa
set_option maxRecDepth 100000
open Go.RowKit

def DigEnd (R D : Int) (e : Ending) : Prop := ∃ q, e = .returned (.int .i64 q) ∧ q * D ≤ R ∧ R < (q + 1) * D ∧ 0 ≤ q ∧ q ≤ 999999999

theorem dig_start {R D P x t : Int} (hP : 0 < P) (e1 : x * P ≤ R) (e2 : R < (x + 1) * P) (e3 : t * P ≤ D) (e4 : D ≤ (t + 1) * P) (x0 : 0 ≤ x) (t1 : 1 ≤ t) (hlt : R < 1000000000 * D) (hD : 0 < D) :
    Dig R D (x / (t + 1)) (if x / t < 999999999 then x / t else 999999999) := by
  have g1 := (guess (q := 0) hP e1 e2 e3 e4 x0 t1).1
  have g2 := lt_guess hP e2 e3 x0 t1
  have g3 := (guess (q := 0) hP e1 e2 e3 e4 x0 t1).2.2
  have up : ∀ hi, R < (hi + 1) * D → x / (t + 1) ≤ hi := fun hi h => by
    have : x / (t + 1) < hi + 1 := Int.lt_of_mul_lt_mul_right (a := D) (by omega) (by omega)
    omega
  split
  · exact ⟨g1, g2, g3, up _ g2, by omega⟩
  · exact ⟨g1, by omega, g3, up _ (by omega), by omega⟩

set_option maxHeartbeats 1600000 in
theorem spec_digit (A1 : Option Addr) (n1 c1 : Nat) (rs : List Int) (A2 : Option Addr) (n c2 : Nat) (bs : List Int) (w : World) (h1 : rs.length = n1 ∧ n1 ≤ 1000000 ∧ Reads w A1 (rs.map (.int .i64))) (h2 : bs.length = n ∧ n ≤ 1000000 ∧ Reads w A2 (bs.map (.int .i64)))
    (k1 : Canon rs) (k2 : Canon bs) (hb0 : 0 < val bs) (hle : val bs ≤ val rs) (hlt : val rs < 1000000000 * val bs) :
    Calls Try.prog 158 #[.slice A1 n1 c1, .slice A2 n c2] w fun e w' => DigEnd (val rs) (val bs) e ∧ Below w.heap.size w w' := by
  obtain ⟨hn1, hb1, hr1⟩ := h1
  obtain ⟨hn2, hb2, hr2⟩ := h2
  have hnpos : 0 < n := by
    rcases Nat.eq_zero_or_pos n with e | e
    · rw [List.eq_nil_of_length_eq_zero (hn2.trans e)] at hb0; simp [val] at hb0
    · exact e
  obtain ⟨m, rfl⟩ : ∃ m, n = m + 1 := ⟨n - 1, by omega⟩
  have hge : m + 1 ≤ n1 := by have := longer_ge k2 k1.1 hle; omega
  have hmx : m < rs.length := by omega
  have hmb : m < bs.length := by omega
  obtain ⟨x, hx⟩ : ∃ x, x = val (rs.drop m) := ⟨_, rfl⟩
  obtain ⟨t, ht⟩ : ∃ t, t = bs[m] := ⟨_, rfl⟩
  obtain ⟨a, ha⟩ : ∃ a, a = rs[m] := ⟨_, rfl⟩
  have htd : val (bs.drop m) = t := by
    rw [val_drop_at hmb, List.drop_eq_nil_of_le (by omega), ← ht]; simp [val]
  have ht1 : 1 ≤ t := by
    have hr := k2.1 _ (List.getElem_mem hmb)
    have hl := last_at hn2
    have : t ≠ 0 := fun e => k2.2 (by rw [hl, ← ht, e])
    rw [← ht] at hr; omega
  have ht2 : t ≤ 999999999 := by have hr := k2.1 _ (List.getElem_mem hmb); rw [← ht] at hr; exact hr.2
  have har := k1.1 _ (List.getElem_mem hmx)
  rw [← ha] at har
  obtain ⟨a0, a1⟩ := har
  have tb := take_bd k2.1 m (by omega)
  have tr := take_bd k1.1 m (by omega)
  have sb := val_split bs m (by omega)
  have sr := val_split rs m (by omega)
  rw [htd] at sb
  rw [← hx] at sr
  have hP := pw_pos m
  have hx0 : 0 ≤ x := by rw [hx]; exact val_nonneg (k1.1.drop m)
  have e1 : x * pw m ≤ val rs := by rw [Int.mul_comm]; omega
  have e2 : val rs < (x + 1) * pw m := by rw [Int.add_mul, Int.mul_comm x]; omega
  have e3 : t * pw m ≤ val bs := by rw [Int.mul_comm]; omega
  have e4 : val bs ≤ (t + 1) * pw m := by rw [Int.add_mul, Int.mul_comm t]; omega
  have hD := dig_start hP e1 e2 e3 e4 hx0 ht1 hlt hb0
  have hub : n1 ≤ m + 1 + 1 := by
    have h1 := val_lt k2.1
    rw [hn2] at h1
    have h2 := short_of (k := m + 1 + 1) k1 (by rw [pw]; omega)
    rw [hn1] at h2; exact h2
  obtain ⟨o2, c9, rfl, hbs2, hc2⟩ := hr2.at_ (by simp; omega)
  have gt2 : w.cell? ⟨o2, c9 + m, none⟩ = some (.int .i64 t) := (hc2 m (by simpa using hmb)).trans (by simp [ht])
  obtain ⟨o1, c8, rfl, hbs1, hc1⟩ := hr1.at_ (by simp; omega)
  have ga1 : w.cell? ⟨o1, c8 + m, none⟩ = some (.int .i64 a) := (hc1 m (by simpa using hmx)).trans (by simp [ha])
  have hsub : ((m + 1 : Nat) : Int) - 1 = (m : Int) := by omega
  have hm0 : (0 : Int) ≤ (m : Int) := by omega
  have Hn1 := Lib.hid hn1
  have Hn2 := Lib.hid hn2
  have Hr1 := Lib.hid hr1
  have Hr2 := Lib.hid hr2
  have K1 := Lib.hid k1
  have K2 := Lib.hid k2
  have HP := Lib.hid hb0
  by_cases h9 : n1 = m + 1
  · have hxa : x = a := by rw [hx, val_drop_at hmx, List.drop_eq_nil_of_le (show rs.length ≤ m + 1 by omega), ← ha]; simp [val]
    subst hxa
    have HD := Lib.hid hD
    subst h9
    have hng : ¬ ((m : Int) + 1 < (m : Int) + 1) := by omega
    by_cases hmn : x / t < 999999999
    all_goals
      have HD1 : Hid (Dig (val rs) (val bs) (x / (t + 1)) (if x / t < 999999999 then x / t else 999999999)) := HD
      first | rw [if_pos hmn] at HD1 | rw [if_neg hmn] at HD1
      clear hn1 hn2 hr1 hr2 k1 k2 hb0 hD hx ht ha tb tr sb sr e1 e2 e3 e4 hc1 hc2 htd hle hlt HD
      go_enter Try.func158, Try.ntmps158
      go_wp2_with fail
      go_loopw [7, 8] (fun x y wr => ∃ (lo hi : Int), x = .int .i64 lo ∧ y = .int .i64 hi ∧ 0 ≤ lo ∧ lo ≤ hi ∧ hi ≤ 999999999 ∧ Hid (Dig (val rs) (val bs) lo hi) ∧ Hid (Below w.heap.size w wr)) (fun x y _ => (intOf y - intOf x).toNat)
      case atStart => exact ⟨_, _, rfl, rfl, HD1.out.2.2.1, HD1.out.2.2.2.1, HD1.out.2.2.2.2, HD1, Below.refl _ _⟩
      case round =>
        obtain ⟨lo, hi, rfl, rfl, l0, l1, l2, hd, hb⟩ := hrel
        by_cases hlh : lo < hi
        · obtain ⟨q, hq⟩ : ∃ q, q = (lo + hi + 1) / 2 := ⟨_, rfl⟩
          have q1 : lo < q := by omega
          have q2 : q ≤ hi := by omega
          have Hq := Lib.hid hq
          clear hq
          go_wp2_with fail
          rw [← Hq.out]
          refine (spec_natOf q _ (by omega)).mono ?_
          rintro e w1 ⟨qs, v, rfl, hof, ⟨_, ho⟩, hb1⟩
          obtain ⟨A3, c3, rfl⟩ := own_slice ho
          have hqv : val qs = q := by rw [hof.2, if_neg (by omega)]
          have hql := short_of (k := 1) hof.1 (by rw [hqv]; simp only [pw]; omega)
          have HQ : Hid (InR qs ∧ val qs = q) := ⟨hof.1.1, hqv⟩
          obtain ⟨N, hN⟩ : ∃ N, N = qs.length := ⟨_, rfl⟩
          rw [← hN] at ho hql ⊢
          have HN := Lib.hid hN.symm
          have HO := Lib.hid (Reads.of_own ho)
          have HB1 := Lib.hid (hb.out.trans (hb1.mono hb.out.size))
          clear hof ho hqv hN hb1
          go_wp2_with fail
          refine (spec_mul _ (m + 1) c2 bs A3 N c3 qs _ ⟨Hn2.out, by omega, Hr2.out.below HB1.out⟩ ⟨HN.out, by omega, HO.out⟩ K2.out.1 HQ.out.1).mono ?_
          rintro e w2 ⟨pr, A4, c4, rfl, hpc, hpv, hpl, hpo, hb2⟩
          have HPC : Hid (Canon pr ∧ val pr = val bs * q) := ⟨hpc, by rw [hpv, HQ.out.2]⟩
          obtain ⟨N2, hN2⟩ : ∃ N2, N2 = pr.length := ⟨_, rfl⟩
          rw [← hN2] at hpo hpl ⊢
          have HN2 := Lib.hid hN2.symm
          have HO2 := Lib.hid (Reads.of_own hpo)
          have HB2 := Lib.hid (HB1.out.trans (hb2.mono HB1.out.size))
          clear hpc hpv hpo hN2 hb2
          go_wp2_with fail
          refine (spec_cmp A4 N2 c4 pr _ _ c1 rs _ ⟨HN2.out, by omega, HO2.out⟩ ⟨Hn1.out, by omega, Hr1.out.below HB2.out⟩ HPC.out.1 K1.out).mono ?_
          rintro e w3 ⟨rfl, hb3⟩
          have HB3 := Lib.hid (HB2.out.trans (hb3.mono HB2.out.size))
          rw [HPC.out.2, Int.mul_comm]
          clear hb3
          by_cases hqr : q * val bs ≤ val rs
          · have hnx := Lib.hid (hd.out.up q1 q2 hqr)
            have hcm : cmpV (q * val bs) (val rs) ≤ 0 := by
              by_cases e : q * val bs = val rs
              · rw [cmpV_eq e]; omega
              · rw [cmpV_lt (by omega)]; omega
            obtain ⟨cm, hcm2⟩ : ∃ cm, cm = cmpV (q * val bs) (val rs) := ⟨_, rfl⟩
            rw [← hcm2] at hcm ⊢
            clear hqr hcm2
            go_wp2_with fail
            go_roundw
            case rel => exact ⟨q, hi, rfl, rfl, by omega, by omega, by omega, hnx, HB3⟩
            case measure => simp [intOf]; omega
          · have hnx := Lib.hid (hd.out.down q1 q2 (by omega))
            rw [cmpV_gt (by omega)]
            clear hqr
            go_wp2_with fail
            go_roundw
            case rel => exact ⟨lo, q - 1, rfl, rfl, by omega, by omega, by omega, hnx, HB3⟩
            case measure => simp [intOf]; omega
        · obtain rfl : lo = hi := by omega
          have hfin : Hid (DigEnd (val rs) (val bs) (.returned (.int .i64 lo))) := ⟨lo, rfl, hd.out.1, hd.out.2.1, l0, l2⟩
          go_wp2_with fail
          go_ret
          exact ⟨hfin.out, hb.out⟩
  · obtain rfl : n1 = m + 1 + 1 := by omega
    have hmx2 : m + 1 < rs.length := by omega
    obtain ⟨a2, ha2⟩ : ∃ a2, a2 = rs[m + 1] := ⟨_, rfl⟩
    have har2 := k1.1 _ (List.getElem_mem hmx2)
    rw [← ha2] at har2
    obtain ⟨a20, a21⟩ := har2
    have ga2 : w.cell? ⟨o1, c8 + (m + 1), none⟩ = some (.int .i64 a2) := (hc1 (m + 1) (by simpa using hmx2)).trans (by simp [ha2])
    have hxa : x = a + a2 * 1000000000 := by
      rw [hx, val_drop_at hmx, val_drop_at hmx2, List.drop_eq_nil_of_le (show rs.length ≤ m + 1 + 1 by omega), ← ha, ← ha2]; simp only [val]; omega
    subst hxa
    have HD := Lib.hid hD
    have hm1 : (0 : Int) ≤ (m : Int) + 1 := by omega
    have hm2 : (m : Int) + 1 < (m : Int) + 1 + 1 := by omega
    have hm3 : ((m : Int) + 1).toNat = m + 1 := by omega
    by_cases hmn : (a + a2 * 1000000000) / t < 999999999
    all_goals
      have HD1 : Hid (Dig (val rs) (val bs) ((a + a2 * 1000000000) / (t + 1)) (if (a + a2 * 1000000000) / t < 999999999 then (a + a2 * 1000000000) / t else 999999999)) := HD
      first | rw [if_pos hmn] at HD1 | rw [if_neg hmn] at HD1
      clear hn1 hn2 hr1 hr2 k1 k2 hb0 hD hx ht ha ha2 tb tr sb sr e1 e2 e3 e4 hc1 hc2 htd hle hlt HD
      go_enter Try.func158, Try.ntmps158
      go_wp2_with fail
      go_loopw [7, 8] (fun x y wr => ∃ (lo hi : Int), x = .int .i64 lo ∧ y = .int .i64 hi ∧ 0 ≤ lo ∧ lo ≤ hi ∧ hi ≤ 999999999 ∧ Hid (Dig (val rs) (val bs) lo hi) ∧ Hid (Below w.heap.size w wr)) (fun x y _ => (intOf y - intOf x).toNat)
      case atStart => exact ⟨_, _, rfl, rfl, HD1.out.2.2.1, HD1.out.2.2.2.1, HD1.out.2.2.2.2, HD1, Below.refl _ _⟩
      case round =>
        obtain ⟨lo, hi, rfl, rfl, l0, l1, l2, hd, hb⟩ := hrel
        by_cases hlh : lo < hi
        · obtain ⟨q, hq⟩ : ∃ q, q = (lo + hi + 1) / 2 := ⟨_, rfl⟩
          have q1 : lo < q := by omega
          have q2 : q ≤ hi := by omega
          have Hq := Lib.hid hq
          clear hq
          go_wp2_with fail
          rw [← Hq.out]
          refine (spec_natOf q _ (by omega)).mono ?_
          rintro e w1 ⟨qs, v, rfl, hof, ⟨_, ho⟩, hb1⟩
          obtain ⟨A3, c3, rfl⟩ := own_slice ho
          have hqv : val qs = q := by rw [hof.2, if_neg (by omega)]
          have hql := short_of (k := 1) hof.1 (by rw [hqv]; simp only [pw]; omega)
          have HQ : Hid (InR qs ∧ val qs = q) := ⟨hof.1.1, hqv⟩
          obtain ⟨N, hN⟩ : ∃ N, N = qs.length := ⟨_, rfl⟩
          rw [← hN] at ho hql ⊢
          have HN := Lib.hid hN.symm
          have HO := Lib.hid (Reads.of_own ho)
          have HB1 := Lib.hid (hb.out.trans (hb1.mono hb.out.size))
          clear hof ho hqv hN hb1
          go_wp2_with fail
          refine (spec_mul _ (m + 1) c2 bs A3 N c3 qs _ ⟨Hn2.out, by omega, Hr2.out.below HB1.out⟩ ⟨HN.out, by omega, HO.out⟩ K2.out.1 HQ.out.1).mono ?_
          rintro e w2 ⟨pr, A4, c4, rfl, hpc, hpv, hpl, hpo, hb2⟩
          have HPC : Hid (Canon pr ∧ val pr = val bs * q) := ⟨hpc, by rw [hpv, HQ.out.2]⟩
          obtain ⟨N2, hN2⟩ : ∃ N2, N2 = pr.length := ⟨_, rfl⟩
          rw [← hN2] at hpo hpl ⊢
          have HN2 := Lib.hid hN2.symm
          have HO2 := Lib.hid (Reads.of_own hpo)
          have HB2 := Lib.hid (HB1.out.trans (hb2.mono HB1.out.size))
          clear hpc hpv hpo hN2 hb2
          go_wp2_with fail
          refine (spec_cmp A4 N2 c4 pr _ _ c1 rs _ ⟨HN2.out, by omega, HO2.out⟩ ⟨Hn1.out, by omega, Hr1.out.below HB2.out⟩ HPC.out.1 K1.out).mono ?_
          rintro e w3 ⟨rfl, hb3⟩
          have HB3 := Lib.hid (HB2.out.trans (hb3.mono HB2.out.size))
          rw [HPC.out.2, Int.mul_comm]
          clear hb3
          by_cases hqr : q * val bs ≤ val rs
          · have hnx := Lib.hid (hd.out.up q1 q2 hqr)
            have hcm : cmpV (q * val bs) (val rs) ≤ 0 := by
              by_cases e : q * val bs = val rs
              · rw [cmpV_eq e]; omega
              · rw [cmpV_lt (by omega)]; omega
            obtain ⟨cm, hcm2⟩ : ∃ cm, cm = cmpV (q * val bs) (val rs) := ⟨_, rfl⟩
            rw [← hcm2] at hcm ⊢
            clear hqr hcm2
            go_wp2_with fail
            go_roundw
            case rel => exact ⟨q, hi, rfl, rfl, by omega, by omega, by omega, hnx, HB3⟩
            case measure => simp [intOf]; omega
          · have hnx := Lib.hid (hd.out.down q1 q2 (by omega))
            rw [cmpV_gt (by omega)]
            clear hqr
            go_wp2_with fail
            go_roundw
            case rel => exact ⟨lo, q - 1, rfl, rfl, by omega, by omega, by omega, hnx, HB3⟩
            case measure => simp [intOf]; omega
        · obtain rfl : lo = hi := by omega
          have hfin : Hid (DigEnd (val rs) (val bs) (.returned (.int .i64 lo))) := ⟨lo, rfl, hd.out.1, hd.out.2.1, l0, l2⟩
          go_wp2_with fail
          go_ret
          exact ⟨hfin.out, hb.out⟩
end Go.Proofs.Ytjggdbakbhacjaa
