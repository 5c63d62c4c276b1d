/- Contracts of the program's long division. -/
import Derived.Test.YtjggdbakbhacjaaIm7
import Derived.Test.YtjggdbakbhacjaaApp
namespace Go.Proofs.Ytjggdbakbhacjaa
set_option maxRecDepth 100000
open Go.RowKit

theorem top_pos {l : List Int} {m : Nat} (h : InR l) (hl : m < l.length) (hl2 : l.length ≤ m + 1) (hv : pw m ≤ val l) : 1 ≤ l[m] := by
  have h0 := h _ (List.getElem_mem hl)
  have h1 := val_split l m (by omega)
  have h2 := take_bd h m (by omega)
  have h3 := val_drop_at hl
  rw [List.drop_eq_nil_of_le hl2] at h3
  by_cases e : l[m] = 0
  · rw [h3, e] at h1; simp [val] at h1; omega
  · omega
/-- What a division ends in: quotient and remainder, in memory of their own. -/
def DivEnd (a b : Int) (B : Nat) (w w' : World) (e : Ending) : Prop := ∃ q v r u, e = .returned (.tuple #[v, u]) ∧ DivIs a b q r ∧ q.length ≤ B ∧ r.length ≤ B ∧ w'.ownsRow w.heap.size 3 1 v q.length (q.map (.int .i64)) ∧ w'.ownsRow w.heap.size 3 1 u r.length (r.map (.int .i64)) ∧ Apart u v ∧ Below w.heap.size w w'
theorem scale_bd {t : Int} (t1 : 1 ≤ t) (t2 : t ≤ 999999999) : 1 ≤ 1000000000 / (t + 1) ∧ 1000000000 / (t + 1) ≤ 500000000 ∧ (t + 1) * (1000000000 / (t + 1)) ≤ 1000000000 := by
  have h1 : 1000000000 / (t + 1) * (t + 1) ≤ 1000000000 := Int.ediv_mul_le _ (by omega)
  have h2 : 1 ≤ 1000000000 / (t + 1) := (Int.le_ediv_iff_mul_le (by omega)).2 (by omega)
  refine ⟨h2, ?_, by rw [Int.mul_comm]; exact h1⟩
  have h3 : 1000000000 / (t + 1) * 2 ≤ 1000000000 / (t + 1) * (t + 1) := Int.mul_le_mul_of_nonneg_left (by omega) (by omega)
  omega
/-- The scaled divisor has no more limbs. -/
theorem scaled_lt {ys : List Int} {m : Nat} {t s : Int} (h : InR ys) (hl : m < ys.length) (hl2 : ys.length = m + 1) (ht : t = ys[m]) (s1 : 1 ≤ s) (hs : (t + 1) * s ≤ 1000000000) : val ys * s < pw (m + 1) := by
  have h1 := val_split ys m (by omega)
  have h2 := take_bd h m (by omega)
  have h3 := val_drop_at hl
  rw [List.drop_eq_nil_of_le (show ys.length ≤ m + 1 by omega), ← ht] at h3
  simp only [val] at h3
  have h4 : val ys + 1 ≤ (t + 1) * pw m := by rw [Int.add_mul, Int.one_mul, Int.mul_comm t]; rw [h3] at h1; simp only [Int.mul_zero, Int.add_zero] at h1; omega
  have h5 : (val ys + 1) * s ≤ (t + 1) * pw m * s := Int.mul_le_mul_of_nonneg_right h4 (by omega)
  have h6 : (t + 1) * s * pw m ≤ 1000000000 * pw m := Int.mul_le_mul_of_nonneg_right hs (by have := pw_pos m; omega)
  have h7 : (t + 1) * pw m * s = (t + 1) * s * pw m := by grind
  rw [Int.add_mul, Int.one_mul] at h5
  rw [pw]; omega
/-- The start of a long division. -/
theorem LongAt.start {A s B : Int} {n1 m M : Nat} {R : List Int} (hR : R.length = n1 + 1) (hr : InR R) (hv : val R = A * s) (hM : M + m = n1) (hA : A < pw n1) (hB : pw m ≤ B) (s1 : 1 ≤ s) : LongAt (A * s) (B * s) (n1 + 1) M M (List.replicate M 0) R := by
  refine ⟨by simp, zeros_inR _, hR, hr, ?_, by rw [List.drop_eq_nil_of_le (by simp)]; simp [val, hv]⟩
  have h1 := val_split R M (by omega)
  have h2 := val_nonneg (hr.take M)
  have h3 : A * s < pw n1 * s := Int.mul_lt_mul_of_pos_right hA (by omega)
  have h4 : pw m * s ≤ B * s := Int.mul_le_mul_of_nonneg_right hB (by omega)
  have h5 : pw n1 * s = pw M * (pw m * s) := by rw [← hM, pw_add, Int.mul_assoc]
  have h6 : pw M * val (R.drop M) < pw M * (pw m * s) := by omega
  have h7 := Int.lt_of_mul_lt_mul_left h6 (by have := pw_pos M; omega)
  omega

theorem own_grown_none {w w' : World} {base : Nat} {E : TypeId} {size n : Nat} {v : Value} {xs : List Value} (h : w.ownsRow base E size v n xs) (hg : w.grownBy w' none) : w'.ownsRow base E size v n xs :=
  h.kept hg (by cases hv : v.ownBlock <;> simp)
theorem own_grown_ne {w w' : World} {base : Nat} {E : TypeId} {size n c g g' : Nat} {xs : List Value} (h : w.ownsRow base E size (.slice (some ⟨g, 0, none⟩) n c) n xs) (hg : w.grownBy w' (some g')) (hne : g ≠ g') : w'.ownsRow base E size (.slice (some ⟨g, 0, none⟩) n c) n xs :=
  h.kept hg (.inr (by simp [Value.ownBlock, hne]))
/-- A long division under way: what lies in memory. -/
def LongMem (base g1 g2 g3 n1 n2 M : Nat) (t D : Int) (ds : List Int) (wr : World) (k : Nat) (q r : List Int) : Prop :=
  LongAt t D (n1 + 1) M k q r ∧ wr.ownsRow base 3 1 (.slice (some ⟨g1, 0, none⟩) (n1 + 1) (n1 + 1)) (n1 + 1) (r.map (.int .i64)) ∧ wr.ownsRow base 3 1 (.slice (some ⟨g2, 0, none⟩) n2 (n2 + 1)) n2 (ds.map (.int .i64)) ∧ wr.ownsRow base 3 1 (.slice (some ⟨g3, 0, none⟩) M M) M (q.map (.int .i64))
set_option maxHeartbeats 1600000 in
theorem impl_divide (A1 : Option Addr) (n1 c1 : Nat) (xs : List Int) (A2 : Option Addr) (n2 c2 : Nat) (ys : List Int) (w : World) (h1 : xs.length = n1 ∧ n1 ≤ 500000 ∧ Reads w A1 (xs.map (.int .i64))) (h2 : ys.length = n2 ∧ n2 ≤ 500000 ∧ Reads w A2 (ys.map (.int .i64))) (k1 : Canon xs) (k2 : Canon ys) (hpos : 0 < val ys) :
    Calls Try.prog 138 #[.slice A1 n1 c1, .slice A2 n2 c2] w fun e w' => DivEnd (val xs) (val ys) n1 w w' e := by
  obtain ⟨i0, hi, hz0, hz1, hz2⟩ := info_parts Try.infoI
  obtain ⟨hn1, hb1, hr1⟩ := h1
  obtain ⟨hn2, hb2, hr2⟩ := h2
  have Hn1 := Lib.hid hn1
  have Hn2 := Lib.hid hn2
  have Hr1 := Lib.hid hr1
  have Hr2 := Lib.hid hr2
  have K1 := Lib.hid k1
  have K2 := Lib.hid k2
  have Hp := Lib.hid hpos
  have hm0 : n2 ≠ 0 := by
    intro e
    rw [List.eq_nil_of_length_eq_zero (hn2.trans e)] at hpos
    simp [val] at hpos
  by_cases hlt : (n1 : Int) < (n2 : Int)
  · clear hn1 hn2 hr1 hr2 k1 k2 hpos
    go_enter Try.func138, Try.ntmps138
    go_wp2_with fail
    refine (clone_any A1 n1 c1 xs _ Hn1.out (by omega) Hr1.out).mono ?_
    rintro e w1 ⟨v, rfl, ho, hb⟩
    have hfin : Hid (DivEnd (val xs) (val ys) n1 w w1 (.returned (.tuple #[.slice none 0 0, v]))) :=
      ⟨[], _, xs, v, rfl, ⟨canon_nil, K1.out, by simp [val], shorter_lt K1.out.1 K2.out (by rw [Hn1.out, Hn2.out]; omega)⟩, by simp, by rw [Hn1.out]; exact Nat.le_refl _, World.ownsRow_nil _ _ _ _, ho, fun k _ h => by simp [Value.ownBlock] at h, hb⟩
    clear ho hb
    go_wp2_with fail
    go_ret2
    exact hfin.out
  obtain ⟨m, rfl⟩ : ∃ m, n2 = m + 1 := ⟨n2 - 1, by omega⟩
  have hmy : m < ys.length := by omega
  obtain ⟨t, ht⟩ : ∃ t, t = ys[m] := ⟨_, rfl⟩
  have hlow := canon_lower k2 (by intro e; subst e; simp at hn2)
  rw [hn2, Nat.add_sub_cancel] at hlow
  have t1 := top_pos k2.1 hmy (by omega) hlow
  have t2 := (k2.1 _ (List.getElem_mem hmy)).2
  rw [← ht] at t1 t2
  obtain ⟨s1, s2, s3⟩ := scale_bd t1 t2
  obtain ⟨s, hs⟩ : ∃ s, s = 1000000000 / (t + 1) := ⟨_, rfl⟩
  rw [← hs] at s1 s2 s3
  have hsc := scaled_lt k2.1 hmy hn2 ht s1 s3
  have hx1 := val_lt k1.1
  rw [hn1] at hx1
  obtain ⟨b2, o2, rfl, hbs2, hc2⟩ := hr2.at_ (by simp; omega)
  have g4 : w.cell? ⟨b2, o2 + m, none⟩ = some (.int .i64 t) := (hc2 m (by simpa using hmy)).trans (by simp [ht])
  have hsub : ((m + 1 : Nat) : Int) - 1 = (m : Int) := by omega
  have hnm : m + 1 ≤ n1 := by omega
  have hmi0 : (0 : Int) ≤ (m : Int) := by omega
  have Hsc := Lib.hid hsc
  have Hx1 := Lib.hid hx1
  have Hlow := Lib.hid hlow
  have Hs := Lib.hid hs
  clear hn1 hn2 hr1 hr2 k1 k2 hpos hsc hx1 hlow hc2 ht hs hm0 hmy
  go_enter Try.func138, Try.ntmps138
  go_wp2_with fail
  rw [← Hs.out]
  refine (impl_timesLimb A1 n1 c1 xs s _ Hn1.out (by omega) Hr1.out K1.out.1 (by omega) (by omega)).mono ?_
  rintro e w1 ⟨R, g1, rfl, -, hRl, hRr, hRv, hRo, hRb⟩
  have HR := Lib.hid (And.intro hRl (And.intro hRr hRv))
  have B1 := Lib.hid hRb
  have OR1 := Lib.hid hRo
  have lt1 : g1 < w1.heap.size := (hRo.lt g1 rfl).2
  clear hRl hRr hRv hRb hRo
  go_wp2_with fail
  refine (impl_timesLimb (some ⟨b2, o2, none⟩) (m + 1) c2 ys s _ Hn2.out (by omega) (Hr2.out.below B1.out) K2.out.1 (by omega) (by omega)).mono ?_
  rintro e w2 ⟨D, g2, rfl, -, hDl, hDr, hDv, hDo, hDb⟩
  have sz1 := B1.out.size
  have sz2 := hDb.size
  have HD : Hid ((D.take (m + 1)).length = m + 1 ∧ InR (D.take (m + 1)) ∧ val (D.take (m + 1)) = val ys * s) :=
    ⟨by simp; omega, hDr.take _, by rw [val_trim (zeroFrom_of_lt hDr (by rw [hDv]; exact Hsc.out)), hDv]⟩
  have hDo2 := own_take hDo (m := m + 1) (by omega)
  rw [← List.map_take] at hDo2
  have OD2 := Lib.hid (own_lower hDo2 sz1)
  have OR2 := Lib.hid (own_below OR1.out hDb)
  have B2 := Lib.hid (B1.out.trans (hDb.mono sz1))
  have lt2 : g2 < w2.heap.size := (hDo.lt g2 rfl).2
  have lt12 : g1 < g2 := Nat.lt_of_lt_of_le lt1 (hDo.lt g2 rfl).1
  have hm1 : (m : Int) + 1 ≤ (m : Int) + 1 + 1 := by omega
  clear hDl hDr hDv hDo hDb hDo2
  obtain ⟨M, hM⟩ : ∃ M : Nat, M + m = n1 := ⟨n1 - m, by omega⟩
  have hMi : (n1 : Int) - ((m + 1 : Nat) : Int) + 1 = (M : Int) := by omega
  have hMi2 : (n1 : Int) - ((m : Int) + 1) + 1 = (M : Int) := by omega
  have hM0 : (0 : Int) ≤ (M : Int) := by omega
  have sz20 : w.heap.size ≤ w2.heap.size := by omega
  have HM := Lib.hid hM
  clear hM
  go_wp2_with (refine wpList_make_full _ rfl _ _ 22 rfl w.heap.size 3 i0 (.int .i64 0) 1 Try.underlying22 hi hz0 hz1 _ _ _ _ M rfl rfl rfl rfl (by rw [hz2]; omega) (by unfold maxLen; omega) sz20 ?_)
  have hrep : (madeCells #[Value.int .i64 0] M).toList = (List.replicate M (0 : Int)).map (.int .i64) := by simp [toList_madeCells_one]
  intro w3 ho hg
  obtain ⟨g3, hg3⟩ : ∃ g3, g3 = w2.heap.size := ⟨_, rfl⟩
  rw [← hg3] at ho ⊢
  have lt23 : g2 < g3 := by omega
  have lt3 : g3 < w3.heap.size := (ho.lt g3 rfl).2
  have M0 : Hid (LongMem w.heap.size g1 g2 g3 n1 (m + 1) M (val xs * s) (val ys * s) (D.take (m + 1)) w3 (M - 0) (List.replicate M 0) R) := by
    refine ⟨LongAt.start HR.out.1 HR.out.2.1 HR.out.2.2 HM.out Hx1.out Hlow.out s1, own_grown_none OR2.out hg, own_grown_none OD2.out hg, ?_⟩
    rw [← hrep]; simpa using ho
  have B3 := Lib.hid (B2.out.grown hg sz20 (fun k hk => by cases hk))
  clear ho hg hrep hg3 OR1 OR2 OD2 B1 B2
  go_wp2_with fail
  go_loopw [45] (fun y wr => ∃ (i : Nat) (q r : List Int), i ≤ M ∧ y = .int .i64 (i : Int) ∧ Hid (LongMem w.heap.size g1 g2 g3 n1 (m + 1) M (val xs * s) (val ys * s) (D.take (m + 1)) wr (M - i) q r) ∧ Hid (Below w.heap.size w wr) ∧ g3 < wr.heap.size) (fun y _ => M - (intOf y).toNat)
  case atStart => exact ⟨0, _, _, Nat.zero_le _, rfl, M0, B3, lt3⟩
  case round =>
    obtain ⟨i, q, r, hi9, rfl, hm, hb, ltr⟩ := hrel
    obtain ⟨wo, rfl⟩ : ∃ wo : World, wo = wr := ⟨_, rfl⟩
    have hi0 : (0 : Int) ≤ (i : Int) := by omega
    by_cases hlt : i < M
    · obtain ⟨j, hj⟩ : ∃ j, M - i = j + 1 := ⟨M - i - 1, by omega⟩
      have hjs : (M : Int) - 1 - (i : Int) = (j : Int) := by omega
      have hj0 : (0 : Int) ≤ (j : Int) := by omega
      have hjM : j < M := by omega
      have hm2 := hm.out
      rw [hj] at hm2
      obtain ⟨hla, hoR, hoD, hoQ⟩ := hm2
      have hwin := hla.window (by omega)
      have hXl : (r.drop j).length = n1 + 1 - j := by rw [List.length_drop, hla.2.2.1]
      have hPl : (r.take j).length = j := by rw [List.length_take, hla.2.2.1]; omega
      have hoR2 : wo.ownsRow w.heap.size 3 1 (.slice (some ⟨g1, 0, none⟩) (n1 + 1) (n1 + 1)) (n1 + 1) ((r.take j ++ r.drop j).map (.int .i64)) := by rw [List.take_append_drop]; exact hoR
      have htop : 1 ≤ (D.take (m + 1))[m]'(by rw [HD.out.1]; omega) := top_pos HD.out.2.1 _ (by rw [HD.out.1]; exact Nat.le_refl _) (by
        rw [HD.out.2.2]
        have h1 := Hlow.out
        have h2 : val ys * 1 ≤ val ys * s := Int.mul_le_mul_of_nonneg_left s1 (by have := Hp.out; omega)
        omega)
      have hMm := HM.out
      have con := Lib.hid (impl_quotientLimb g1 (n1 + 1) (n1 + 1) w.heap.size j m (n1 + 1 - j) (r.take j) (r.drop j) (D.take (m + 1)) (some ⟨g2, 0, none⟩) (m + 1 + 1) wo hoR2 hPl (by rw [hPl, hXl]; omega) (by rw [hXl]; omega) (by omega) (hla.2.2.2.1.drop j) HD.out.1 HD.out.2.1 (by omega) (by rw [HD.out.1]; omega) htop (by rw [HD.out.2.2]; exact hwin.1) (Reads.of_own hoD) (fun b o he => by cases he; omega))
      have Hla := Lib.hid hla
      have HXl := Lib.hid hXl
      have OD := Lib.hid hoD
      have OQ := Lib.hid hoQ
      have hg1b := (hoR.lt g1 rfl).1
      have HJ := Lib.hid hj
      have hji1 : (j : Int) ≤ (j : Int) + ((m : Int) + 1) + 1 := by omega
      have hji2 : (j : Int) + ((m : Int) + 1) + 1 ≤ (n1 : Int) + 1 := by omega
      have hji3 : (j : Int) < (M : Int) := by omega
      clear hla hoR hoD hoQ hwin hXl hPl hoR2 htop hj hm
      go_wp2_with fail
      rw [show j + (m + 1) + 1 - j = m + 1 + 1 by omega]
      refine con.out.mono ?_
      rintro e w4 ⟨qd, X', rfl, q0, q1, xl, xr, xv, xlt, xo, xg⟩
      have hnx := Hla.out.step (by omega) hjM xl xr (by rw [xv, HD.out.2.2]) (by rw [HD.out.2.2] at xlt; exact xlt) q0 q1
      have OD4 := own_grown_ne OD.out xg (by omega)
      have OQ4 := own_grown_ne OQ.out xg (by omega)
      have sz4 := xg.size
      have hb4 : Below w.heap.size w w4 := hb.out.grown xg hb.out.size (fun k hk => by cases hk; exact hg1b)
      have hqj : j < q.length := by rw [Hla.out.1]; exact hjM
      obtain ⟨o, hoo⟩ : ∃ o, o = q[j] := ⟨_, rfl⟩
      have g5 : w4.cell? ⟨g3, j, none⟩ = some (.int .i64 o) := by rw [OQ4.cellAt j (by omega)]; simp [hqj, hoo]
      have hfr := OQ4.frozenAt j
      have hst := OQ4.stored j (.int .i64 qd)
      rw [map_set_int] at hst
      have hfin : Hid (LongMem w.heap.size g1 g2 g3 n1 (m + 1) M (val xs * s) (val ys * s) (D.take (m + 1)) (w4.setCell ⟨g3, j, none⟩ (.int .i64 qd)) (M - (i + 1)) (q.set j qd) (r.take j ++ X')) := by
        unfold Hid; rw [show M - (i + 1) = j by have := HJ.out; omega]
        exact ⟨hnx, own_grown_ne xo hst.2 (by omega), own_grown_ne OD4 hst.2 (by omega), hst.1⟩
      have hb5 := Lib.hid (below_marked hb4 OQ4 hst.2 (Nat.le_refl _) hb4.size)
      have hlt5 : Hid (g3 < (w4.setCell ⟨g3, j, none⟩ (.int .i64 qd)).heap.size) := by unfold Hid; have := hst.2.size; omega
      clear xl xr xv xlt xo xg hnx OD4 OQ4 hb4 hoo hst con
      go_wp2_with fail
      go_roundw
      case rel => exact ⟨i + 1, _, _, by omega, by go_num, hfin, hb5, hlt5.out⟩
      case measure => simp [intOf]; omega
    · obtain rfl : i = M := by omega
      have hm2 := hm.out
      rw [Nat.sub_self] at hm2
      obtain ⟨hla, hoR, hoD, hoQ⟩ := hm2
      obtain ⟨hz, hv, hlt2⟩ := hla.done (nb := m + 1) (Int.le_of_lt Hsc.out)
      have HlaA := Lib.hid hla.1
      have HlaB := Lib.hid hla.2.1
      have HRr := Lib.hid (hla.2.2.2.1.take (m + 1))
      have hRl : (r.take (m + 1)).length = m + 1 := by rw [List.length_take, hla.2.2.1]; omega
      have HRl := Lib.hid hRl
      have HRv : Hid (val (r.take (m + 1)) = s * (val xs - val q * val ys) ∧ val r < val ys * s ∧ val (r.take (m + 1)) = val r) := ⟨by rw [val_trim hz, hv], hlt2, val_trim hz⟩
      have hoR2 := own_take hoR (m := m + 1) (by omega)
      rw [← List.map_take] at hoR2
      have OR := Lib.hid hoR2
      have OQ := Lib.hid hoQ
      have hmi5 : (m : Int) + 1 ≤ (n1 : Int) + 1 := by omega
      have hM5 : i ≤ 500000 := by omega
      clear hla hoR hoD hoQ hz hv hlt2 hRl hoR2 hm
      go_wp2_with fail
      go_region_with (first | (go_at_call 133; refine (impl_trim w.heap.size (some ⟨g3, 0, none⟩) i i q wo.drew HlaA.out (by omega) OQ.out).mono ?_; rintro e w' ⟨⟨mq, rfl, ht⟩, rfl⟩) | (go_at_call 156; refine (impl_overLimb (some ⟨g1, 0, none⟩) (m + 1) (n1 + 1) (r.take (m + 1)) s wo.drew HRl.out (by omega) (Reads.of_own OR.out) HRr.out s1 (by omega)).mono ?_; rintro e w5 ⟨u, A5, c5, rest, rfl, uc, uv, u0, u1, ul, uo, ub⟩))
      all_goals
        have hfin : Hid (DivEnd (val xs) (val ys) n1 w w5 (.returned (.tuple #[.slice (some ⟨g3, 0, none⟩) mq i, .slice A5 u.length c5]))) := by
          obtain ⟨hcn, hvq⟩ := ht.canon HlaB.out
          have hmq : mq ≤ i := by have := ht.1; rw [HlaA.out] at this; exact this
          have hlq : (q.take mq).length = mq := by rw [List.length_take, HlaA.out]; omega
          have hMm := HM.out
          obtain ⟨e1, e2, e3⟩ := HRv.out
          obtain ⟨f1, f2⟩ := scaled_back e1 s1 uv u0 u1 (by rw [e3]; exact e2)
          have own1 := own_below (own_take OQ.out hmq) (show Below wo.heap.size wo w5 from ⟨ub.os, ub.tape, ub.output, ub.size, ub.block⟩)
          rw [← List.map_take] at own1
          exact ⟨q.take mq, _, u, _, rfl, ⟨hcn, uc, by rw [hvq, f1]; omega, f2⟩, by rw [hlq]; omega, by omega, by rw [hlq]; exact own1, own_lower uo hb.out.size, fun k hk h => by
            have h1 := (uo.lt k hk).1
            simp [Value.ownBlock] at h
            simp at h1
            omega, hb.out.drew.trans (ub.mono hb.out.size)⟩
        clear ht uc uv ul uo ub
        go_wp2_with fail
        go_ret2
        exact hfin.out
end Go.Proofs.Ytjggdbakbhacjaa
