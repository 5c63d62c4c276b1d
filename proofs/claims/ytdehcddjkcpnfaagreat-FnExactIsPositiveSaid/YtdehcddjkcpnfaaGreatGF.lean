/- Contracts of fractions: RatAdd, RatOf, RatFromInt by the model; equality. -/
import Derived.Test.YtdehcddjkcpnfaaGreatRatS5
import Derived.Test.YtdehcddjkcpnfaaGreatGE
import Derived.BigQuiet
import Derived.Test.YtdehcddjkcpnfaaGreatGD
import Derived.Deep.DeepCutAuto
namespace Go.Proofs.YtdehcddjkcpnfaaGreat
set_option maxRecDepth 100000
open Go.RowKit

theorem bigOf_ok {n : Int} {g : Bool} {l : List Int} (h : BigIntOfIs n g l) (h0 : -9223372036854775808 ≤ n) (h1 : n ≤ 9223372036854775807) : BOk g l ∧ bval g l = n := by
  have hp : pw 60 > 9223372036854775808 := by decide
  exact bRep_small h (by omega) (by omega)
theorem ratOf_mk {n m : Int} {ga gb : Bool} {la lb : List Int} {g : Bool} {l d : List Int} (ha : BOk ga la ∧ bval ga la = n) (hb : BOk gb lb ∧ bval gb lb = m) (h : RatMakeIs ga la gb lb g l d) : RatOfIs n m g l d := by
  unfold RatMakeIs at h
  rw [ha.2, hb.2] at h
  exact rIs_prop h ⟨ha.1, hb.1⟩ trivial
set_option maxHeartbeats 1600000 in
theorem impl_ratOf (n m : Int) (w : World) (hn : -9223372036854775808 ≤ n ∧ n ≤ 9223372036854775807) (hm : -9223372036854775808 ≤ m ∧ m ≤ 9223372036854775807) :
    Calls Tryz.prog 161 #[.int .i64 n, .int .i64 m] w fun e w' => RatEnd (RatOfIs n m) w w' e := by
  obtain ⟨W0, hW0⟩ : ∃ W, W = (w.alloc (.cells #[.bool false, .slice none 0 0, .slice none 0 0] 30)) := ⟨_, rfl⟩
  have hs_0 : Hid (Box W0 (w.heap.size) 30 #[.bool false, .slice none 0 0, .slice none 0 0]) := by rw [hW0]; exact (Box.at' (by simp))
  have BW_0 : Hid (Below w.heap.size w W0) := by rw [hW0]; exact ((Below.refl w.heap.size w).alloc (by simp) _)
  have hsz0 : w.heap.size + 1 ≤ W0.heap.size := by rw [hW0]; simp
  go_enter Tryz.func161, Tryz.ntmps161
  go_wp2_with fail
  rw [← hW0]
  clear hW0
  refine (impl_bigOf' n _ hn).mono ?_
  rintro e wa ⟨ga, la, va, rfl, hq, ⟨hla, ho⟩, hb⟩
  have HCa := Lib.hid (bigOf_ok hq hn.1 hn.2)
  have hs_1 := Lib.hid (hs_0.out.below hb hs_0.out.lt)
  have BW_1 := Lib.hid (BW_0.out.trans (hb.mono BW_0.out.size))
  clear hb
  obtain ⟨Aa, ca, rfl⟩ := own_slice ho
  obtain ⟨na, hna⟩ : ∃ N, N = la.length := ⟨_, rfl⟩
  rw [← hna] at hla ho ⊢
  have HNa := Lib.hid hna
  have HOa := Lib.hid ho
  clear ho hna
  have hsa : na ≤ 60 := by have := HCa.out.1.1.2; rwa [← HNa.out] at this
  clear hq
  go_wp2_with fail
  refine (impl_bigOf' m _ hm).mono ?_
  rintro e wb ⟨gb, lb, vb, rfl, hq, ⟨hlb, ho⟩, hb⟩
  have HCb := Lib.hid (bigOf_ok hq hm.1 hm.2)
  have hs_2 := Lib.hid (hs_1.out.below hb hs_1.out.lt)
  have BW_2 := Lib.hid (BW_1.out.trans (hb.mono BW_1.out.size))
  replace HOa := Lib.hid (own_below HOa.out hb)
  clear hb
  obtain ⟨Ab, cb, rfl⟩ := own_slice ho
  obtain ⟨nb, hnb⟩ : ∃ N, N = lb.length := ⟨_, rfl⟩
  rw [← hnb] at hlb ho ⊢
  have HNb := Lib.hid hnb
  have HOb := Lib.hid ho
  clear ho hnb
  have hsb : nb ≤ 60 := by have := HCb.out.1.1.2; rwa [← HNb.out] at this
  clear hq
  go_wp2_with fail
  refine (impl_ratMake0 ga Aa na ca la gb Ab nb cb lb _ ⟨HNa.out.symm, by omega, Reads.of_own HOa.out, limbs_bd HCa.out.1.1.1.1⟩ ⟨HNb.out.symm, by omega, Reads.of_own HOb.out, limbs_bd HCb.out.1.1.1.1⟩).mono ?_
  rintro e wz ⟨s, r, v, dd, u, rfl, hq, ⟨hl1, ho1⟩, ⟨hl2, ho2⟩, hap, hb⟩
  have HQ := Lib.hid (ratOf_mk HCa.out HCb.out hq)
  have HAP := Lib.hid hap
  have hszl := BW_2.out.size
  have hs_3 := Lib.hid (hs_2.out.below hb hs_2.out.lt)
  have BW_3 := Lib.hid (BW_2.out.trans (hb.mono BW_2.out.size))
  clear hb
  clear hq hap
  obtain ⟨A9, c9, rfl⟩ := own_slice ho1
  obtain ⟨B9, d9, rfl⟩ := own_slice ho2
  obtain ⟨N9, hN9⟩ : ∃ N, N = r.length := ⟨_, rfl⟩
  obtain ⟨M9, hM9⟩ : ∃ N, N = dd.length := ⟨_, rfl⟩
  rw [← hN9] at hl1 ho1 HAP ⊢
  rw [← hM9] at hl2 ho2 HAP ⊢
  have HN := Lib.hid hN9.symm
  have HM := Lib.hid hM9.symm
  have HO := Lib.hid ho1
  have HU := Lib.hid ho2
  clear ho1 ho2 hN9 hM9
  have ehs0 := hs_3.out.cell 0
  have ehs1 := hs_3.out.cell 1
  have ehs2 := hs_3.out.cell 2
  have fhs0 := hs_3.out.free 0
  have fhs1 := hs_3.out.free 1
  have fhs2 := hs_3.out.free 2
  simp at ehs0 ehs1 ehs2
  go_wp2_with fail
  refine bodyPost_ret (v := .agg #[.bool s, .slice A9 N9 c9, .slice B9 M9 d9]) (by simp [results, Tryz.results161, ehs0, ehs1, ehs2, go_sem]) rfl ?_
  exact ratEnd_store hs_3.out (by omega) BW_3.out HQ.out HN.out HM.out (by omega) (by omega) HO.out (by omega) HU.out (by omega) HAP.out
set_option maxHeartbeats 800000 in
theorem impl_ratFromInt (n : Int) (w : World) (hn : -9223372036854775808 ≤ n ∧ n ≤ 9223372036854775807) :
    Calls Tryz.prog 91 #[.int .i64 n] w fun e w' => RatEnd (RatFromIntIs n) w w' e := by
  obtain ⟨W0, hW0⟩ : ∃ W, W = (w.alloc (.cells #[.bool false, .slice none 0 0, .slice none 0 0] 30)) := ⟨_, rfl⟩
  have hs_0 : Hid (Box W0 (w.heap.size) 30 #[.bool false, .slice none 0 0, .slice none 0 0]) := by rw [hW0]; exact (Box.at' (by simp))
  have BW_0 : Hid (Below w.heap.size w W0) := by rw [hW0]; exact ((Below.refl w.heap.size w).alloc (by simp) _)
  have hsz0 : w.heap.size + 1 ≤ W0.heap.size := by rw [hW0]; simp
  go_enter Tryz.func91, Tryz.ntmps91
  go_wp2_with fail
  rw [← hW0]
  clear hW0
  refine (impl_ratOf n 1 _ hn ⟨by omega, by omega⟩).mono ?_
  rintro e wz ⟨s, r, v, dd, u, rfl, hq, ⟨hl1, ho1⟩, ⟨hl2, ho2⟩, hap, hb⟩
  have HQ : Hid (RatFromIntIs n s r dd) := hq
  have HAP := Lib.hid hap
  have hszl := BW_0.out.size
  have hs_1 := Lib.hid (hs_0.out.below hb hs_0.out.lt)
  have BW_1 := Lib.hid (BW_0.out.trans (hb.mono BW_0.out.size))
  clear hb
  clear hq hap
  obtain ⟨A9, c9, rfl⟩ := own_slice ho1
  obtain ⟨B9, d9, rfl⟩ := own_slice ho2
  obtain ⟨N9, hN9⟩ : ∃ N, N = r.length := ⟨_, rfl⟩
  obtain ⟨M9, hM9⟩ : ∃ N, N = dd.length := ⟨_, rfl⟩
  rw [← hN9] at hl1 ho1 HAP ⊢
  rw [← hM9] at hl2 ho2 HAP ⊢
  have HN := Lib.hid hN9.symm
  have HM := Lib.hid hM9.symm
  have HO := Lib.hid ho1
  have HU := Lib.hid ho2
  clear ho1 ho2 hN9 hM9
  have ehs0 := hs_1.out.cell 0
  have ehs1 := hs_1.out.cell 1
  have ehs2 := hs_1.out.cell 2
  have fhs0 := hs_1.out.free 0
  have fhs1 := hs_1.out.free 1
  have fhs2 := hs_1.out.free 2
  simp at ehs0 ehs1 ehs2
  go_wp2_with fail
  refine bodyPost_ret (v := .agg #[.bool s, .slice A9 N9 c9, .slice B9 M9 d9]) (by simp [results, Tryz.results91, ehs0, ehs1, ehs2, go_sem]) rfl ?_
  exact ratEnd_store hs_1.out (by omega) BW_1.out HQ.out HN.out HM.out (by omega) (by omega) HO.out (by omega) HU.out (by omega) HAP.out
set_option maxHeartbeats 800000 in
theorem spec_ratFromInt (n : Int) (w : World) (hn : -9223372036854775808 ≤ n ∧ n ≤ 9223372036854775807) :
    Calls Tryz.prog 115 #[.int .i64 n] w fun e w' => RatEnd (RatFromIntIs n) w w' e := by
  obtain ⟨W0, hW0⟩ : ∃ W, W = (w.alloc (.cells #[.bool false, .slice none 0 0, .slice none 0 0] 30)) := ⟨_, rfl⟩
  have hs_0 : Hid (Box W0 (w.heap.size) 30 #[.bool false, .slice none 0 0, .slice none 0 0]) := by rw [hW0]; exact (Box.at' (by simp))
  have BW_0 : Hid (Below w.heap.size w W0) := by rw [hW0]; exact ((Below.refl w.heap.size w).alloc (by simp) _)
  have hsz0 : w.heap.size + 1 ≤ W0.heap.size := by rw [hW0]; simp
  go_enter Tryz.func115, Tryz.ntmps115
  go_wp2_with fail
  rw [← hW0]
  clear hW0
  refine (spec_bigOf' n _ hn).mono ?_
  rintro e wz ⟨s, r, v, rfl, hq, ⟨hl1, ho1⟩, hb⟩
  have HQ : Hid (RatFromIntIs n s r [1]) := rfrom_mk hq hn.1 hn.2
  have hszl := BW_0.out.size
  have hszm := hb.size
  have hs_1 := Lib.hid ((hs_0.out.below hb hs_0.out.lt).alloc (.cells #[.int .i64 1] 3))
  have BW_1 := Lib.hid ((BW_0.out.trans (hb.mono BW_0.out.size)).alloc (Nat.le_trans BW_0.out.size hb.size) (.cells #[.int .i64 1] 3))
  obtain ⟨A9, c9, rfl⟩ := own_slice ho1
  obtain ⟨N9, hN9⟩ : ∃ N, N = r.length := ⟨_, rfl⟩
  rw [← hN9] at hl1 ho1 ⊢
  have HN := Lib.hid hN9.symm
  have HO := Lib.hid (ho1.alloc (.cells #[.int .i64 1] 3))
  have hlit : (wz.alloc (.cells #[.int .i64 1] 3)).ownsRow wz.heap.size 3 1 (.slice (some ⟨wz.heap.size, 0, none⟩) 1 1) 1 [.int .i64 1] := World.ownsRow_lit wz #[.int .i64 1] 1 (Nat.le_refl _) (by decide) (by rfl)
  have HU : Hid ((wz.alloc (.cells #[.int .i64 1] 3)).ownsRow wz.heap.size 3 1 (.slice (some ⟨wz.heap.size, 0, none⟩) 1 1) 1 ([1].map (.int .i64))) := hlit
  have HAP := Lib.hid (apart_older' ho1 HU.out)
  have HM : Hid (([1] : List Int).length = 1) := rfl
  clear hq ho1 hN9 hb hlit
  have ehs0 := hs_1.out.cell 0
  have ehs1 := hs_1.out.cell 1
  have ehs2 := hs_1.out.cell 2
  have fhs0 := hs_1.out.free 0
  have fhs1 := hs_1.out.free 1
  have fhs2 := hs_1.out.free 2
  simp at ehs0 ehs1 ehs2
  go_wp2_with fail
  refine bodyPost_ret (v := .agg #[.bool s, .slice A9 N9 c9, .slice (some ⟨wz.heap.size, 0, none⟩) 1 1]) (by simp [results, Tryz.results115, ehs0, ehs1, ehs2, go_sem]) rfl ?_
  exact ratEnd_store hs_1.out (by omega) BW_1.out HQ.out HN.out HM.out (by omega) (by omega) HO.out (by omega) HU.out (by omega) HAP.out
def BoolEndI (Q : Bool → Prop) (w w' : World) (e : Ending) : Prop := ∃ b, e = .returned (.bool b) ∧ Q b ∧ Below w.heap.size w w'
theorem req_no {g1 g2 : Bool} {xs es ys fs : List Int} (h : g1 = g2 → xs = ys → es = fs → False) : RatEqualIs g1 xs es g2 ys fs false := by
  unfold RatEqualIs
  simp only [Bool.false_eq_true, false_iff]
  rintro ⟨a, b, c⟩
  exact h a b c
set_option maxHeartbeats 800000 in
theorem spec_listEq (A1 : Option Addr) (n1 c1 : Nat) (xs : List Int) (A2 : Option Addr) (n2 c2 : Nat) (ys : List Int) (b : Bool) (w : World) (hb : decide (xs = ys) = b) (h1 : InI w A1 n1 xs) (h2 : InI w A2 n2 ys) :
    Calls Tryz.prog 249 #[.slice A1 n1 c1, .slice A2 n2 c2] w fun e w' => e = .returned (.bool b) ∧ Below w.heap.size w w' := by
  obtain ⟨hl1, hn1, hr1, _⟩ := h1
  obtain ⟨hl2, hn2, hr2, _⟩ := h2
  by_cases hne : n1 = n2
  · subst hne
    have HL1 := Lib.hid hl1
    have HL2 := Lib.hid hl2
    have H1 := Lib.hid hr1
    have H2 := Lib.hid hr2
    have HB := Lib.hid hb
    have hbq : ((n1 : Int) != (n1 : Int)) = false := by simp
    clear hl1 hl2 hr1 hr2 hb
    go_enter Tryz.func249, Tryz.ntmps249
    go_wp2_with fail
    go_loopw [5, 13] (fun _ y wr => ∃ k n : Nat, wr = w.drewN n ∧ k ≤ n1 ∧ y = .int .i64 k ∧ Hid (xs.take k = ys.take k)) (fun _ y _ => n1 - (intOf y).toNat)
    case atStart => exact ⟨0, 0, rfl, Nat.zero_le _, rfl, by simp [Hid]⟩
    case round =>
      obtain ⟨k, n, rfl, hk, rfl, heq⟩ := hrel
      by_cases hlt : k < n1
      · have hkx : k < xs.length := by rw [HL1.out]; exact hlt
        have hky : k < ys.length := by rw [HL2.out]; exact hlt
        obtain ⟨b1, o1, rfl, hb1, hc1⟩ := H1.out.at_ (by simp; omega)
        obtain ⟨b2, o2, rfl, hb2, hc2⟩ := H2.out.at_ (by simp; omega)
        obtain ⟨x, hx⟩ : ∃ x, x = xs[k] := ⟨_, rfl⟩
        obtain ⟨y, hy⟩ : ∃ y, y = ys[k] := ⟨_, rfl⟩
        have g1 : w.cell? ⟨b1, o1 + k, none⟩ = some (.int .i64 x) := (hc1 k (by simpa using hkx)).trans (by simp [hx])
        have g2 : w.cell? ⟨b2, o2 + k, none⟩ = some (.int .i64 y) := (hc2 k (by simpa using hky)).trans (by simp [hy])
        have hk0 : (0 : Int) ≤ (k : Int) := by omega
        have hk1 : (k : Int) < (n1 : Int) := by omega
        by_cases hxy : x = y
        · have hnx : Hid (xs.take (k + 1) = ys.take (k + 1)) := by
            unfold Hid; rw [List.take_succ_eq_append_getElem hkx, List.take_succ_eq_append_getElem hky, heq.out, ← hx, ← hy, hxy]
          subst hxy
          clear hc1 hc2 hx hy heq
          go_wp2_with fail
          go_quiet (fail)
          go_wp2_with fail
          go_roundw
          case rel => exact ⟨k + 1, _, rfl, by omega, by go_num, hnx⟩
          case measure => simp [intOf]; omega
        · have hbf : Hid (b = false) := by
            unfold Hid; rw [← HB.out, decide_eq_false_iff_not]; rintro rfl; exact hxy (by rw [hx, hy])
          have hq : (x == y) = false := by simpa using hxy
          clear hc1 hc2 hx hy heq
          go_wp2_with fail
          go_quiet (fail)
          go_wp2_with fail
          go_ret
          exact ⟨ret_bool hbf.out.symm, below_drewN (below_drewN (Below.refl _ _) _) _⟩
      · have hbt : Hid (b = true) := by
          unfold Hid; rw [← HB.out, decide_eq_true_iff]
          have := heq.out
          rwa [List.take_of_length_le (by rw [HL1.out]; omega), List.take_of_length_le (by rw [HL2.out]; omega)] at this
        clear heq
        go_wp2_with fail
        go_ret
        exact ⟨ret_bool hbt.out.symm, below_drewN (Below.refl _ _) _⟩
  · have hbf : Hid (b = false) := by
      unfold Hid; rw [← hb, decide_eq_false_iff_not]; rintro rfl; exact hne (by rw [← hl1, ← hl2])
    have hq : ((n1 : Int) == (n2 : Int)) = false := by simp; omega
    clear hl1 hl2 hr1 hr2 hb
    go_enter Tryz.func249, Tryz.ntmps249
    go_wp2_with fail
    go_ret
    exact ⟨ret_bool hbf.out.symm, Below.refl _ _⟩
set_option maxHeartbeats 800000 in
theorem slices_equal (A1 : Option Addr) (n1 c1 : Nat) (xs : List Int) (A2 : Option Addr) (n2 c2 : Nat) (ys : List Int) (b : Bool) (w : World) (hb : decide (xs = ys) = b) (h1 : InI w A1 n1 xs) (h2 : InI w A2 n2 ys) :
    Calls Tryz.prog 171 #[.slice A1 n1 c1, .slice A2 n2 c2] w fun e w' => e = .returned (.bool b) ∧ Below w.heap.size w w' := by
  obtain ⟨hl1, hn1, hr1, _⟩ := h1
  obtain ⟨hl2, hn2, hr2, _⟩ := h2
  by_cases hne : n1 = n2
  · subst hne
    have HL1 := Lib.hid hl1
    have HL2 := Lib.hid hl2
    have H1 := Lib.hid hr1
    have H2 := Lib.hid hr2
    have HB := Lib.hid hb
    have hbq : ((n1 : Int) != (n1 : Int)) = false := by simp
    clear hl1 hl2 hr1 hr2 hb
    go_enter Tryz.func171, Tryz.ntmps171
    go_wp2_with fail
    go_loopw [5, 13] (fun _ y wr => ∃ k n : Nat, wr = w.drewN n ∧ k ≤ n1 ∧ y = .int .i64 k ∧ Hid (xs.take k = ys.take k)) (fun _ y _ => n1 - (intOf y).toNat)
    case atStart => exact ⟨0, 0, rfl, Nat.zero_le _, rfl, by simp [Hid]⟩
    case round =>
      obtain ⟨k, n, rfl, hk, rfl, heq⟩ := hrel
      by_cases hlt : k < n1
      · have hkx : k < xs.length := by rw [HL1.out]; exact hlt
        have hky : k < ys.length := by rw [HL2.out]; exact hlt
        obtain ⟨b1, o1, rfl, hb1, hc1⟩ := H1.out.at_ (by simp; omega)
        obtain ⟨b2, o2, rfl, hb2, hc2⟩ := H2.out.at_ (by simp; omega)
        obtain ⟨x, hx⟩ : ∃ x, x = xs[k] := ⟨_, rfl⟩
        obtain ⟨y, hy⟩ : ∃ y, y = ys[k] := ⟨_, rfl⟩
        have g1 : w.cell? ⟨b1, o1 + k, none⟩ = some (.int .i64 x) := (hc1 k (by simpa using hkx)).trans (by simp [hx])
        have g2 : w.cell? ⟨b2, o2 + k, none⟩ = some (.int .i64 y) := (hc2 k (by simpa using hky)).trans (by simp [hy])
        have hk0 : (0 : Int) ≤ (k : Int) := by omega
        have hk1 : (k : Int) < (n1 : Int) := by omega
        by_cases hxy : x = y
        · have hnx : Hid (xs.take (k + 1) = ys.take (k + 1)) := by
            unfold Hid; rw [List.take_succ_eq_append_getElem hkx, List.take_succ_eq_append_getElem hky, heq.out, ← hx, ← hy, hxy]
          subst hxy
          clear hc1 hc2 hx hy heq
          go_wp2_with fail
          go_quiet (fail)
          go_wp2_with fail
          go_roundw
          case rel => exact ⟨k + 1, _, rfl, by omega, by go_num, hnx⟩
          case measure => simp [intOf]; omega
        · have hbf : Hid (b = false) := by
            unfold Hid; rw [← HB.out, decide_eq_false_iff_not]; rintro rfl; exact hxy (by rw [hx, hy])
          have hq : (x == y) = false := by simpa using hxy
          clear hc1 hc2 hx hy heq
          go_wp2_with fail
          go_quiet (fail)
          go_wp2_with fail
          go_ret
          exact ⟨ret_bool hbf.out.symm, below_drewN (below_drewN (Below.refl _ _) _) _⟩
      · have hbt : Hid (b = true) := by
          unfold Hid; rw [← HB.out, decide_eq_true_iff]
          have := heq.out
          rwa [List.take_of_length_le (by rw [HL1.out]; omega), List.take_of_length_le (by rw [HL2.out]; omega)] at this
        clear heq
        go_wp2_with fail
        go_ret
        exact ⟨ret_bool hbt.out.symm, below_drewN (Below.refl _ _) _⟩
  · have hbf : Hid (b = false) := by
      unfold Hid; rw [← hb, decide_eq_false_iff_not]; rintro rfl; exact hne (by rw [← hl1, ← hl2])
    have hq : ((n1 : Int) == (n2 : Int)) = false := by simp; omega
    clear hl1 hl2 hr1 hr2 hb
    go_enter Tryz.func171, Tryz.ntmps171
    go_wp2_with fail
    go_ret
    exact ⟨ret_bool hbf.out.symm, Below.refl _ _⟩
set_option maxHeartbeats 3200000 in
theorem spec_ratEqual0 (g1 : Bool) (A1 : Option Addr) (n1 c1 : Nat) (xs : List Int) (B1 : Option Addr) (m1 d1 : Nat) (es : List Int) (g2 : Bool) (A2 : Option Addr) (n2 c2 : Nat) (ys : List Int) (B2 : Option Addr) (m2 d2 : Nat) (fs : List Int) (w : World) (h1 : InI w A1 n1 xs) (r1 : Room A1 n1 c1) (k1 : InI w B1 m1 es) (s1 : Room B1 m1 d1) (h2 : InI w A2 n2 ys) (r2 : Room A2 n2 c2) (k2 : InI w B2 m2 fs) (s2 : Room B2 m2 d2) :
    Calls Tryz.prog 235 #[.agg #[.bool g1, .slice A1 n1 c1, .slice B1 m1 d1], .agg #[.bool g2, .slice A2 n2 c2, .slice B2 m2 d2]] w fun e w' => BoolEndI (RatEqualIs g1 xs es g2 ys fs) w w' e := by
  have hn1 := h1.2.1
  have hn2 := h2.2.1
  have hm1 := k1.2.1
  have hm2 := k2.2.1
  obtain ⟨W0, hW0⟩ : ∃ W, W = ((w.alloc (.cells #[.bool g1, .slice A1 n1 c1, .slice B1 m1 d1] 30)).alloc (.cells #[.bool g2, .slice A2 n2 c2, .slice B2 m2 d2] 30)) := ⟨_, rfl⟩
  have hy0_0 : Hid (Box W0 (w.heap.size) 30 #[.bool g1, .slice A1 n1 c1, .slice B1 m1 d1]) := by rw [hW0]; exact ((Box.at' (by simp)).alloc _)
  have hy1_0 : Hid (Box W0 (w.heap.size + 1) 30 #[.bool g2, .slice A2 n2 c2, .slice B2 m2 d2]) := by rw [hW0]; exact (Box.at' (by simp))
  have BW_0 : Hid (Below w.heap.size w W0) := by rw [hW0]; exact (((Below.refl w.heap.size w).alloc (by simp) _).alloc (by simp) _)
  have hsz0 : w.heap.size + 1 + 1 ≤ W0.heap.size := by rw [hW0]; simp
  have HI1 := Lib.hid (h1.below BW_0.out)
  have HI2 := Lib.hid (h2.below BW_0.out)
  have HJ1 := Lib.hid (k1.below BW_0.out)
  have HJ2 := Lib.hid (k2.below BW_0.out)
  have R1 := Lib.hid r1
  have R2 := Lib.hid r2
  have S1 := Lib.hid s1
  have S2 := Lib.hid s2
  clear h1 h2 k1 k2 r1 r2 s1 s2
  have HR1 := trivial
  by_cases hg : g1 = g2
  case neg =>
    have HF := Lib.hid (req_no (xs := xs) (es := es) (ys := ys) (fs := fs) (fun h _ _ => hg h))
    have ht : (g1 == g2) = false := by simpa using hg
    clear hg HR1
    have HB0 := Lib.hid (hW0 ▸ BW_0.out)
    go_enter Tryz.func235, Tryz.ntmps235
    go_wp2_with fail
    go_ret
    exact ⟨_, rfl, HF.out, HB0.out⟩
  subst hg
  have ht : (g1 == g1) = true := by simp
  obtain ⟨p, hp⟩ : ∃ q, decide (xs = ys) = q := ⟨_, rfl⟩
  obtain ⟨q, hq⟩ : ∃ q, decide (es = fs) = q := ⟨_, rfl⟩
  have HPP := Lib.hid hp
  have HQQ := Lib.hid hq
  clear hp hq HR1
  go_enter Tryz.func235, Tryz.ntmps235
  go_wp2_with fail
  rw [← hW0]
  clear hW0
  refine (spec_listEq A1 n1 c1 xs A2 n2 c2 ys p _ HPP.out HI1.out HI2.out).mono ?_
  rintro e wa ⟨rfl, hb⟩
  have hy0_1 := Lib.hid (hy0_0.out.below hb hy0_0.out.lt)
  have hy1_1 := Lib.hid (hy1_0.out.below hb hy1_0.out.lt)
  have BW_1 := Lib.hid (BW_0.out.trans (hb.mono BW_0.out.size))
  replace HJ1 := Lib.hid (HJ1.out.below hb)
  replace HJ2 := Lib.hid (HJ2.out.below hb)
  clear hb
  have ehy00 := hy0_1.out.cell 0
  have ehy01 := hy0_1.out.cell 1
  have ehy02 := hy0_1.out.cell 2
  have ehy10 := hy1_1.out.cell 0
  have ehy11 := hy1_1.out.cell 1
  have ehy12 := hy1_1.out.cell 2
  simp at ehy00 ehy01 ehy02 ehy10 ehy11 ehy12
  cases p
  case false =>
    have HF := Lib.hid (req_no (g1 := g1) (g2 := g1) (es := es) (fs := fs) (fun _ h _ => of_decide_eq_false HPP.out h))
    go_wp2_with fail
    go_ret
    exact ⟨_, rfl, HF.out, BW_1.out⟩
  go_wp2_with fail
  clear ehy00 ehy01 ehy02 ehy10 ehy11 ehy12
  refine (spec_listEq B1 m1 d1 es B2 m2 d2 fs q _ HQQ.out HJ1.out HJ2.out).mono ?_
  rintro e wb ⟨rfl, hb⟩
  have hy0_2 := Lib.hid (hy0_1.out.below hb hy0_1.out.lt)
  have hy1_2 := Lib.hid (hy1_1.out.below hb hy1_1.out.lt)
  have BW_2 := Lib.hid (BW_1.out.trans (hb.mono BW_1.out.size))
  clear hb
  have HF : Hid (RatEqualIs g1 xs es g1 ys fs q) := by
    unfold Hid RatEqualIs
    rw [← HQQ.out, decide_eq_true_iff]
    exact ⟨fun h => ⟨rfl, of_decide_eq_true HPP.out, h⟩, fun h => h.2.2⟩
  go_wp2_with fail
  go_ret
  exact ⟨_, rfl, HF.out, BW_2.out⟩
theorem spec_ratEqual (g1 : Bool) (A1 : Option Addr) (n1 c1 : Nat) (xs : List Int) (B1 : Option Addr) (m1 d1 : Nat) (es : List Int) (g2 : Bool) (A2 : Option Addr) (n2 c2 : Nat) (ys : List Int) (B2 : Option Addr) (m2 d2 : Nat) (fs : List Int) (w : World) (h1 : InI w A1 n1 xs) (r1 : Room A1 n1 c1) (k1 : InI w B1 m1 es) (s1 : Room B1 m1 d1) (h2 : InI w A2 n2 ys) (r2 : Room A2 n2 c2) (k2 : InI w B2 m2 fs) (s2 : Room B2 m2 d2) :
    Calls Tryz.prog 235 #[.agg #[.bool g1, .slice A1 n1 c1, .slice B1 m1 d1], .agg #[.bool g2, .slice A2 n2 c2, .slice B2 m2 d2]] w fun e w' => ∃ b, e = .returned (.bool b) ∧ RatEqualIs g1 xs es g2 ys fs b ∧ Below w.heap.size w w' :=
  (spec_ratEqual0 g1 A1 n1 c1 xs B1 m1 d1 es g2 A2 n2 c2 ys B2 m2 d2 fs w h1 r1 k1 s1 h2 r2 k2 s2).mono fun _ _ h => h
set_option maxHeartbeats 3200000 in
theorem impl_ratEqual0 (g1 : Bool) (A1 : Option Addr) (n1 c1 : Nat) (xs : List Int) (B1 : Option Addr) (m1 d1 : Nat) (es : List Int) (g2 : Bool) (A2 : Option Addr) (n2 c2 : Nat) (ys : List Int) (B2 : Option Addr) (m2 d2 : Nat) (fs : List Int) (w : World) (h1 : InI w A1 n1 xs) (r1 : Room A1 n1 c1) (k1 : InI w B1 m1 es) (s1 : Room B1 m1 d1) (h2 : InI w A2 n2 ys) (r2 : Room A2 n2 c2) (k2 : InI w B2 m2 fs) (s2 : Room B2 m2 d2) :
    Calls Tryz.prog 105 #[.agg #[.bool g1, .slice A1 n1 c1, .slice B1 m1 d1], .agg #[.bool g2, .slice A2 n2 c2, .slice B2 m2 d2]] w fun e w' => BoolEndI (RatEqualIs g1 xs es g2 ys fs) w w' e := by
  have hn1 := h1.2.1
  have hn2 := h2.2.1
  have hm1 := k1.2.1
  have hm2 := k2.2.1
  obtain ⟨W0, hW0⟩ : ∃ W, W = ((w.alloc (.cells #[.bool g1, .slice A1 n1 c1, .slice B1 m1 d1] 30)).alloc (.cells #[.bool g2, .slice A2 n2 c2, .slice B2 m2 d2] 30)) := ⟨_, rfl⟩
  have hy0_0 : Hid (Box W0 (w.heap.size) 30 #[.bool g1, .slice A1 n1 c1, .slice B1 m1 d1]) := by rw [hW0]; exact ((Box.at' (by simp)).alloc _)
  have hy1_0 : Hid (Box W0 (w.heap.size + 1) 30 #[.bool g2, .slice A2 n2 c2, .slice B2 m2 d2]) := by rw [hW0]; exact (Box.at' (by simp))
  have BW_0 : Hid (Below w.heap.size w W0) := by rw [hW0]; exact (((Below.refl w.heap.size w).alloc (by simp) _).alloc (by simp) _)
  have hsz0 : w.heap.size + 1 + 1 ≤ W0.heap.size := by rw [hW0]; simp
  have HI1 := Lib.hid (h1.below BW_0.out)
  have HI2 := Lib.hid (h2.below BW_0.out)
  have HJ1 := Lib.hid (k1.below BW_0.out)
  have HJ2 := Lib.hid (k2.below BW_0.out)
  have R1 := Lib.hid r1
  have R2 := Lib.hid r2
  have S1 := Lib.hid s1
  have S2 := Lib.hid s2
  clear h1 h2 k1 k2 r1 r2 s1 s2
  have HR1 := trivial
  by_cases hg : g1 = g2
  case neg =>
    have HF := Lib.hid (req_no (xs := xs) (es := es) (ys := ys) (fs := fs) (fun h _ _ => hg h))
    have ht : (g1 == g2) = false := by simpa using hg
    clear hg HR1
    have HB0 := Lib.hid (hW0 ▸ BW_0.out)
    go_enter Tryz.func105, Tryz.ntmps105
    go_wp2_with fail
    go_ret
    exact ⟨_, rfl, HF.out, HB0.out⟩
  subst hg
  have ht : (g1 == g1) = true := by simp
  obtain ⟨p, hp⟩ : ∃ q, decide (xs = ys) = q := ⟨_, rfl⟩
  obtain ⟨q, hq⟩ : ∃ q, decide (es = fs) = q := ⟨_, rfl⟩
  have HPP := Lib.hid hp
  have HQQ := Lib.hid hq
  clear hp hq HR1
  go_enter Tryz.func105, Tryz.ntmps105
  go_wp2_with fail
  rw [← hW0]
  clear hW0
  refine (slices_equal A1 n1 c1 xs A2 n2 c2 ys p _ HPP.out HI1.out HI2.out).mono ?_
  rintro e wa ⟨rfl, hb⟩
  have hy0_1 := Lib.hid (hy0_0.out.below hb hy0_0.out.lt)
  have hy1_1 := Lib.hid (hy1_0.out.below hb hy1_0.out.lt)
  have BW_1 := Lib.hid (BW_0.out.trans (hb.mono BW_0.out.size))
  replace HJ1 := Lib.hid (HJ1.out.below hb)
  replace HJ2 := Lib.hid (HJ2.out.below hb)
  clear hb
  have ehy00 := hy0_1.out.cell 0
  have ehy01 := hy0_1.out.cell 1
  have ehy02 := hy0_1.out.cell 2
  have ehy10 := hy1_1.out.cell 0
  have ehy11 := hy1_1.out.cell 1
  have ehy12 := hy1_1.out.cell 2
  simp at ehy00 ehy01 ehy02 ehy10 ehy11 ehy12
  cases p
  case false =>
    have HF := Lib.hid (req_no (g1 := g1) (g2 := g1) (es := es) (fs := fs) (fun _ h _ => of_decide_eq_false HPP.out h))
    go_wp2_with fail
    go_ret
    exact ⟨_, rfl, HF.out, BW_1.out⟩
  go_wp2_with fail
  clear ehy00 ehy01 ehy02 ehy10 ehy11 ehy12
  refine (slices_equal B1 m1 d1 es B2 m2 d2 fs q _ HQQ.out HJ1.out HJ2.out).mono ?_
  rintro e wb ⟨rfl, hb⟩
  have hy0_2 := Lib.hid (hy0_1.out.below hb hy0_1.out.lt)
  have hy1_2 := Lib.hid (hy1_1.out.below hb hy1_1.out.lt)
  have BW_2 := Lib.hid (BW_1.out.trans (hb.mono BW_1.out.size))
  clear hb
  have HF : Hid (RatEqualIs g1 xs es g1 ys fs q) := by
    unfold Hid RatEqualIs
    rw [← HQQ.out, decide_eq_true_iff]
    exact ⟨fun h => ⟨rfl, of_decide_eq_true HPP.out, h⟩, fun h => h.2.2⟩
  go_wp2_with fail
  go_ret
  exact ⟨_, rfl, HF.out, BW_2.out⟩
theorem impl_ratEqual (g1 : Bool) (A1 : Option Addr) (n1 c1 : Nat) (xs : List Int) (B1 : Option Addr) (m1 d1 : Nat) (es : List Int) (g2 : Bool) (A2 : Option Addr) (n2 c2 : Nat) (ys : List Int) (B2 : Option Addr) (m2 d2 : Nat) (fs : List Int) (w : World) (h1 : InI w A1 n1 xs) (r1 : Room A1 n1 c1) (k1 : InI w B1 m1 es) (s1 : Room B1 m1 d1) (h2 : InI w A2 n2 ys) (r2 : Room A2 n2 c2) (k2 : InI w B2 m2 fs) (s2 : Room B2 m2 d2) :
    Calls Tryz.prog 105 #[.agg #[.bool g1, .slice A1 n1 c1, .slice B1 m1 d1], .agg #[.bool g2, .slice A2 n2 c2, .slice B2 m2 d2]] w fun e w' => ∃ b, e = .returned (.bool b) ∧ RatEqualIs g1 xs es g2 ys fs b ∧ Below w.heap.size w w' :=
  (impl_ratEqual0 g1 A1 n1 c1 xs B1 m1 d1 es g2 A2 n2 c2 ys B2 m2 d2 fs w h1 r1 k1 s1 h2 r2 k2 s2).mono fun _ _ h => h
end Go.Proofs.YtdehcddjkcpnfaaGreat
namespace Go.Proofs.YtdehcddjkcpnfaaGreat
set_option maxRecDepth 100000
open Go.RowKit Go.Deep

section
variable {w W W' : World} {g B : Nat} {t : TypeId} {cs : Array Value}
theorem hNew (W : World) {B : Nat} (t : TypeId) (cs : Array Value) (h : B = W.heap.size) : Hid (Box (W.alloc (.cells cs t)) B t cs) := by subst h; exact Lib.hid (Box.new _ _ _)
theorem hNew1 (W : World) (o : Obj) (t : TypeId) (cs : Array Value) : Hid (Box ((W.alloc o).alloc (.cells cs t)) (W.heap.size + 1) t cs) := hNew _ _ _ (by simp)
theorem hBelow (hb : Below W.heap.size W W') (h : Hid (Box W g t cs)) : Hid (Box W' g t cs) := Lib.hid (h.out.below hb h.out.lt)
theorem hGrown {row : Option Nat} (hg : W.grownBy W' row) (hn : some g ≠ row) (h : Hid (Box W g t cs)) : Hid (Box W' g t cs) := Lib.hid (h.out.grown hg hn)
theorem box_ne {t' : TypeId} {cs' : Array Value} (h : Hid (Box W g t cs)) (k : Hid (Box W B t' cs')) (hne : t' ≠ t) : some g ≠ some B := by
  intro e
  have e : g = B := by simpa using e
  subst e
  have h1 : W.heap[g]? = some (.cells cs t (0, 0)) := h.out
  have h2 : W.heap[g]? = some (.cells cs' t' (0, 0)) := k.out
  rw [h1] at h2
  injection h2 with h2
  injection h2 with _ h2
  exact hne h2.symm
theorem bDrew (h : Hid (Below w.heap.size w W)) : Hid (Below w.heap.size w W.drew) := Lib.hid h.out.drew
theorem bAlloc (h : Hid (Below w.heap.size w W)) (o : Obj) : Hid (Below w.heap.size w (W.alloc o)) := Lib.hid (h.out.alloc h.out.size o)
theorem bBelow (hb : Below W.heap.size W W') (h : Hid (Below w.heap.size w W)) : Hid (Below w.heap.size w W') := Lib.hid (h.out.trans (hb.mono h.out.size))
theorem bGrown (hg : W.grownBy W' (some B)) (hB : w.heap.size ≤ B) (h : Hid (Below w.heap.size w W)) : Hid (Below w.heap.size w W') := by
  refine Lib.hid (h.out.grown hg h.out.size (fun k hk => ?_))
  have : B = k := by simpa using hk
  omega
variable {base n : Nat} {v : Value} {xs : List Value}
theorem oDrew (h : Hid (W.ownsRow base 3 1 v n xs)) : Hid (W.drew.ownsRow base 3 1 v n xs) := Lib.hid (own_drew h.out)
theorem oAlloc (h : Hid (W.ownsRow base 3 1 v n xs)) (o : Obj) : Hid ((W.alloc o).ownsRow base 3 1 v n xs) := Lib.hid (h.out.alloc o)
theorem oGrown (hg : W.grownBy W' (some B)) (hn : ∀ k, v.ownBlock = some k → k ≠ B) (h : Hid (W.ownsRow base 3 1 v n xs)) : Hid (W'.ownsRow base 3 1 v n xs) := Lib.hid (h.out.kept hg (by
  cases hv : v.ownBlock with
  | none => exact .inl rfl
  | some k => exact .inr (by have := hn k hv; simpa using this)))
end
theorem own_of_box {w : World} {B : Nat} {e : TypeId} (h : Hid (Box w B e #[])) : w.ownsRow B e 1 (.slice (some ⟨B, 0, none⟩) 0 0) 0 [] := by
  refine ⟨rfl, .inr ⟨B, 0, #[], rfl, Nat.le_refl _, h.out, Nat.le_refl _, by decide, rfl, rfl⟩⟩
/-- Two rows whose blocks are told lie apart. -/
theorem apart_told {u v : Value} {lo hi B H : Nat} (hv : ∀ k, v.ownBlock = some k → lo ≤ k ∧ k < hi) (hu : ∀ k, u.ownBlock = some k → k = B ∨ k = H) (h1 : B < lo ∨ hi ≤ B) (h2 : H < lo ∨ hi ≤ H) : Apart u v := by
  intro k hk hk'
  have a := hv k hk'
  have b := hu k hk
  omega
theorem step_append_lit {P : Program} {w : World} {ops : Array Oper} {o : Oper} {a : Act} {K : Act → World → Prop} {Q : Exit → Act → World → Prop} {E : Prop} (hgd : o.guard = none) (s x : Operand) (t : TypeId)
    (ho : o.op = .call { callee := .builtin .append, args := #[s, x], argTypes := #[t, t] })
    (e : TypeId) (i : TypeInfo) (z : Value) (bytes : Nat) (ht : P.underlying t = some (.slice e)) (hi : P.info? e = some i) (hz : i.zero = some z)
    (hsize : i.size = 1) (hby : i.bytes = bytes) (hzs : z.cells.size = 1)
    (B : Nat) (hs : a.eval s = .slice (some ⟨B, 0, none⟩) 0 0) (A : Option Addr) (m c : Nat) (news : List Value) (hx : a.eval x = .slice A m c) (hB : Hid (Box w B e #[])) (hr : Reads w A news) (hl : news.length = m) (h1 : ∀ u ∈ news, u.oneCell' = true)
    (h63 : m ≤ maxLen) (hbytes : m * bytes ≤ 140737488355328)
    (h : ∀ v' w', w'.ownsRow B e 1 v' m news → w.grownBy w' (some B) → (∀ k, v'.ownBlock = some k → k = B ∨ k = w.heap.size) → (∀ k, v'.ownBlock = some k → k < w'.heap.size) → Hid (Box w B e #[]) → B < w.heap.size → w.heap.size ≤ w'.heap.size → K (a.put o.dst v') w') :
    if Region.wanted o (yielded ops a.tmps) = true then Oper.wp P o a w K Q else E := by
  have hw : Region.wanted o (yielded ops a.tmps) = true := by simp [Region.wanted, hgd]
  rw [if_pos hw]
  have hown := own_of_box hB
  have hlt := hB.out.lt
  have hob : (Value.slice (some ⟨B, 0, none⟩) 0 0).ownBlock = some B := by simp [Value.ownBlock]
  cases A with
  | some ad =>
    obtain ⟨v', w', hrun, h2, h3, _, h5⟩ := run_append_own_at (P := P) w B t o.type e i z 1 bytes ht hi hz hsize hby hzs (by decide) _ 0 [] hown ad m c news (by omega) (fun j u hu => by
      rcases hr with rfl | ⟨b, o, he, _, hc⟩
      · simp at hu
      · cases he
        obtain ⟨hj, rfl⟩ := List.getElem?_eq_some_iff.1 hu
        have := hc j hj
        simpa [Addr.add_lit] using this) h1 (by omega) (by rw [Nat.zero_add]; exact hbytes) (by omega)
    rw [hob] at h3 h5
    unfold Oper.wp execOp
    simp only [ho, resolve, invoke, builtin, Sem.run_bind, Sem.run_pure, Result.andThen_ok, List.map_toArray, List.map_cons, List.map_nil, hs, hx, hrun]
    have h2' : w'.ownsRow B e 1 v' m news := by simpa using h2
    refine h v' w' h2' h3 (fun k hk => ?_) (fun k hk => (h2'.lt k hk).2) hB hlt h3.size
    rcases h5 with h5 | h5 <;> rw [h5] at hk <;> simp at hk <;> omega
  | none =>
    have hn : news = [] := by
      rcases hr with rfl | ⟨b, o, he, _⟩
      · rfl
      · cases he
    subst hn
    obtain rfl : m = 0 := by simpa using hl.symm
    have hrun := run_append_none (P := P) w B t o.type e i ht hi _ 0 [] (by rw [hsize]; exact hown) c
    unfold Oper.wp execOp
    simp only [ho, resolve, invoke, builtin, Sem.run_bind, Sem.run_pure, Result.andThen_ok, List.map_toArray, List.map_cons, List.map_nil, hs, hx, hrun]
    refine h _ w hown (World.grownBy.refl _ _) (fun k hk => ?_) (fun k hk => ?_) hB hlt (Nat.le_refl _)
    · rw [hob] at hk; simp at hk; omega
    · rw [hob] at hk; simp at hk; omega
theorem drew_size (W : World) : W.drew.heap.size = W.heap.size := rfl
theorem own_told {w : World} {base : Nat} {E : TypeId} {size n : Nat} {v : Value} {xs : List Value} (h : w.ownsRow base E size v n xs) : ∃ lo, lo = base ∧ ∀ k, v.ownBlock = some k → lo ≤ k ∧ k < w.heap.size := ⟨base, rfl, fun k hk => h.lt k hk⟩
theorem blk_told {p : Nat → Prop} {B S : Nat} (h : ∀ k, p k → k = B ∨ k = S) : ∃ H, H = S ∧ ∀ k, p k → k = B ∨ k = H := ⟨S, rfl, h⟩
theorem neg_ok2 {g h : Bool} {l d r e : List Int} (k : ROk g l d) (q : RatNegIs g l d h r e) : r = l ∧ e = d ∧ ROk h l d ∧ bval h l = - bval g l := by
  obtain ⟨rfl, rfl, rfl⟩ := ratNeg_unique (rneg_mk k) q
  refine ⟨rfl, rfl, ⟨sgn_bok _ k.1.1, k.2⟩, ?_⟩
  rw [sgn_bval _ k.1.1.1]; cases g <;> simp [bval]
end Go.Proofs.YtdehcddjkcpnfaaGreat
namespace Go.Proofs.YtdehcddjkcpnfaaGreat
set_option maxRecDepth 100000
open Go.RowKit Go.Deep

theorem grat_zero_bad {g : Bool} {l : List Int} : ¬ ROk g l [] := fun h => by have h1 := h.2.2.1; simp [val] at h1
theorem rneg_mkG {g : Bool} {l d : List Int} (h : GRat g l d) : RatNegIs g l d (sgn (!g) l) l d := by
  rcases h with h | ⟨rfl, rfl, rfl⟩
  · exact rneg_mk h
  · exact rIs_no grat_zero_bad
theorem neg_okG {g h : Bool} {l d r e : List Int} (k : GRat g l d) (q : RatNegIs g l d h r e) : r = l ∧ e = d ∧ GRat h l d ∧ bval h l = - bval g l := by
  rcases k with k | ⟨rfl, rfl, rfl⟩
  · obtain ⟨a, b, c, e⟩ := neg_ok2 k q
    exact ⟨a, b, .inl c, e⟩
  · obtain ⟨rfl, rfl, rfl⟩ := ratNeg_unique (rIs_no grat_zero_bad) q
    exact ⟨rfl, rfl, .inr ⟨rfl, rfl, rfl⟩, by simp [bval, val]⟩
theorem sub_of_addG {g1 g2 : Bool} {l1 d1 l2 d2 : List Int} {g h : Bool} {l d r : List Int} (k2 : GRat g2 l2 d2) (q : RatAddIs g1 l1 d1 h r d2 g l d) (k : GRat h r d2) (e : bval h r = - bval g2 l2) : RatSubIs g1 l1 d1 g2 l2 d2 g l d := by
  rcases k2 with k2 | ⟨rfl, rfl, rfl⟩
  · rcases k with k | ⟨_, _, rfl⟩
    · exact sub_of_add k2 q k e
    · exact absurd k2 grat_zero_bad
  · rcases q with ⟨⟨_, k⟩, _⟩ | ⟨_, rfl, rfl, rfl⟩
    · exact absurd k grat_zero_bad
    · exact rIs_no fun k => grat_zero_bad k.2
set_option maxHeartbeats 3200000 in
theorem spec_l04NegG (g1 : Bool) (A1 : Option Addr) (n1 c1 : Nat) (xs : List Int) (B1 : Option Addr) (m1 d1 : Nat) (es : List Int) (w : World) (h1 : InI w A1 n1 xs) (r1 : Room A1 n1 c1) (k1 : InI w B1 m1 es) (s1 : Room B1 m1 d1) (q1 : GRat g1 xs es) :
    Calls Tryz.prog 73 #[.agg #[.bool g1, .slice A1 n1 c1, .slice B1 m1 d1]] w fun e w' => RatEnd (RatNegIs g1 xs es) w w' e := by
  obtain ⟨i0, hi, hz0, hz1, hz2⟩ := info_parts Tryz.infoI
  have hn1 := h1.2.1
  have hm1 := k1.2.1
  obtain ⟨W0, hW0⟩ : ∃ W, W = ((w.alloc (.cells #[.bool g1, .slice A1 n1 c1, .slice B1 m1 d1] 30)).alloc (.cells #[.bool false, .slice none 0 0, .slice none 0 0] 30)) := ⟨_, rfl⟩
  have hy0_0 : Hid (Box W0 (w.heap.size) 30 #[.bool g1, .slice A1 n1 c1, .slice B1 m1 d1]) := by rw [hW0]; exact ((Box.at' (by simp)).alloc _)
  have hs_0 : Hid (Box W0 (w.heap.size + 1) 30 #[.bool false, .slice none 0 0, .slice none 0 0]) := by rw [hW0]; exact (Box.at' (by simp))
  have BW_0 : Hid (Below w.heap.size w W0) := by rw [hW0]; exact (((Below.refl w.heap.size w).alloc (by simp) _).alloc (by simp) _)
  have hsz0 : w.heap.size + 1 + 1 ≤ W0.heap.size := by rw [hW0]; simp
  have HI1 := Lib.hid (h1.below BW_0.out)
  have HJ1 := Lib.hid (k1.below BW_0.out)
  have R1 := Lib.hid r1
  have S1 := Lib.hid s1
  have HH1 := Lib.hid h1
  have HK1 := Lib.hid k1
  clear h1 k1 r1 s1
  go_enter Tryz.func73, Tryz.ntmps73
  go_wp2_with fail
  rw [← hW0]
  clear hW0
  have K1 := Lib.hid q1
  clear q1
  have hn1 : n1 ≤ 24 := by have := K1.out.short.1; rwa [HI1.out.1] at this
  have hm1 : m1 ≤ 24 := by have := K1.out.short.2; rwa [HJ1.out.1] at this
  have HQ := Lib.hid (rneg_mkG K1.out)
  obtain ⟨s, hs0⟩ : ∃ s, s = sgn (!g1) xs := ⟨_, rfl⟩
  rw [← hs0] at HQ
  have HS0 := Lib.hid hs0
  clear hs0
  have cvhy00 : Hid ((#[.bool g1, .slice A1 n1 c1, .slice B1 m1 d1] : Array Value)[0]? = some (.bool g1)) := rfl
  have cvhy01 : Hid ((#[.bool g1, .slice A1 n1 c1, .slice B1 m1 d1] : Array Value)[1]? = some (.slice A1 n1 c1)) := rfl
  have cvhy02 : Hid ((#[.bool g1, .slice A1 n1 c1, .slice B1 m1 d1] : Array Value)[2]? = some (.slice B1 m1 d1)) := rfl
  go_region_held3 (fun w' => w'.cell? ⟨w.heap.size, 0, none⟩ = some (.bool g1) ∧ w'.cell? ⟨w.heap.size, 1, none⟩ = some (.slice A1 n1 c1) ∧ w'.cell? ⟨w.heap.size, 2, none⟩ = some (.slice B1 m1 d1)) (first | with_reducible exact ⟨cellS (t := 30) (by (first | (first | assumption | (with_reducible refine hDrew ?_; (first | assumption | (with_reducible refine hDrew ?_; (first | assumption | (with_reducible refine hDrew ?_; (first | assumption)) | (with_reducible refine hAlloc ?_ _; (first | assumption)))) | (with_reducible refine hAlloc ?_ _; (first | assumption | (with_reducible refine hDrew ?_; (first | assumption)) | (with_reducible refine hAlloc ?_ _; (first | assumption)))))) | (with_reducible refine hAlloc ?_ _; (first | assumption | (with_reducible refine hDrew ?_; (first | assumption | (with_reducible refine hDrew ?_; (first | assumption)) | (with_reducible refine hAlloc ?_ _; (first | assumption)))) | (with_reducible refine hAlloc ?_ _; (first | assumption | (with_reducible refine hDrew ?_; (first | assumption)) | (with_reducible refine hAlloc ?_ _; (first | assumption))))))) | (with_reducible refine hFar (hFar (hFar ?_ (by dsimp only; omega) _) (by dsimp only; omega) _) (by dsimp only; omega) _; (first | assumption | (with_reducible refine hDrew ?_; (first | assumption)) | (with_reducible refine hAlloc ?_ _; (first | assumption)))))) cvhy00, cellS (t := 30) (by (first | (first | assumption | (with_reducible refine hDrew ?_; (first | assumption | (with_reducible refine hDrew ?_; (first | assumption | (with_reducible refine hDrew ?_; (first | assumption)) | (with_reducible refine hAlloc ?_ _; (first | assumption)))) | (with_reducible refine hAlloc ?_ _; (first | assumption | (with_reducible refine hDrew ?_; (first | assumption)) | (with_reducible refine hAlloc ?_ _; (first | assumption)))))) | (with_reducible refine hAlloc ?_ _; (first | assumption | (with_reducible refine hDrew ?_; (first | assumption | (with_reducible refine hDrew ?_; (first | assumption)) | (with_reducible refine hAlloc ?_ _; (first | assumption)))) | (with_reducible refine hAlloc ?_ _; (first | assumption | (with_reducible refine hDrew ?_; (first | assumption)) | (with_reducible refine hAlloc ?_ _; (first | assumption))))))) | (with_reducible refine hFar (hFar (hFar ?_ (by dsimp only; omega) _) (by dsimp only; omega) _) (by dsimp only; omega) _; (first | assumption | (with_reducible refine hDrew ?_; (first | assumption)) | (with_reducible refine hAlloc ?_ _; (first | assumption)))))) cvhy01, cellS (t := 30) (by (first | (first | assumption | (with_reducible refine hDrew ?_; (first | assumption | (with_reducible refine hDrew ?_; (first | assumption | (with_reducible refine hDrew ?_; (first | assumption)) | (with_reducible refine hAlloc ?_ _; (first | assumption)))) | (with_reducible refine hAlloc ?_ _; (first | assumption | (with_reducible refine hDrew ?_; (first | assumption)) | (with_reducible refine hAlloc ?_ _; (first | assumption)))))) | (with_reducible refine hAlloc ?_ _; (first | assumption | (with_reducible refine hDrew ?_; (first | assumption | (with_reducible refine hDrew ?_; (first | assumption)) | (with_reducible refine hAlloc ?_ _; (first | assumption)))) | (with_reducible refine hAlloc ?_ _; (first | assumption | (with_reducible refine hDrew ?_; (first | assumption)) | (with_reducible refine hAlloc ?_ _; (first | assumption))))))) | (with_reducible refine hFar (hFar (hFar ?_ (by dsimp only; omega) _) (by dsimp only; omega) _) (by dsimp only; omega) _; (first | assumption | (with_reducible refine hDrew ?_; (first | assumption)) | (with_reducible refine hAlloc ?_ _; (first | assumption)))))) cvhy02⟩) (first | (go_at_call 134; (with_reducible refine (spec_make (!g1) A1 n1 c1 xs _ HH1.out.len (by omega) R1.out ((HH1.out.below (Hid.out (by (first | assumption | (with_reducible refine bDrew ?_; (first | assumption | (with_reducible refine bDrew ?_; (first | assumption | (with_reducible refine bDrew ?_; (first | assumption)) | (with_reducible refine bAlloc ?_ _; (first | assumption)))) | (with_reducible refine bAlloc ?_ _; (first | assumption | (with_reducible refine bDrew ?_; (first | assumption)) | (with_reducible refine bAlloc ?_ _; (first | assumption)))))) | (with_reducible refine bAlloc ?_ _; (first | assumption | (with_reducible refine bDrew ?_; (first | assumption | (with_reducible refine bDrew ?_; (first | assumption)) | (with_reducible refine bAlloc ?_ _; (first | assumption)))) | (with_reducible refine bAlloc ?_ _; (first | assumption | (with_reducible refine bDrew ?_; (first | assumption)) | (with_reducible refine bAlloc ?_ _; (first | assumption)))))))))).rd) K1.out.nr).mono ?_); rintro e wm ⟨r, v, rfl, hm, ⟨hl, ho⟩, hb⟩; have er : xs = r := made_same K1.out.bok.1 hm; subst er; have hzm := hb.size; (try simp only [drew_size] at hzm); (try simp at hzm); (try (have hL := hBelow (g := W0.heap.size) (t := 3) (cs := #[]) hb (by (first | assumption | with_reducible exact hNew _ _ _ rfl | with_reducible exact hNew1 _ _ _ _ | (with_reducible refine hDrew ?_; (first | assumption | with_reducible exact hNew _ _ _ rfl | with_reducible exact hNew1 _ _ _ _ | (with_reducible refine hDrew ?_; (first | assumption | with_reducible exact hNew _ _ _ rfl | with_reducible exact hNew1 _ _ _ _ | (with_reducible refine hDrew ?_; (first | assumption | with_reducible exact hNew _ _ _ rfl | with_reducible exact hNew1 _ _ _ _)) | (with_reducible refine hAlloc ?_ _; (first | assumption | with_reducible exact hNew _ _ _ rfl | with_reducible exact hNew1 _ _ _ _)))) | (with_reducible refine hAlloc ?_ _; (first | assumption | with_reducible exact hNew _ _ _ rfl | with_reducible exact hNew1 _ _ _ _ | (with_reducible refine hDrew ?_; (first | assumption | with_reducible exact hNew _ _ _ rfl | with_reducible exact hNew1 _ _ _ _)) | (with_reducible refine hAlloc ?_ _; (first | assumption | with_reducible exact hNew _ _ _ rfl | with_reducible exact hNew1 _ _ _ _)))))) | (with_reducible refine hAlloc ?_ _; (first | assumption | with_reducible exact hNew _ _ _ rfl | with_reducible exact hNew1 _ _ _ _ | (with_reducible refine hDrew ?_; (first | assumption | with_reducible exact hNew _ _ _ rfl | with_reducible exact hNew1 _ _ _ _ | (with_reducible refine hDrew ?_; (first | assumption | with_reducible exact hNew _ _ _ rfl | with_reducible exact hNew1 _ _ _ _)) | (with_reducible refine hAlloc ?_ _; (first | assumption | with_reducible exact hNew _ _ _ rfl | with_reducible exact hNew1 _ _ _ _)))) | (with_reducible refine hAlloc ?_ _; (first | assumption | with_reducible exact hNew _ _ _ rfl | with_reducible exact hNew1 _ _ _ _ | (with_reducible refine hDrew ?_; (first | assumption | with_reducible exact hNew _ _ _ rfl | with_reducible exact hNew1 _ _ _ _)) | (with_reducible refine hAlloc ?_ _; (first | assumption | with_reducible exact hNew _ _ _ rfl | with_reducible exact hNew1 _ _ _ _)))))))))); have hy0x := hBelow (g := w.heap.size) (t := 30) (cs := #[.bool g1, .slice A1 n1 c1, .slice B1 m1 d1]) hb (by (first | (first | assumption | (with_reducible refine hDrew ?_; (first | assumption | (with_reducible refine hDrew ?_; (first | assumption | (with_reducible refine hDrew ?_; (first | assumption)) | (with_reducible refine hAlloc ?_ _; (first | assumption)))) | (with_reducible refine hAlloc ?_ _; (first | assumption | (with_reducible refine hDrew ?_; (first | assumption)) | (with_reducible refine hAlloc ?_ _; (first | assumption)))))) | (with_reducible refine hAlloc ?_ _; (first | assumption | (with_reducible refine hDrew ?_; (first | assumption | (with_reducible refine hDrew ?_; (first | assumption)) | (with_reducible refine hAlloc ?_ _; (first | assumption)))) | (with_reducible refine hAlloc ?_ _; (first | assumption | (with_reducible refine hDrew ?_; (first | assumption)) | (with_reducible refine hAlloc ?_ _; (first | assumption))))))) | (with_reducible refine hFar (hFar (hFar ?_ (by dsimp only; omega) _) (by dsimp only; omega) _) (by dsimp only; omega) _; (first | assumption | (with_reducible refine hDrew ?_; (first | assumption)) | (with_reducible refine hAlloc ?_ _; (first | assumption)))))); have hsx := hBelow (g := w.heap.size + 1) (t := 30) (cs := #[.bool false, .slice none 0 0, .slice none 0 0]) hb (by (first | (first | assumption | (with_reducible refine hDrew ?_; (first | assumption | (with_reducible refine hDrew ?_; (first | assumption | (with_reducible refine hDrew ?_; (first | assumption)) | (with_reducible refine hAlloc ?_ _; (first | assumption)))) | (with_reducible refine hAlloc ?_ _; (first | assumption | (with_reducible refine hDrew ?_; (first | assumption)) | (with_reducible refine hAlloc ?_ _; (first | assumption)))))) | (with_reducible refine hAlloc ?_ _; (first | assumption | (with_reducible refine hDrew ?_; (first | assumption | (with_reducible refine hDrew ?_; (first | assumption)) | (with_reducible refine hAlloc ?_ _; (first | assumption)))) | (with_reducible refine hAlloc ?_ _; (first | assumption | (with_reducible refine hDrew ?_; (first | assumption)) | (with_reducible refine hAlloc ?_ _; (first | assumption))))))) | (with_reducible refine hFar (hFar (hFar ?_ (by dsimp only; omega) _) (by dsimp only; omega) _) (by dsimp only; omega) _; (first | assumption | (with_reducible refine hDrew ?_; (first | assumption)) | (with_reducible refine hAlloc ?_ _; (first | assumption)))))); have BWx : Hid (Below w.heap.size w _) := bBelow hb (by (first | assumption | (with_reducible refine bDrew ?_; (first | assumption | (with_reducible refine bDrew ?_; (first | assumption | (with_reducible refine bDrew ?_; (first | assumption)) | (with_reducible refine bAlloc ?_ _; (first | assumption)))) | (with_reducible refine bAlloc ?_ _; (first | assumption | (with_reducible refine bDrew ?_; (first | assumption)) | (with_reducible refine bAlloc ?_ _; (first | assumption)))))) | (with_reducible refine bAlloc ?_ _; (first | assumption | (with_reducible refine bDrew ?_; (first | assumption | (with_reducible refine bDrew ?_; (first | assumption)) | (with_reducible refine bAlloc ?_ _; (first | assumption)))) | (with_reducible refine bAlloc ?_ _; (first | assumption | (with_reducible refine bDrew ?_; (first | assumption)) | (with_reducible refine bAlloc ?_ _; (first | assumption)))))))); have ehs0 := hsx.out.cell 0; have ehs1 := hsx.out.cell 1; have ehs2 := hsx.out.cell 2; have fhs0 := hsx.out.free 0; have fhs1 := hsx.out.free 1; have fhs2 := hsx.out.free 2; simp at ehs0 ehs1 ehs2; obtain ⟨lo, hlo, hiv⟩ := own_told ho; (try simp only [drew_size] at hlo); (try simp at hlo); obtain ⟨A9, c9, rfl⟩ := own_slice ho; obtain ⟨N9, hN⟩ : ∃ N, N = xs.length := ⟨_, rfl⟩; rw [← hN] at ho hl hiv ⊢; have UO := Lib.hid hiv; rw [← HS0.out]; have HN := Lib.hid hN.symm; have HO := Lib.hid ho; clear hm ho hb hN hiv) | (refine step_append_lit rfl _ _ 22 rfl 3 i0 (.int .i64 0) 8 Tryz.underlying22 hi hz0 hz1 hz2 rfl _ rfl B1 m1 d1 (es.map (.int .i64)) rfl (by (first | assumption | with_reducible exact hNew _ _ _ rfl | with_reducible exact hNew1 _ _ _ _ | (with_reducible refine hDrew ?_; (first | assumption | with_reducible exact hNew _ _ _ rfl | with_reducible exact hNew1 _ _ _ _ | (with_reducible refine hDrew ?_; (first | assumption | with_reducible exact hNew _ _ _ rfl | with_reducible exact hNew1 _ _ _ _ | (with_reducible refine hDrew ?_; (first | assumption | with_reducible exact hNew _ _ _ rfl | with_reducible exact hNew1 _ _ _ _)) | (with_reducible refine hAlloc ?_ _; (first | assumption | with_reducible exact hNew _ _ _ rfl | with_reducible exact hNew1 _ _ _ _)))) | (with_reducible refine hAlloc ?_ _; (first | assumption | with_reducible exact hNew _ _ _ rfl | with_reducible exact hNew1 _ _ _ _ | (with_reducible refine hDrew ?_; (first | assumption | with_reducible exact hNew _ _ _ rfl | with_reducible exact hNew1 _ _ _ _)) | (with_reducible refine hAlloc ?_ _; (first | assumption | with_reducible exact hNew _ _ _ rfl | with_reducible exact hNew1 _ _ _ _)))))) | (with_reducible refine hAlloc ?_ _; (first | assumption | with_reducible exact hNew _ _ _ rfl | with_reducible exact hNew1 _ _ _ _ | (with_reducible refine hDrew ?_; (first | assumption | with_reducible exact hNew _ _ _ rfl | with_reducible exact hNew1 _ _ _ _ | (with_reducible refine hDrew ?_; (first | assumption | with_reducible exact hNew _ _ _ rfl | with_reducible exact hNew1 _ _ _ _)) | (with_reducible refine hAlloc ?_ _; (first | assumption | with_reducible exact hNew _ _ _ rfl | with_reducible exact hNew1 _ _ _ _)))) | (with_reducible refine hAlloc ?_ _; (first | assumption | with_reducible exact hNew _ _ _ rfl | with_reducible exact hNew1 _ _ _ _ | (with_reducible refine hDrew ?_; (first | assumption | with_reducible exact hNew _ _ _ rfl | with_reducible exact hNew1 _ _ _ _)) | (with_reducible refine hAlloc ?_ _; (first | assumption | with_reducible exact hNew _ _ _ rfl | with_reducible exact hNew1 _ _ _ _)))))))) ((HK1.out.below (Hid.out (by (first | assumption | (with_reducible refine bDrew ?_; (first | assumption | (with_reducible refine bDrew ?_; (first | assumption | (with_reducible refine bDrew ?_; (first | assumption)) | (with_reducible refine bAlloc ?_ _; (first | assumption)))) | (with_reducible refine bAlloc ?_ _; (first | assumption | (with_reducible refine bDrew ?_; (first | assumption)) | (with_reducible refine bAlloc ?_ _; (first | assumption)))))) | (with_reducible refine bAlloc ?_ _; (first | assumption | (with_reducible refine bDrew ?_; (first | assumption | (with_reducible refine bDrew ?_; (first | assumption)) | (with_reducible refine bAlloc ?_ _; (first | assumption)))) | (with_reducible refine bAlloc ?_ _; (first | assumption | (with_reducible refine bDrew ?_; (first | assumption)) | (with_reducible refine bAlloc ?_ _; (first | assumption)))))))))).rd) (by rw [List.length_map]; exact HK1.out.len) (by simp [Value.oneCell']) (by unfold maxLen; omega) (by omega) ?_; intro ue wne hown hg hblk hblt hB hBlt hsz; obtain ⟨He, hHe, hblk⟩ := blk_told hblk; (try simp only [drew_size] at hBlt hsz hHe); (try simp at hBlt hsz hHe); have hUe := Lib.hid hblk; have hVe := Lib.hid hblt; have hBle := hBlt; have hSze := hsz; (try (have HO := oGrown (v := .slice A9 N9 c9) (n := N9) (xs := xs.map (.int .i64)) hg (fun k hk => by have := UO.out k hk; omega) (by first | exact HO | exact oAlloc HO _ | exact oDrew (oAlloc HO _)))); have hy0x := hGrown (g := w.heap.size) (t := 30) (cs := #[.bool g1, .slice A1 n1 c1, .slice B1 m1 d1]) hg (box_ne (g := w.heap.size) (t := 30) (cs := #[.bool g1, .slice A1 n1 c1, .slice B1 m1 d1]) (by (first | (first | assumption | (with_reducible refine hDrew ?_; (first | assumption | (with_reducible refine hDrew ?_; (first | assumption | (with_reducible refine hDrew ?_; (first | assumption)) | (with_reducible refine hAlloc ?_ _; (first | assumption)))) | (with_reducible refine hAlloc ?_ _; (first | assumption | (with_reducible refine hDrew ?_; (first | assumption)) | (with_reducible refine hAlloc ?_ _; (first | assumption)))))) | (with_reducible refine hAlloc ?_ _; (first | assumption | (with_reducible refine hDrew ?_; (first | assumption | (with_reducible refine hDrew ?_; (first | assumption)) | (with_reducible refine hAlloc ?_ _; (first | assumption)))) | (with_reducible refine hAlloc ?_ _; (first | assumption | (with_reducible refine hDrew ?_; (first | assumption)) | (with_reducible refine hAlloc ?_ _; (first | assumption))))))) | (with_reducible refine hFar (hFar (hFar ?_ (by dsimp only; omega) _) (by dsimp only; omega) _) (by dsimp only; omega) _; (first | assumption | (with_reducible refine hDrew ?_; (first | assumption)) | (with_reducible refine hAlloc ?_ _; (first | assumption)))))) hB (by decide)) (by (first | (first | assumption | (with_reducible refine hDrew ?_; (first | assumption | (with_reducible refine hDrew ?_; (first | assumption | (with_reducible refine hDrew ?_; (first | assumption)) | (with_reducible refine hAlloc ?_ _; (first | assumption)))) | (with_reducible refine hAlloc ?_ _; (first | assumption | (with_reducible refine hDrew ?_; (first | assumption)) | (with_reducible refine hAlloc ?_ _; (first | assumption)))))) | (with_reducible refine hAlloc ?_ _; (first | assumption | (with_reducible refine hDrew ?_; (first | assumption | (with_reducible refine hDrew ?_; (first | assumption)) | (with_reducible refine hAlloc ?_ _; (first | assumption)))) | (with_reducible refine hAlloc ?_ _; (first | assumption | (with_reducible refine hDrew ?_; (first | assumption)) | (with_reducible refine hAlloc ?_ _; (first | assumption))))))) | (with_reducible refine hFar (hFar (hFar ?_ (by dsimp only; omega) _) (by dsimp only; omega) _) (by dsimp only; omega) _; (first | assumption | (with_reducible refine hDrew ?_; (first | assumption)) | (with_reducible refine hAlloc ?_ _; (first | assumption)))))); have hsx := hGrown (g := w.heap.size + 1) (t := 30) (cs := #[.bool false, .slice none 0 0, .slice none 0 0]) hg (box_ne (g := w.heap.size + 1) (t := 30) (cs := #[.bool false, .slice none 0 0, .slice none 0 0]) (by (first | (first | assumption | (with_reducible refine hDrew ?_; (first | assumption | (with_reducible refine hDrew ?_; (first | assumption | (with_reducible refine hDrew ?_; (first | assumption)) | (with_reducible refine hAlloc ?_ _; (first | assumption)))) | (with_reducible refine hAlloc ?_ _; (first | assumption | (with_reducible refine hDrew ?_; (first | assumption)) | (with_reducible refine hAlloc ?_ _; (first | assumption)))))) | (with_reducible refine hAlloc ?_ _; (first | assumption | (with_reducible refine hDrew ?_; (first | assumption | (with_reducible refine hDrew ?_; (first | assumption)) | (with_reducible refine hAlloc ?_ _; (first | assumption)))) | (with_reducible refine hAlloc ?_ _; (first | assumption | (with_reducible refine hDrew ?_; (first | assumption)) | (with_reducible refine hAlloc ?_ _; (first | assumption))))))) | (with_reducible refine hFar (hFar (hFar ?_ (by dsimp only; omega) _) (by dsimp only; omega) _) (by dsimp only; omega) _; (first | assumption | (with_reducible refine hDrew ?_; (first | assumption)) | (with_reducible refine hAlloc ?_ _; (first | assumption)))))) hB (by decide)) (by (first | (first | assumption | (with_reducible refine hDrew ?_; (first | assumption | (with_reducible refine hDrew ?_; (first | assumption | (with_reducible refine hDrew ?_; (first | assumption)) | (with_reducible refine hAlloc ?_ _; (first | assumption)))) | (with_reducible refine hAlloc ?_ _; (first | assumption | (with_reducible refine hDrew ?_; (first | assumption)) | (with_reducible refine hAlloc ?_ _; (first | assumption)))))) | (with_reducible refine hAlloc ?_ _; (first | assumption | (with_reducible refine hDrew ?_; (first | assumption | (with_reducible refine hDrew ?_; (first | assumption)) | (with_reducible refine hAlloc ?_ _; (first | assumption)))) | (with_reducible refine hAlloc ?_ _; (first | assumption | (with_reducible refine hDrew ?_; (first | assumption)) | (with_reducible refine hAlloc ?_ _; (first | assumption))))))) | (with_reducible refine hFar (hFar (hFar ?_ (by dsimp only; omega) _) (by dsimp only; omega) _) (by dsimp only; omega) _; (first | assumption | (with_reducible refine hDrew ?_; (first | assumption)) | (with_reducible refine hAlloc ?_ _; (first | assumption)))))); have BWx : Hid (Below w.heap.size w _) := bGrown hg (by omega) (by (first | assumption | (with_reducible refine bDrew ?_; (first | assumption | (with_reducible refine bDrew ?_; (first | assumption | (with_reducible refine bDrew ?_; (first | assumption)) | (with_reducible refine bAlloc ?_ _; (first | assumption)))) | (with_reducible refine bAlloc ?_ _; (first | assumption | (with_reducible refine bDrew ?_; (first | assumption)) | (with_reducible refine bAlloc ?_ _; (first | assumption)))))) | (with_reducible refine bAlloc ?_ _; (first | assumption | (with_reducible refine bDrew ?_; (first | assumption | (with_reducible refine bDrew ?_; (first | assumption)) | (with_reducible refine bAlloc ?_ _; (first | assumption)))) | (with_reducible refine bAlloc ?_ _; (first | assumption | (with_reducible refine bDrew ?_; (first | assumption)) | (with_reducible refine bAlloc ?_ _; (first | assumption)))))))); have ehs0 := hsx.out.cell 0; have ehs1 := hsx.out.cell 1; have ehs2 := hsx.out.cell 2; have fhs0 := hsx.out.free 0; have fhs1 := hsx.out.free 1; have fhs2 := hsx.out.free 2; simp at ehs0 ehs1 ehs2; have HU := Lib.hid hown; obtain ⟨Be9, de9, rfl⟩ := own_slice hown; clear hown hg hblk hblt hBlt hsz))
  all_goals
    have HAP := Lib.hid (apart_told UO.out hUe.out (by omega) (by omega))
    have HM : Hid (es.length = m1) := HK1.out.1
    go_wp2_with fail
    refine bodyPost_ret (v := .agg #[.bool s, .slice A9 N9 c9, .slice Be9 m1 de9]) (by simp [results, Tryz.results73, ehs0, ehs1, ehs2, go_sem]) rfl ?_
    exact ratEnd_store hsx.out (by omega) BWx.out HQ.out HN.out HM.out (by omega) (by omega) HO.out (by first | omega | (simp only [drew_size]; simp; omega) | (simp only [drew_size]; omega)) HU.out (by first | omega | (simp only [drew_size]; simp; omega) | (simp only [drew_size]; omega)) HAP.out
end Go.Proofs.YtdehcddjkcpnfaaGreat
namespace Go.Proofs.YtdehcddjkcpnfaaGreat
set_option maxRecDepth 100000
open Go.RowKit

end Go.Proofs.YtdehcddjkcpnfaaGreat
