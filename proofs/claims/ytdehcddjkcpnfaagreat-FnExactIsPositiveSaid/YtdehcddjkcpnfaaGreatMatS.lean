/- Contracts of matrices, by the model: valid or not; rows and elements. -/
import Derived.Test.YtdehcddjkcpnfaaGreatMatC
namespace Go.Proofs.YtdehcddjkcpnfaaGreat
set_option maxRecDepth 100000
open Go.RowKit

set_option maxHeartbeats 1600000 in
theorem spec_matrixOk0 (p k : Int) (A : Option Addr) (n c : Nat) (rs : List RD) (w : World) (h : InV w A n rs) (hp : -9223372036854775808 ≤ p ∧ p ≤ 9223372036854775807) (hk : -9223372036854775808 ≤ k ∧ k ≤ 9223372036854775807) :
    Calls Tryz.prog 138 #[.agg #[.int .i64 p, .int .i64 k, .slice A n c]] w fun e w' => MOkEnd p k rs w w' e := by
  obtain ⟨W0, hW0⟩ : ∃ W, W = (w.alloc (.cells #[.int .i64 p, .int .i64 k, .slice A n c] 47)) := ⟨_, rfl⟩
  have hm0_0 : Hid (Box W0 (w.heap.size) 47 #[.int .i64 p, .int .i64 k, .slice A n c]) := by rw [hW0]; exact (Box.at' (by simp))
  have BW_0 : Hid (Below w.heap.size w W0) := by rw [hW0]; exact ((Below.refl w.heap.size w).alloc (by simp) _)
  have hsz0 : w.heap.size + 1 ≤ W0.heap.size := by rw [hW0]; simp
  have hn := h.2.1
  have HV := Lib.hid (h.below BW_0.out)
  clear h
  obtain ⟨b1, hb1⟩ : ∃ b, (decide (0 ≤ p) && decide (p ≤ 24)) = b := ⟨_, rfl⟩
  have H1 := Lib.hid hb1
  clear hb1
  go_enter Tryz.func138, Tryz.ntmps138
  go_wp2_with fail
  rw [← hW0]
  clear hW0
  refine (spec_in p 0 24 b1 H1.out _).mono ?_
  rintro e w1 ⟨rfl, rfl⟩
  have ehm00 := hm0_0.out.cell 0
  have ehm01 := hm0_0.out.cell 1
  have ehm02 := hm0_0.out.cell 2
  simp at ehm00 ehm01 ehm02
  cases b1
  case false =>
    have HF : Hid (MOkEnd p k rs w W0 (.returned (.bool false))) := ⟨false, rfl, mat_no (fun h => in_no H1.out h.1), BW_0.out⟩
    go_wp2_with fail
    go_ret
    exact HF.out
  have hp2 := in_yes H1.out
  obtain ⟨b2, hb2⟩ : ∃ b, (decide (0 ≤ k) && decide (k ≤ 24)) = b := ⟨_, rfl⟩
  have H2 := Lib.hid hb2
  clear hb2
  go_wp2_with fail
  refine (spec_in k 0 24 b2 H2.out _).mono ?_
  rintro e w1 ⟨rfl, rfl⟩
  cases b2
  case false =>
    have HF : Hid (MOkEnd p k rs w W0 (.returned (.bool false))) := ⟨false, rfl, mat_no (fun h => in_no H2.out h.2.1), BW_0.out⟩
    go_wp2_with fail
    go_ret
    exact HF.out
  have hk2 := in_yes H2.out
  obtain ⟨P, rfl⟩ : ∃ P : Nat, p = P := ⟨p.toNat, by omega⟩
  obtain ⟨K, rfl⟩ : ∃ K : Nat, k = K := ⟨k.toNat, by omega⟩
  obtain ⟨hPK0, hPK1⟩ := prod576 (P := P) (K := K) (by omega) (by omega)
  obtain ⟨u, hu⟩ : ∃ u : Nat, (P : Int) * (K : Int) = u := ⟨P * K, (Int.natCast_mul _ _).symm⟩
  have HU := Lib.hid hu
  by_cases hne : ((n : Int) != (u : Int)) = true
  · have HF : Hid (MOkEnd P K rs w W0 (.returned (.bool false))) := ⟨false, rfl, mat_no (fun h => by have h1 := h.2.2.1; rw [HU.out, HV.out.1] at h1; simp at hne; omega), BW_0.out⟩
    go_wp2_with fail
    go_ret
    exact HF.out
  have hne2 : ((n : Int) != (u : Int)) = false := by simpa using hne
  go_wp2_with fail
  clear ehm00 ehm01 ehm02
  go_loopw [29] (fun x wr => ∃ i : Nat, i ≤ n ∧ x = .int .i64 i ∧ Hid (OkTo rs i) ∧ Hid (Below W0.heap.size W0 wr)) (fun x _ => n - (intOf x).toNat)
  case atStart => exact ⟨0, Nat.zero_le _, rfl, OkTo.zero _, Below.refl _ _⟩
  case round =>
    obtain ⟨i, hle, rfl, hk, hb⟩ := hrel
    by_cases hlt : i < n
    · obtain ⟨b, o, rfl, hbs, r, hr, A1, n1, c1, B1, m1, d1, hat, i1, _, j1, _⟩ := (HV.out.below hb.out).at_ i hlt
      obtain ⟨e0, e1, e2⟩ := hat
      have hi0 : (0 : Int) ≤ (i : Int) := by omega
      have hi1 : (i : Int) < (n : Int) := by omega
      have HI := Lib.hid i1
      have HJ := Lib.hid j1
      have HR := Lib.hid hr
      clear i1 j1 hr
      go_wp2_with fail
      have HB := Lib.hid (hb.out.alloc hb.out.size (.cells #[.bool r.g, .slice A1 n1 c1, .slice B1 m1 d1] 30))
      have hbx : Below wr.heap.size wr (wr.alloc (.cells #[.bool r.g, .slice A1 n1 c1, .slice B1 m1 d1] 30)) := (Below.refl _ _).alloc (Nat.le_refl _) _
      refine (spec_ratOk' r.g A1 n1 c1 r.xs B1 m1 d1 r.ds _ (HI.out.below hbx) (HJ.out.below hbx)).mono ?_
      rintro e w1 ⟨⟨q, rfl, hq⟩, hb1⟩
      have HB2 := Lib.hid (HB.out.trans (hb1.mono HB.out.size))
      clear hb1 hbx
      cases q
      · have HF : Hid (MOkEnd P K rs w w1 (.returned (.bool false))) := ⟨false, rfl, mat_no (fun h => by have h1 := hq.2 (h.all _ (List.mem_of_getElem? HR.out)); cases h1), BW_0.out.trans (HB2.out.mono BW_0.out.size)⟩
        clear hq
        go_wp2_with fail
        go_ret
        exact HF.out
      · have HK := Lib.hid (hk.out.succ HR.out (hq.1 rfl))
        clear hq
        go_wp2_with fail
        go_roundw
        case rel => exact ⟨i + 1, by omega, by go_num, HK, HB2⟩
        case measure => simp [intOf]; omega
    · obtain rfl : i = n := by omega
      have HF : Hid (MOkEnd P K rs w wr (.returned (.bool true))) := ⟨true, rfl, mat_yes ⟨by omega, by omega, by rw [HU.out, HV.out.1]; simp at hne; omega, fun r hr => hk.out r (by rw [List.take_of_length_le (by rw [HV.out.1]; omega)]; exact hr)⟩, BW_0.out.trans (hb.out.mono BW_0.out.size)⟩
      go_wp2_with fail
      go_ret
      exact HF.out
set_option maxHeartbeats 1600000 in
theorem spec_l06At (p : Int) (K i j : Nat) (A : Option Addr) (n c : Nat) (rs : List RD) (r : RD) (w : World) (h : InV w A n rs) (hr : rs[i * K + j]? = some r) (_hi : i ≤ 24) (_hK : K ≤ 24) :
    Calls Tryz.prog 141 #[.agg #[.int .i64 p, .int .i64 K, .slice A n c], .int .i64 i, .int .i64 j] w fun e w' => AtEnd r w w' e := by
  have hn := h.2.1
  obtain ⟨u, hu⟩ : ∃ u, u = i * K := ⟨_, rfl⟩
  have hik : (i : Int) * (K : Int) = u := by rw [hu]; exact (Int.natCast_mul _ _).symm
  rw [← hu] at hr
  obtain ⟨hlt, _⟩ := List.getElem?_eq_some_iff.1 hr
  rw [h.1] at hlt
  obtain ⟨t, ht⟩ : ∃ t, t = u + j := ⟨_, rfl⟩
  have huj : (u : Int) + (j : Int) = (t : Int) := by omega
  rw [← ht] at hr hlt
  obtain ⟨b, o, rfl, hbs, r', hr', A1, n1, c1, B1, m1, d1, hat, i1, ra, j1, rb⟩ := h.at_ t hlt
  obtain rfl : r = r' := by rw [hr] at hr'; exact Option.some.inj hr'
  obtain ⟨e0, e1, e2⟩ := hat
  have HI := Lib.hid i1
  have HJ := Lib.hid j1
  have RA := Lib.hid ra
  have RB := Lib.hid rb
  have ht0 : (0 : Int) ≤ (t : Int) := by omega
  have ht1 : (t : Int) < (n : Int) := by omega
  have hn1 := i1.2.1
  have hm1 := j1.2.1
  clear h hr hr' i1 j1 ra rb hu ht
  go_enter Tryz.func141, Tryz.ntmps141
  go_wp2_with fail
  refine bodyPost_ret (v := .agg #[.bool r.g, .slice A1 n1 c1, .slice B1 m1 d1]) (by simp [results, Tryz.results141, go_sem]) rfl ?_
  have hb := fun (o1 o2 : Obj) => ((Below.refl w.heap.size w).alloc (Nat.le_refl _) o1).alloc (by simp) o2
  exact ⟨A1, n1, c1, B1, m1, d1, rfl, HI.out.below (hb _ _), RA.out, HJ.out.below (hb _ _), RB.out, hb _ _⟩
end Go.Proofs.YtdehcddjkcpnfaaGreat
