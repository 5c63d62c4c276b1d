/- Contracts of fractions: RatAdd, RatOf, RatFromInt by the model; equality. -/
import Derived.Test.YtegclofijaoajaaGreatRatS5
import Derived.Test.YtegclofijaoajaaGreatGE
import Derived.BigQuiet
import Derived.Test.YtegclofijaoajaaGreatGD
import Derived.Deep.DeepCutAuto
namespace Go.Proofs.YtegclofijaoajaaGreat
set_option maxRecDepth 100000
open Go.RowKit

set_option maxHeartbeats 3200000 in
theorem spec_ratAdd0 (g1 : Bool) (A1 : Option Addr) (n1 c1 : Nat) (xs : List Int) (B1 : Option Addr) (m1 d1 : Nat) (es : List Int) (g2 : Bool) (A2 : Option Addr) (n2 c2 : Nat) (ys : List Int) (B2 : Option Addr) (m2 d2 : Nat) (fs : List Int) (w : World) (h1 : InI w A1 n1 xs) (r1 : Room A1 n1 c1) (k1 : InI w B1 m1 es) (s1 : Room B1 m1 d1) (h2 : InI w A2 n2 ys) (r2 : Room A2 n2 c2) (k2 : InI w B2 m2 fs) (s2 : Room B2 m2 d2) :
    Calls Tryz.prog 243 #[.agg #[.bool g1, .slice A1 n1 c1, .slice B1 m1 d1], .agg #[.bool g2, .slice A2 n2 c2, .slice B2 m2 d2]] w fun e w' => RatEnd (RatAddIs g1 xs es g2 ys fs) w w' e := by
  have hn1 := h1.2.1
  have hn2 := h2.2.1
  have hm1 := k1.2.1
  have hm2 := k2.2.1
  obtain ⟨W0, hW0⟩ : ∃ W, W = (((w.alloc (.cells #[.bool g1, .slice A1 n1 c1, .slice B1 m1 d1] 34)).alloc (.cells #[.bool g2, .slice A2 n2 c2, .slice B2 m2 d2] 34)).alloc (.cells #[.bool false, .slice none 0 0, .slice none 0 0] 34)) := ⟨_, rfl⟩
  have hy0_0 : Hid (Box W0 (w.heap.size) 34 #[.bool g1, .slice A1 n1 c1, .slice B1 m1 d1]) := by rw [hW0]; exact (((Box.at' (by simp)).alloc _).alloc _)
  have hy1_0 : Hid (Box W0 (w.heap.size + 1) 34 #[.bool g2, .slice A2 n2 c2, .slice B2 m2 d2]) := by rw [hW0]; exact ((Box.at' (by simp)).alloc _)
  have hs_0 : Hid (Box W0 (w.heap.size + 1 + 1) 34 #[.bool false, .slice none 0 0, .slice none 0 0]) := by rw [hW0]; exact (Box.at' (by simp))
  have BW_0 : Hid (Below w.heap.size w W0) := by rw [hW0]; exact ((((Below.refl w.heap.size w).alloc (by simp) _).alloc (by simp) _).alloc (by simp; omega) _)
  have hsz0 : w.heap.size + 1 + 1 + 1 ≤ W0.heap.size := by rw [hW0]; simp
  have HI1 := Lib.hid (h1.below BW_0.out)
  have HI2 := Lib.hid (h2.below BW_0.out)
  have HJ1 := Lib.hid (k1.below BW_0.out)
  have HJ2 := Lib.hid (k2.below BW_0.out)
  have R1 := Lib.hid r1
  have R2 := Lib.hid r2
  have S1 := Lib.hid s1
  have S2 := Lib.hid s2
  clear h1 h2 k1 k2 r1 r2 s1 s2
  go_enter Tryz.func243, Tryz.ntmps243
  go_wp2_with fail
  rw [← hW0]
  clear hW0
  refine (spec_ratOk' g1 A1 n1 c1 xs B1 m1 d1 es _ HI1.out HJ1.out).mono ?_
  rintro e wa ⟨⟨b, rfl, hi⟩, hb⟩
  have hy0_1 := Lib.hid (hy0_0.out.below hb hy0_0.out.lt)
  have hy1_1 := Lib.hid (hy1_0.out.below hb hy1_0.out.lt)
  have hs_1 := Lib.hid (hs_0.out.below hb hs_0.out.lt)
  have BW_1 := Lib.hid (BW_0.out.trans (hb.mono BW_0.out.size))
  replace HI1 := Lib.hid (HI1.out.below hb)
  replace HI2 := Lib.hid (HI2.out.below hb)
  replace HJ1 := Lib.hid (HJ1.out.below hb)
  replace HJ2 := Lib.hid (HJ2.out.below hb)
  clear hb
  have ehy00 := hy0_1.out.cell 0
  have ehy01 := hy0_1.out.cell 1
  have ehy02 := hy0_1.out.cell 2
  have ehy10 := hy1_1.out.cell 0
  have ehy11 := hy1_1.out.cell 1
  have ehy12 := hy1_1.out.cell 2
  have ehs0 := hs_1.out.cell 0
  have ehs1 := hs_1.out.cell 1
  have ehs2 := hs_1.out.cell 2
  have fhs0 := hs_1.out.free 0
  have fhs1 := hs_1.out.free 1
  have fhs2 := hs_1.out.free 2
  simp at ehy00 ehy01 ehy02 ehy10 ehy11 ehy12 ehs0 ehs1 ehs2
  cases b
  · have hno : ¬ (ROk g1 xs es ∧ ROk g2 ys fs) := fun h => by have := hi.2 h.1; cases this
    clear hi
    have HZ : Hid (RatAddIs g1 xs es g2 ys fs false [] []) := rIs_no hno
    go_wp2_with fail
    refine bodyPost_ret (v := .agg #[.bool false, .slice none 0 0, .slice none 0 0]) (by simp [results, Tryz.results243, ehs0, ehs1, ehs2, go_sem]) rfl ?_
    exact ratEnd_zero HZ.out (below_store3 BW_1.out (by omega) _ _ _)
  have K1 := Lib.hid (hi.1 rfl)
  clear hi
  go_wp2_with fail
  refine (spec_ratOk' g2 A2 n2 c2 ys B2 m2 d2 fs _ HI2.out HJ2.out).mono ?_
  rintro e wb ⟨⟨b, rfl, hi⟩, hb⟩
  have hy0_2 := Lib.hid (hy0_1.out.below hb hy0_1.out.lt)
  have hy1_2 := Lib.hid (hy1_1.out.below hb hy1_1.out.lt)
  have hs_2 := Lib.hid (hs_1.out.below hb hs_1.out.lt)
  have BW_2 := Lib.hid (BW_1.out.trans (hb.mono BW_1.out.size))
  replace HI1 := Lib.hid (HI1.out.below hb)
  replace HI2 := Lib.hid (HI2.out.below hb)
  replace HJ1 := Lib.hid (HJ1.out.below hb)
  replace HJ2 := Lib.hid (HJ2.out.below hb)
  clear hb
  clear ehy00 ehy01 ehy02 ehy10 ehy11 ehy12 ehs0 fhs0 ehs1 fhs1 ehs2 fhs2
  have ehy00 := hy0_2.out.cell 0
  have ehy01 := hy0_2.out.cell 1
  have ehy02 := hy0_2.out.cell 2
  have ehy10 := hy1_2.out.cell 0
  have ehy11 := hy1_2.out.cell 1
  have ehy12 := hy1_2.out.cell 2
  have ehs0 := hs_2.out.cell 0
  have ehs1 := hs_2.out.cell 1
  have ehs2 := hs_2.out.cell 2
  have fhs0 := hs_2.out.free 0
  have fhs1 := hs_2.out.free 1
  have fhs2 := hs_2.out.free 2
  simp at ehy00 ehy01 ehy02 ehy10 ehy11 ehy12 ehs0 ehs1 ehs2
  cases b
  · have hno : ¬ (ROk g1 xs es ∧ ROk g2 ys fs) := fun h => by have := hi.2 h.2; cases this
    clear hi
    have HZ : Hid (RatAddIs g1 xs es g2 ys fs false [] []) := rIs_no hno
    go_wp2_with fail
    refine bodyPost_ret (v := .agg #[.bool false, .slice none 0 0, .slice none 0 0]) (by simp [results, Tryz.results243, ehs0, ehs1, ehs2, go_sem]) rfl ?_
    exact ratEnd_zero HZ.out (below_store3 BW_2.out (by omega) _ _ _)
  have K2 := Lib.hid (hi.1 rfl)
  clear hi
  have hn1 : n1 ≤ 24 := by have := K1.out.2.2.2.2.1; rwa [HI1.out.1] at this
  have hn2 : n2 ≤ 24 := by have := K2.out.2.2.2.2.1; rwa [HI2.out.1] at this
  have hm1 : m1 ≤ 24 := by have := K1.out.2.2.2.2.2; rwa [HJ1.out.1] at this
  have hm2 : m2 ≤ 24 := by have := K2.out.2.2.2.2.2; rwa [HJ2.out.1] at this
  go_wp2_with fail
  clear ehy00 ehy01 ehy02 ehy10 ehy11 ehy12 ehs0 fhs0 ehs1 fhs1 ehs2 fhs2
  refine (spec_l04Add g1 A1 n1 c1 xs B1 m1 d1 es g2 A2 n2 c2 ys B2 m2 d2 fs _ HI1.out R1.out HJ1.out S1.out HI2.out R2.out HJ2.out S2.out K1.out K2.out).mono ?_
  rintro e wz ⟨s, r, v, dd, u, rfl, hq, ⟨hl1, ho1⟩, ⟨hl2, ho2⟩, hap, hb⟩
  have HQ := Lib.hid (hq)
  have HAP := Lib.hid hap
  have hszl := BW_2.out.size
  have hs_3 := Lib.hid (hs_2.out.below hb hs_2.out.lt)
  have BW_3 := Lib.hid (BW_2.out.trans (hb.mono BW_2.out.size))
  clear hb
  clear hq hap
  obtain ⟨A9, c9, rfl⟩ := own_slice ho1
  obtain ⟨B9, d9, rfl⟩ := own_slice ho2
  obtain ⟨N9, hN9⟩ : ∃ N, N = r.length := ⟨_, rfl⟩
  obtain ⟨M9, hM9⟩ : ∃ N, N = dd.length := ⟨_, rfl⟩
  rw [← hN9] at hl1 ho1 HAP ⊢
  rw [← hM9] at hl2 ho2 HAP ⊢
  have HN := Lib.hid hN9.symm
  have HM := Lib.hid hM9.symm
  have HO := Lib.hid ho1
  have HU := Lib.hid ho2
  clear ho1 ho2 hN9 hM9
  have ehs0 := hs_3.out.cell 0
  have ehs1 := hs_3.out.cell 1
  have ehs2 := hs_3.out.cell 2
  have fhs0 := hs_3.out.free 0
  have fhs1 := hs_3.out.free 1
  have fhs2 := hs_3.out.free 2
  simp at ehs0 ehs1 ehs2
  go_wp2_with fail
  refine bodyPost_ret (v := .agg #[.bool s, .slice A9 N9 c9, .slice B9 M9 d9]) (by simp [results, Tryz.results243, ehs0, ehs1, ehs2, go_sem]) rfl ?_
  exact ratEnd_store hs_3.out (by omega) BW_3.out HQ.out HN.out HM.out (by omega) (by omega) HO.out (by omega) HU.out (by omega) HAP.out
theorem bigOf_ok {n : Int} {g : Bool} {l : List Int} (h : BigIntOfIs n g l) (h0 : -9223372036854775808 ≤ n) (h1 : n ≤ 9223372036854775807) : BOk g l ∧ bval g l = n := by
  have hp : pw 60 > 9223372036854775808 := by decide
  exact bRep_small h (by omega) (by omega)
theorem ratOf_mk {n m : Int} {ga gb : Bool} {la lb : List Int} {g : Bool} {l d : List Int} (ha : BOk ga la ∧ bval ga la = n) (hb : BOk gb lb ∧ bval gb lb = m) (h : RatMakeIs ga la gb lb g l d) : RatOfIs n m g l d := by
  unfold RatMakeIs at h
  rw [ha.2, hb.2] at h
  exact rIs_prop h ⟨ha.1, hb.1⟩ trivial
set_option maxHeartbeats 1600000 in
theorem impl_ratOf (n m : Int) (w : World) (hn : -9223372036854775808 ≤ n ∧ n ≤ 9223372036854775807) (hm : -9223372036854775808 ≤ m ∧ m ≤ 9223372036854775807) :
    Calls Tryz.prog 145 #[.int .i64 n, .int .i64 m] w fun e w' => RatEnd (RatOfIs n m) w w' e := by
  obtain ⟨W0, hW0⟩ : ∃ W, W = (w.alloc (.cells #[.bool false, .slice none 0 0, .slice none 0 0] 34)) := ⟨_, rfl⟩
  have hs_0 : Hid (Box W0 (w.heap.size) 34 #[.bool false, .slice none 0 0, .slice none 0 0]) := by rw [hW0]; exact (Box.at' (by simp))
  have BW_0 : Hid (Below w.heap.size w W0) := by rw [hW0]; exact ((Below.refl w.heap.size w).alloc (by simp) _)
  have hsz0 : w.heap.size + 1 ≤ W0.heap.size := by rw [hW0]; simp
  go_enter Tryz.func145, Tryz.ntmps145
  go_wp2_with fail
  rw [← hW0]
  clear hW0
  refine (impl_bigOf' n _ hn).mono ?_
  rintro e wa ⟨ga, la, va, rfl, hq, ⟨hla, ho⟩, hb⟩
  have HCa := Lib.hid (bigOf_ok hq hn.1 hn.2)
  have hs_1 := Lib.hid (hs_0.out.below hb hs_0.out.lt)
  have BW_1 := Lib.hid (BW_0.out.trans (hb.mono BW_0.out.size))
  clear hb
  obtain ⟨Aa, ca, rfl⟩ := own_slice ho
  obtain ⟨na, hna⟩ : ∃ N, N = la.length := ⟨_, rfl⟩
  rw [← hna] at hla ho ⊢
  have HNa := Lib.hid hna
  have HOa := Lib.hid ho
  clear ho hna
  have hsa : na ≤ 60 := by have := HCa.out.1.1.2; rwa [← HNa.out] at this
  clear hq
  go_wp2_with fail
  refine (impl_bigOf' m _ hm).mono ?_
  rintro e wb ⟨gb, lb, vb, rfl, hq, ⟨hlb, ho⟩, hb⟩
  have HCb := Lib.hid (bigOf_ok hq hm.1 hm.2)
  have hs_2 := Lib.hid (hs_1.out.below hb hs_1.out.lt)
  have BW_2 := Lib.hid (BW_1.out.trans (hb.mono BW_1.out.size))
  replace HOa := Lib.hid (own_below HOa.out hb)
  clear hb
  obtain ⟨Ab, cb, rfl⟩ := own_slice ho
  obtain ⟨nb, hnb⟩ : ∃ N, N = lb.length := ⟨_, rfl⟩
  rw [← hnb] at hlb ho ⊢
  have HNb := Lib.hid hnb
  have HOb := Lib.hid ho
  clear ho hnb
  have hsb : nb ≤ 60 := by have := HCb.out.1.1.2; rwa [← HNb.out] at this
  clear hq
  go_wp2_with fail
  refine (impl_ratMake0 ga Aa na ca la gb Ab nb cb lb _ ⟨HNa.out.symm, by omega, Reads.of_own HOa.out, limbs_bd HCa.out.1.1.1.1⟩ ⟨HNb.out.symm, by omega, Reads.of_own HOb.out, limbs_bd HCb.out.1.1.1.1⟩).mono ?_
  rintro e wz ⟨s, r, v, dd, u, rfl, hq, ⟨hl1, ho1⟩, ⟨hl2, ho2⟩, hap, hb⟩
  have HQ := Lib.hid (ratOf_mk HCa.out HCb.out hq)
  have HAP := Lib.hid hap
  have hszl := BW_2.out.size
  have hs_3 := Lib.hid (hs_2.out.below hb hs_2.out.lt)
  have BW_3 := Lib.hid (BW_2.out.trans (hb.mono BW_2.out.size))
  clear hb
  clear hq hap
  obtain ⟨A9, c9, rfl⟩ := own_slice ho1
  obtain ⟨B9, d9, rfl⟩ := own_slice ho2
  obtain ⟨N9, hN9⟩ : ∃ N, N = r.length := ⟨_, rfl⟩
  obtain ⟨M9, hM9⟩ : ∃ N, N = dd.length := ⟨_, rfl⟩
  rw [← hN9] at hl1 ho1 HAP ⊢
  rw [← hM9] at hl2 ho2 HAP ⊢
  have HN := Lib.hid hN9.symm
  have HM := Lib.hid hM9.symm
  have HO := Lib.hid ho1
  have HU := Lib.hid ho2
  clear ho1 ho2 hN9 hM9
  have ehs0 := hs_3.out.cell 0
  have ehs1 := hs_3.out.cell 1
  have ehs2 := hs_3.out.cell 2
  have fhs0 := hs_3.out.free 0
  have fhs1 := hs_3.out.free 1
  have fhs2 := hs_3.out.free 2
  simp at ehs0 ehs1 ehs2
  go_wp2_with fail
  refine bodyPost_ret (v := .agg #[.bool s, .slice A9 N9 c9, .slice B9 M9 d9]) (by simp [results, Tryz.results145, ehs0, ehs1, ehs2, go_sem]) rfl ?_
  exact ratEnd_store hs_3.out (by omega) BW_3.out HQ.out HN.out HM.out (by omega) (by omega) HO.out (by omega) HU.out (by omega) HAP.out
set_option maxHeartbeats 800000 in
theorem impl_ratFromInt (n : Int) (w : World) (hn : -9223372036854775808 ≤ n ∧ n ≤ 9223372036854775807) :
    Calls Tryz.prog 69 #[.int .i64 n] w fun e w' => RatEnd (RatFromIntIs n) w w' e := by
  obtain ⟨W0, hW0⟩ : ∃ W, W = (w.alloc (.cells #[.bool false, .slice none 0 0, .slice none 0 0] 34)) := ⟨_, rfl⟩
  have hs_0 : Hid (Box W0 (w.heap.size) 34 #[.bool false, .slice none 0 0, .slice none 0 0]) := by rw [hW0]; exact (Box.at' (by simp))
  have BW_0 : Hid (Below w.heap.size w W0) := by rw [hW0]; exact ((Below.refl w.heap.size w).alloc (by simp) _)
  have hsz0 : w.heap.size + 1 ≤ W0.heap.size := by rw [hW0]; simp
  go_enter Tryz.func69, Tryz.ntmps69
  go_wp2_with fail
  rw [← hW0]
  clear hW0
  refine (impl_ratOf n 1 _ hn ⟨by omega, by omega⟩).mono ?_
  rintro e wz ⟨s, r, v, dd, u, rfl, hq, ⟨hl1, ho1⟩, ⟨hl2, ho2⟩, hap, hb⟩
  have HQ : Hid (RatFromIntIs n s r dd) := hq
  have HAP := Lib.hid hap
  have hszl := BW_0.out.size
  have hs_1 := Lib.hid (hs_0.out.below hb hs_0.out.lt)
  have BW_1 := Lib.hid (BW_0.out.trans (hb.mono BW_0.out.size))
  clear hb
  clear hq hap
  obtain ⟨A9, c9, rfl⟩ := own_slice ho1
  obtain ⟨B9, d9, rfl⟩ := own_slice ho2
  obtain ⟨N9, hN9⟩ : ∃ N, N = r.length := ⟨_, rfl⟩
  obtain ⟨M9, hM9⟩ : ∃ N, N = dd.length := ⟨_, rfl⟩
  rw [← hN9] at hl1 ho1 HAP ⊢
  rw [← hM9] at hl2 ho2 HAP ⊢
  have HN := Lib.hid hN9.symm
  have HM := Lib.hid hM9.symm
  have HO := Lib.hid ho1
  have HU := Lib.hid ho2
  clear ho1 ho2 hN9 hM9
  have ehs0 := hs_1.out.cell 0
  have ehs1 := hs_1.out.cell 1
  have ehs2 := hs_1.out.cell 2
  have fhs0 := hs_1.out.free 0
  have fhs1 := hs_1.out.free 1
  have fhs2 := hs_1.out.free 2
  simp at ehs0 ehs1 ehs2
  go_wp2_with fail
  refine bodyPost_ret (v := .agg #[.bool s, .slice A9 N9 c9, .slice B9 M9 d9]) (by simp [results, Tryz.results69, ehs0, ehs1, ehs2, go_sem]) rfl ?_
  exact ratEnd_store hs_1.out (by omega) BW_1.out HQ.out HN.out HM.out (by omega) (by omega) HO.out (by omega) HU.out (by omega) HAP.out
set_option maxHeartbeats 800000 in
theorem spec_ratFromInt (n : Int) (w : World) (hn : -9223372036854775808 ≤ n ∧ n ≤ 9223372036854775807) :
    Calls Tryz.prog 184 #[.int .i64 n] w fun e w' => RatEnd (RatFromIntIs n) w w' e := by
  obtain ⟨W0, hW0⟩ : ∃ W, W = (w.alloc (.cells #[.bool false, .slice none 0 0, .slice none 0 0] 34)) := ⟨_, rfl⟩
  have hs_0 : Hid (Box W0 (w.heap.size) 34 #[.bool false, .slice none 0 0, .slice none 0 0]) := by rw [hW0]; exact (Box.at' (by simp))
  have BW_0 : Hid (Below w.heap.size w W0) := by rw [hW0]; exact ((Below.refl w.heap.size w).alloc (by simp) _)
  have hsz0 : w.heap.size + 1 ≤ W0.heap.size := by rw [hW0]; simp
  go_enter Tryz.func184, Tryz.ntmps184
  go_wp2_with fail
  rw [← hW0]
  clear hW0
  refine (spec_bigOf' n _ hn).mono ?_
  rintro e wz ⟨s, r, v, rfl, hq, ⟨hl1, ho1⟩, hb⟩
  have HQ : Hid (RatFromIntIs n s r [1]) := rfrom_mk hq hn.1 hn.2
  have hszl := BW_0.out.size
  have hszm := hb.size
  have hs_1 := Lib.hid ((hs_0.out.below hb hs_0.out.lt).alloc (.cells #[.int .i64 1] 3))
  have BW_1 := Lib.hid ((BW_0.out.trans (hb.mono BW_0.out.size)).alloc (Nat.le_trans BW_0.out.size hb.size) (.cells #[.int .i64 1] 3))
  obtain ⟨A9, c9, rfl⟩ := own_slice ho1
  obtain ⟨N9, hN9⟩ : ∃ N, N = r.length := ⟨_, rfl⟩
  rw [← hN9] at hl1 ho1 ⊢
  have HN := Lib.hid hN9.symm
  have HO := Lib.hid (ho1.alloc (.cells #[.int .i64 1] 3))
  have hlit : (wz.alloc (.cells #[.int .i64 1] 3)).ownsRow wz.heap.size 3 1 (.slice (some ⟨wz.heap.size, 0, none⟩) 1 1) 1 [.int .i64 1] := World.ownsRow_lit wz #[.int .i64 1] 1 (Nat.le_refl _) (by decide) (by rfl)
  have HU : Hid ((wz.alloc (.cells #[.int .i64 1] 3)).ownsRow wz.heap.size 3 1 (.slice (some ⟨wz.heap.size, 0, none⟩) 1 1) 1 ([1].map (.int .i64))) := hlit
  have HAP := Lib.hid (apart_older' ho1 HU.out)
  have HM : Hid (([1] : List Int).length = 1) := rfl
  clear hq ho1 hN9 hb hlit
  have ehs0 := hs_1.out.cell 0
  have ehs1 := hs_1.out.cell 1
  have ehs2 := hs_1.out.cell 2
  have fhs0 := hs_1.out.free 0
  have fhs1 := hs_1.out.free 1
  have fhs2 := hs_1.out.free 2
  simp at ehs0 ehs1 ehs2
  go_wp2_with fail
  refine bodyPost_ret (v := .agg #[.bool s, .slice A9 N9 c9, .slice (some ⟨wz.heap.size, 0, none⟩) 1 1]) (by simp [results, Tryz.results184, ehs0, ehs1, ehs2, go_sem]) rfl ?_
  exact ratEnd_store hs_1.out (by omega) BW_1.out HQ.out HN.out HM.out (by omega) (by omega) HO.out (by omega) HU.out (by omega) HAP.out
def BoolEndI (Q : Bool → Prop) (w w' : World) (e : Ending) : Prop := ∃ b, e = .returned (.bool b) ∧ Q b ∧ Below w.heap.size w w'
theorem req_no {g1 g2 : Bool} {xs es ys fs : List Int} (h : g1 = g2 → xs = ys → es = fs → False) : RatEqualIs g1 xs es g2 ys fs false := by
  unfold RatEqualIs
  simp only [Bool.false_eq_true, false_iff]
  rintro ⟨a, b, c⟩
  exact h a b c
set_option maxHeartbeats 800000 in
theorem spec_listEq (A1 : Option Addr) (n1 c1 : Nat) (xs : List Int) (A2 : Option Addr) (n2 c2 : Nat) (ys : List Int) (b : Bool) (w : World) (hb : decide (xs = ys) = b) (h1 : InI w A1 n1 xs) (h2 : InI w A2 n2 ys) :
    Calls Tryz.prog 202 #[.slice A1 n1 c1, .slice A2 n2 c2] w fun e w' => e = .returned (.bool b) ∧ Below w.heap.size w w' := by
  obtain ⟨hl1, hn1, hr1, _⟩ := h1
  obtain ⟨hl2, hn2, hr2, _⟩ := h2
  by_cases hne : n1 = n2
  · subst hne
    have HL1 := Lib.hid hl1
    have HL2 := Lib.hid hl2
    have H1 := Lib.hid hr1
    have H2 := Lib.hid hr2
    have HB := Lib.hid hb
    have hbq : ((n1 : Int) != (n1 : Int)) = false := by simp
    clear hl1 hl2 hr1 hr2 hb
    go_enter Tryz.func202, Tryz.ntmps202
    go_wp2_with fail
    go_loopw [5, 13] (fun _ y wr => ∃ k n : Nat, wr = w.drewN n ∧ k ≤ n1 ∧ y = .int .i64 k ∧ Hid (xs.take k = ys.take k)) (fun _ y _ => n1 - (intOf y).toNat)
    case atStart => exact ⟨0, 0, rfl, Nat.zero_le _, rfl, by simp [Hid]⟩
    case round =>
      obtain ⟨k, n, rfl, hk, rfl, heq⟩ := hrel
      by_cases hlt : k < n1
      · have hkx : k < xs.length := by rw [HL1.out]; exact hlt
        have hky : k < ys.length := by rw [HL2.out]; exact hlt
        obtain ⟨b1, o1, rfl, hb1, hc1⟩ := H1.out.at_ (by simp; omega)
        obtain ⟨b2, o2, rfl, hb2, hc2⟩ := H2.out.at_ (by simp; omega)
        obtain ⟨x, hx⟩ : ∃ x, x = xs[k] := ⟨_, rfl⟩
        obtain ⟨y, hy⟩ : ∃ y, y = ys[k] := ⟨_, rfl⟩
        have g1 : w.cell? ⟨b1, o1 + k, none⟩ = some (.int .i64 x) := (hc1 k (by simpa using hkx)).trans (by simp [hx])
        have g2 : w.cell? ⟨b2, o2 + k, none⟩ = some (.int .i64 y) := (hc2 k (by simpa using hky)).trans (by simp [hy])
        have hk0 : (0 : Int) ≤ (k : Int) := by omega
        have hk1 : (k : Int) < (n1 : Int) := by omega
        by_cases hxy : x = y
        · have hnx : Hid (xs.take (k + 1) = ys.take (k + 1)) := by
            unfold Hid; rw [List.take_succ_eq_append_getElem hkx, List.take_succ_eq_append_getElem hky, heq.out, ← hx, ← hy, hxy]
          subst hxy
          clear hc1 hc2 hx hy heq
          go_wp2_with fail
          go_quiet (fail)
          go_wp2_with fail
          go_roundw
          case rel => exact ⟨k + 1, _, rfl, by omega, by go_num, hnx⟩
          case measure => simp [intOf]; omega
        · have hbf : Hid (b = false) := by
            unfold Hid; rw [← HB.out, decide_eq_false_iff_not]; rintro rfl; exact hxy (by rw [hx, hy])
          have hq : (x == y) = false := by simpa using hxy
          clear hc1 hc2 hx hy heq
          go_wp2_with fail
          go_quiet (fail)
          go_wp2_with fail
          go_ret
          exact ⟨ret_bool hbf.out.symm, below_drewN (below_drewN (Below.refl _ _) _) _⟩
      · have hbt : Hid (b = true) := by
          unfold Hid; rw [← HB.out, decide_eq_true_iff]
          have := heq.out
          rwa [List.take_of_length_le (by rw [HL1.out]; omega), List.take_of_length_le (by rw [HL2.out]; omega)] at this
        clear heq
        go_wp2_with fail
        go_ret
        exact ⟨ret_bool hbt.out.symm, below_drewN (Below.refl _ _) _⟩
  · have hbf : Hid (b = false) := by
      unfold Hid; rw [← hb, decide_eq_false_iff_not]; rintro rfl; exact hne (by rw [← hl1, ← hl2])
    have hq : ((n1 : Int) == (n2 : Int)) = false := by simp; omega
    clear hl1 hl2 hr1 hr2 hb
    go_enter Tryz.func202, Tryz.ntmps202
    go_wp2_with fail
    go_ret
    exact ⟨ret_bool hbf.out.symm, Below.refl _ _⟩
set_option maxHeartbeats 800000 in
theorem slices_equal (A1 : Option Addr) (n1 c1 : Nat) (xs : List Int) (A2 : Option Addr) (n2 c2 : Nat) (ys : List Int) (b : Bool) (w : World) (hb : decide (xs = ys) = b) (h1 : InI w A1 n1 xs) (h2 : InI w A2 n2 ys) :
    Calls Tryz.prog 151 #[.slice A1 n1 c1, .slice A2 n2 c2] w fun e w' => e = .returned (.bool b) ∧ Below w.heap.size w w' := by
  obtain ⟨hl1, hn1, hr1, _⟩ := h1
  obtain ⟨hl2, hn2, hr2, _⟩ := h2
  by_cases hne : n1 = n2
  · subst hne
    have HL1 := Lib.hid hl1
    have HL2 := Lib.hid hl2
    have H1 := Lib.hid hr1
    have H2 := Lib.hid hr2
    have HB := Lib.hid hb
    have hbq : ((n1 : Int) != (n1 : Int)) = false := by simp
    clear hl1 hl2 hr1 hr2 hb
    go_enter Tryz.func151, Tryz.ntmps151
    go_wp2_with fail
    go_loopw [5, 13] (fun _ y wr => ∃ k n : Nat, wr = w.drewN n ∧ k ≤ n1 ∧ y = .int .i64 k ∧ Hid (xs.take k = ys.take k)) (fun _ y _ => n1 - (intOf y).toNat)
    case atStart => exact ⟨0, 0, rfl, Nat.zero_le _, rfl, by simp [Hid]⟩
    case round =>
      obtain ⟨k, n, rfl, hk, rfl, heq⟩ := hrel
      by_cases hlt : k < n1
      · have hkx : k < xs.length := by rw [HL1.out]; exact hlt
        have hky : k < ys.length := by rw [HL2.out]; exact hlt
        obtain ⟨b1, o1, rfl, hb1, hc1⟩ := H1.out.at_ (by simp; omega)
        obtain ⟨b2, o2, rfl, hb2, hc2⟩ := H2.out.at_ (by simp; omega)
        obtain ⟨x, hx⟩ : ∃ x, x = xs[k] := ⟨_, rfl⟩
        obtain ⟨y, hy⟩ : ∃ y, y = ys[k] := ⟨_, rfl⟩
        have g1 : w.cell? ⟨b1, o1 + k, none⟩ = some (.int .i64 x) := (hc1 k (by simpa using hkx)).trans (by simp [hx])
        have g2 : w.cell? ⟨b2, o2 + k, none⟩ = some (.int .i64 y) := (hc2 k (by simpa using hky)).trans (by simp [hy])
        have hk0 : (0 : Int) ≤ (k : Int) := by omega
        have hk1 : (k : Int) < (n1 : Int) := by omega
        by_cases hxy : x = y
        · have hnx : Hid (xs.take (k + 1) = ys.take (k + 1)) := by
            unfold Hid; rw [List.take_succ_eq_append_getElem hkx, List.take_succ_eq_append_getElem hky, heq.out, ← hx, ← hy, hxy]
          subst hxy
          clear hc1 hc2 hx hy heq
          go_wp2_with fail
          go_quiet (fail)
          go_wp2_with fail
          go_roundw
          case rel => exact ⟨k + 1, _, rfl, by omega, by go_num, hnx⟩
          case measure => simp [intOf]; omega
        · have hbf : Hid (b = false) := by
            unfold Hid; rw [← HB.out, decide_eq_false_iff_not]; rintro rfl; exact hxy (by rw [hx, hy])
          have hq : (x == y) = false := by simpa using hxy
          clear hc1 hc2 hx hy heq
          go_wp2_with fail
          go_quiet (fail)
          go_wp2_with fail
          go_ret
          exact ⟨ret_bool hbf.out.symm, below_drewN (below_drewN (Below.refl _ _) _) _⟩
      · have hbt : Hid (b = true) := by
          unfold Hid; rw [← HB.out, decide_eq_true_iff]
          have := heq.out
          rwa [List.take_of_length_le (by rw [HL1.out]; omega), List.take_of_length_le (by rw [HL2.out]; omega)] at this
        clear heq
        go_wp2_with fail
        go_ret
        exact ⟨ret_bool hbt.out.symm, below_drewN (Below.refl _ _) _⟩
  · have hbf : Hid (b = false) := by
      unfold Hid; rw [← hb, decide_eq_false_iff_not]; rintro rfl; exact hne (by rw [← hl1, ← hl2])
    have hq : ((n1 : Int) == (n2 : Int)) = false := by simp; omega
    clear hl1 hl2 hr1 hr2 hb
    go_enter Tryz.func151, Tryz.ntmps151
    go_wp2_with fail
    go_ret
    exact ⟨ret_bool hbf.out.symm, Below.refl _ _⟩
set_option maxHeartbeats 3200000 in
theorem spec_ratEqual0 (g1 : Bool) (A1 : Option Addr) (n1 c1 : Nat) (xs : List Int) (B1 : Option Addr) (m1 d1 : Nat) (es : List Int) (g2 : Bool) (A2 : Option Addr) (n2 c2 : Nat) (ys : List Int) (B2 : Option Addr) (m2 d2 : Nat) (fs : List Int) (w : World) (h1 : InI w A1 n1 xs) (r1 : Room A1 n1 c1) (k1 : InI w B1 m1 es) (s1 : Room B1 m1 d1) (h2 : InI w A2 n2 ys) (r2 : Room A2 n2 c2) (k2 : InI w B2 m2 fs) (s2 : Room B2 m2 d2) :
    Calls Tryz.prog 132 #[.agg #[.bool g1, .slice A1 n1 c1, .slice B1 m1 d1], .agg #[.bool g2, .slice A2 n2 c2, .slice B2 m2 d2]] w fun e w' => BoolEndI (RatEqualIs g1 xs es g2 ys fs) w w' e := by
  have hn1 := h1.2.1
  have hn2 := h2.2.1
  have hm1 := k1.2.1
  have hm2 := k2.2.1
  obtain ⟨W0, hW0⟩ : ∃ W, W = ((w.alloc (.cells #[.bool g1, .slice A1 n1 c1, .slice B1 m1 d1] 34)).alloc (.cells #[.bool g2, .slice A2 n2 c2, .slice B2 m2 d2] 34)) := ⟨_, rfl⟩
  have hy0_0 : Hid (Box W0 (w.heap.size) 34 #[.bool g1, .slice A1 n1 c1, .slice B1 m1 d1]) := by rw [hW0]; exact ((Box.at' (by simp)).alloc _)
  have hy1_0 : Hid (Box W0 (w.heap.size + 1) 34 #[.bool g2, .slice A2 n2 c2, .slice B2 m2 d2]) := by rw [hW0]; exact (Box.at' (by simp))
  have BW_0 : Hid (Below w.heap.size w W0) := by rw [hW0]; exact (((Below.refl w.heap.size w).alloc (by simp) _).alloc (by simp) _)
  have hsz0 : w.heap.size + 1 + 1 ≤ W0.heap.size := by rw [hW0]; simp
  have HI1 := Lib.hid (h1.below BW_0.out)
  have HI2 := Lib.hid (h2.below BW_0.out)
  have HJ1 := Lib.hid (k1.below BW_0.out)
  have HJ2 := Lib.hid (k2.below BW_0.out)
  have R1 := Lib.hid r1
  have R2 := Lib.hid r2
  have S1 := Lib.hid s1
  have S2 := Lib.hid s2
  clear h1 h2 k1 k2 r1 r2 s1 s2
  have HR1 := trivial
  by_cases hg : g1 = g2
  case neg =>
    have HF := Lib.hid (req_no (xs := xs) (es := es) (ys := ys) (fs := fs) (fun h _ _ => hg h))
    have ht : (g1 == g2) = false := by simpa using hg
    clear hg HR1
    have HB0 := Lib.hid (hW0 ▸ BW_0.out)
    go_enter Tryz.func132, Tryz.ntmps132
    go_wp2_with fail
    go_ret
    exact ⟨_, rfl, HF.out, HB0.out⟩
  subst hg
  have ht : (g1 == g1) = true := by simp
  obtain ⟨p, hp⟩ : ∃ q, decide (xs = ys) = q := ⟨_, rfl⟩
  obtain ⟨q, hq⟩ : ∃ q, decide (es = fs) = q := ⟨_, rfl⟩
  have HPP := Lib.hid hp
  have HQQ := Lib.hid hq
  clear hp hq HR1
  go_enter Tryz.func132, Tryz.ntmps132
  go_wp2_with fail
  rw [← hW0]
  clear hW0
  refine (spec_listEq A1 n1 c1 xs A2 n2 c2 ys p _ HPP.out HI1.out HI2.out).mono ?_
  rintro e wa ⟨rfl, hb⟩
  have hy0_1 := Lib.hid (hy0_0.out.below hb hy0_0.out.lt)
  have hy1_1 := Lib.hid (hy1_0.out.below hb hy1_0.out.lt)
  have BW_1 := Lib.hid (BW_0.out.trans (hb.mono BW_0.out.size))
  replace HJ1 := Lib.hid (HJ1.out.below hb)
  replace HJ2 := Lib.hid (HJ2.out.below hb)
  clear hb
  have ehy00 := hy0_1.out.cell 0
  have ehy01 := hy0_1.out.cell 1
  have ehy02 := hy0_1.out.cell 2
  have ehy10 := hy1_1.out.cell 0
  have ehy11 := hy1_1.out.cell 1
  have ehy12 := hy1_1.out.cell 2
  simp at ehy00 ehy01 ehy02 ehy10 ehy11 ehy12
  cases p
  case false =>
    have HF := Lib.hid (req_no (g1 := g1) (g2 := g1) (es := es) (fs := fs) (fun _ h _ => of_decide_eq_false HPP.out h))
    go_wp2_with fail
    go_ret
    exact ⟨_, rfl, HF.out, BW_1.out⟩
  go_wp2_with fail
  clear ehy00 ehy01 ehy02 ehy10 ehy11 ehy12
  refine (spec_listEq B1 m1 d1 es B2 m2 d2 fs q _ HQQ.out HJ1.out HJ2.out).mono ?_
  rintro e wb ⟨rfl, hb⟩
  have hy0_2 := Lib.hid (hy0_1.out.below hb hy0_1.out.lt)
  have hy1_2 := Lib.hid (hy1_1.out.below hb hy1_1.out.lt)
  have BW_2 := Lib.hid (BW_1.out.trans (hb.mono BW_1.out.size))
  clear hb
  have HF : Hid (RatEqualIs g1 xs es g1 ys fs q) := by
    unfold Hid RatEqualIs
    rw [← HQQ.out, decide_eq_true_iff]
    exact ⟨fun h => ⟨rfl, of_decide_eq_true HPP.out, h⟩, fun h => h.2.2⟩
  go_wp2_with fail
  go_ret
  exact ⟨_, rfl, HF.out, BW_2.out⟩
theorem spec_ratEqual (g1 : Bool) (A1 : Option Addr) (n1 c1 : Nat) (xs : List Int) (B1 : Option Addr) (m1 d1 : Nat) (es : List Int) (g2 : Bool) (A2 : Option Addr) (n2 c2 : Nat) (ys : List Int) (B2 : Option Addr) (m2 d2 : Nat) (fs : List Int) (w : World) (h1 : InI w A1 n1 xs) (r1 : Room A1 n1 c1) (k1 : InI w B1 m1 es) (s1 : Room B1 m1 d1) (h2 : InI w A2 n2 ys) (r2 : Room A2 n2 c2) (k2 : InI w B2 m2 fs) (s2 : Room B2 m2 d2) :
    Calls Tryz.prog 132 #[.agg #[.bool g1, .slice A1 n1 c1, .slice B1 m1 d1], .agg #[.bool g2, .slice A2 n2 c2, .slice B2 m2 d2]] w fun e w' => ∃ b, e = .returned (.bool b) ∧ RatEqualIs g1 xs es g2 ys fs b ∧ Below w.heap.size w w' :=
  (spec_ratEqual0 g1 A1 n1 c1 xs B1 m1 d1 es g2 A2 n2 c2 ys B2 m2 d2 fs w h1 r1 k1 s1 h2 r2 k2 s2).mono fun _ _ h => h
set_option maxHeartbeats 3200000 in
theorem impl_ratEqual0 (g1 : Bool) (A1 : Option Addr) (n1 c1 : Nat) (xs : List Int) (B1 : Option Addr) (m1 d1 : Nat) (es : List Int) (g2 : Bool) (A2 : Option Addr) (n2 c2 : Nat) (ys : List Int) (B2 : Option Addr) (m2 d2 : Nat) (fs : List Int) (w : World) (h1 : InI w A1 n1 xs) (r1 : Room A1 n1 c1) (k1 : InI w B1 m1 es) (s1 : Room B1 m1 d1) (h2 : InI w A2 n2 ys) (r2 : Room A2 n2 c2) (k2 : InI w B2 m2 fs) (s2 : Room B2 m2 d2) :
    Calls Tryz.prog 81 #[.agg #[.bool g1, .slice A1 n1 c1, .slice B1 m1 d1], .agg #[.bool g2, .slice A2 n2 c2, .slice B2 m2 d2]] w fun e w' => BoolEndI (RatEqualIs g1 xs es g2 ys fs) w w' e := by
  have hn1 := h1.2.1
  have hn2 := h2.2.1
  have hm1 := k1.2.1
  have hm2 := k2.2.1
  obtain ⟨W0, hW0⟩ : ∃ W, W = ((w.alloc (.cells #[.bool g1, .slice A1 n1 c1, .slice B1 m1 d1] 34)).alloc (.cells #[.bool g2, .slice A2 n2 c2, .slice B2 m2 d2] 34)) := ⟨_, rfl⟩
  have hy0_0 : Hid (Box W0 (w.heap.size) 34 #[.bool g1, .slice A1 n1 c1, .slice B1 m1 d1]) := by rw [hW0]; exact ((Box.at' (by simp)).alloc _)
  have hy1_0 : Hid (Box W0 (w.heap.size + 1) 34 #[.bool g2, .slice A2 n2 c2, .slice B2 m2 d2]) := by rw [hW0]; exact (Box.at' (by simp))
  have BW_0 : Hid (Below w.heap.size w W0) := by rw [hW0]; exact (((Below.refl w.heap.size w).alloc (by simp) _).alloc (by simp) _)
  have hsz0 : w.heap.size + 1 + 1 ≤ W0.heap.size := by rw [hW0]; simp
  have HI1 := Lib.hid (h1.below BW_0.out)
  have HI2 := Lib.hid (h2.below BW_0.out)
  have HJ1 := Lib.hid (k1.below BW_0.out)
  have HJ2 := Lib.hid (k2.below BW_0.out)
  have R1 := Lib.hid r1
  have R2 := Lib.hid r2
  have S1 := Lib.hid s1
  have S2 := Lib.hid s2
  clear h1 h2 k1 k2 r1 r2 s1 s2
  have HR1 := trivial
  by_cases hg : g1 = g2
  case neg =>
    have HF := Lib.hid (req_no (xs := xs) (es := es) (ys := ys) (fs := fs) (fun h _ _ => hg h))
    have ht : (g1 == g2) = false := by simpa using hg
    clear hg HR1
    have HB0 := Lib.hid (hW0 ▸ BW_0.out)
    go_enter Tryz.func81, Tryz.ntmps81
    go_wp2_with fail
    go_ret
    exact ⟨_, rfl, HF.out, HB0.out⟩
  subst hg
  have ht : (g1 == g1) = true := by simp
  obtain ⟨p, hp⟩ : ∃ q, decide (xs = ys) = q := ⟨_, rfl⟩
  obtain ⟨q, hq⟩ : ∃ q, decide (es = fs) = q := ⟨_, rfl⟩
  have HPP := Lib.hid hp
  have HQQ := Lib.hid hq
  clear hp hq HR1
  go_enter Tryz.func81, Tryz.ntmps81
  go_wp2_with fail
  rw [← hW0]
  clear hW0
  refine (slices_equal A1 n1 c1 xs A2 n2 c2 ys p _ HPP.out HI1.out HI2.out).mono ?_
  rintro e wa ⟨rfl, hb⟩
  have hy0_1 := Lib.hid (hy0_0.out.below hb hy0_0.out.lt)
  have hy1_1 := Lib.hid (hy1_0.out.below hb hy1_0.out.lt)
  have BW_1 := Lib.hid (BW_0.out.trans (hb.mono BW_0.out.size))
  replace HJ1 := Lib.hid (HJ1.out.below hb)
  replace HJ2 := Lib.hid (HJ2.out.below hb)
  clear hb
  have ehy00 := hy0_1.out.cell 0
  have ehy01 := hy0_1.out.cell 1
  have ehy02 := hy0_1.out.cell 2
  have ehy10 := hy1_1.out.cell 0
  have ehy11 := hy1_1.out.cell 1
  have ehy12 := hy1_1.out.cell 2
  simp at ehy00 ehy01 ehy02 ehy10 ehy11 ehy12
  cases p
  case false =>
    have HF := Lib.hid (req_no (g1 := g1) (g2 := g1) (es := es) (fs := fs) (fun _ h _ => of_decide_eq_false HPP.out h))
    go_wp2_with fail
    go_ret
    exact ⟨_, rfl, HF.out, BW_1.out⟩
  go_wp2_with fail
  clear ehy00 ehy01 ehy02 ehy10 ehy11 ehy12
  refine (slices_equal B1 m1 d1 es B2 m2 d2 fs q _ HQQ.out HJ1.out HJ2.out).mono ?_
  rintro e wb ⟨rfl, hb⟩
  have hy0_2 := Lib.hid (hy0_1.out.below hb hy0_1.out.lt)
  have hy1_2 := Lib.hid (hy1_1.out.below hb hy1_1.out.lt)
  have BW_2 := Lib.hid (BW_1.out.trans (hb.mono BW_1.out.size))
  clear hb
  have HF : Hid (RatEqualIs g1 xs es g1 ys fs q) := by
    unfold Hid RatEqualIs
    rw [← HQQ.out, decide_eq_true_iff]
    exact ⟨fun h => ⟨rfl, of_decide_eq_true HPP.out, h⟩, fun h => h.2.2⟩
  go_wp2_with fail
  go_ret
  exact ⟨_, rfl, HF.out, BW_2.out⟩
theorem impl_ratEqual (g1 : Bool) (A1 : Option Addr) (n1 c1 : Nat) (xs : List Int) (B1 : Option Addr) (m1 d1 : Nat) (es : List Int) (g2 : Bool) (A2 : Option Addr) (n2 c2 : Nat) (ys : List Int) (B2 : Option Addr) (m2 d2 : Nat) (fs : List Int) (w : World) (h1 : InI w A1 n1 xs) (r1 : Room A1 n1 c1) (k1 : InI w B1 m1 es) (s1 : Room B1 m1 d1) (h2 : InI w A2 n2 ys) (r2 : Room A2 n2 c2) (k2 : InI w B2 m2 fs) (s2 : Room B2 m2 d2) :
    Calls Tryz.prog 81 #[.agg #[.bool g1, .slice A1 n1 c1, .slice B1 m1 d1], .agg #[.bool g2, .slice A2 n2 c2, .slice B2 m2 d2]] w fun e w' => ∃ b, e = .returned (.bool b) ∧ RatEqualIs g1 xs es g2 ys fs b ∧ Below w.heap.size w w' :=
  (impl_ratEqual0 g1 A1 n1 c1 xs B1 m1 d1 es g2 A2 n2 c2 ys B2 m2 d2 fs w h1 r1 k1 s1 h2 r2 k2 s2).mono fun _ _ h => h
end Go.Proofs.YtegclofijaoajaaGreat
namespace Go.Proofs.YtegclofijaoajaaGreat
set_option maxRecDepth 100000
open Go.RowKit Go.Deep

section
variable {w W W' : World} {g B : Nat} {t : TypeId} {cs : Array Value}
variable {base n : Nat} {v : Value} {xs : List Value}
end
end Go.Proofs.YtegclofijaoajaaGreat
namespace Go.Proofs.YtegclofijaoajaaGreat
set_option maxRecDepth 100000
open Go.RowKit Go.Deep

end Go.Proofs.YtegclofijaoajaaGreat
namespace Go.Proofs.YtegclofijaoajaaGreat
set_option maxRecDepth 100000
open Go.RowKit

end Go.Proofs.YtegclofijaoajaaGreat
