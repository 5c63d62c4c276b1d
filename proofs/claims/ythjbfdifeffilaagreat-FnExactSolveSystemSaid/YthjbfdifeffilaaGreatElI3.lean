/- Contracts of the elimination, by the program: two rows exchanged. -/
import Derived.Test.YthjbfdifeffilaaGreatElimM
import Derived.Deep.RegionWith
import Derived.BigRegion
namespace Go.Proofs.YthjbfdifeffilaaGreat
set_option maxRecDepth 100000
open Go.RowKit

/-- Rows n and i exchanged in the columns before j. -/
noncomputable def swapTo (P K : Nat) (rs : List RD) (n i j : Nat) : List RD := mk P K fun a b => if b < j then cell K rs (if a = n then i else if a = i then n else a) b else cell K rs a b
section
variable {P K n i j : Nat} {rs : List RD}
theorem swapTo_zero (hl : rs.length = P * K) : swapTo P K rs n i 0 = rs := (mk_of hl fun a b _ _ => by simp).symm
theorem swapTo_all : swapTo P K rs n i K = mswap P K rs n i := mk_congr fun a b _ hb => by rw [if_pos hb]
theorem swapTo_at {a : Nat} (ha : a < P) (hj : j < K) : (swapTo P K rs n i j)[a * K + j]? = some (cell K rs a j) := by
  unfold swapTo; rw [mk_at ha hj, if_neg (Nat.lt_irrefl _)]
theorem swapTo_succ (hn : n < P) (hi : i < P) (hni : n ≠ i) (hj : j < K) : ((swapTo P K rs n i j).set (n * K + j) (cell K rs i j)).set (i * K + j) (cell K rs n j) = swapTo P K rs n i (j + 1) := by
  unfold swapTo
  rw [mk_set hn hj, mk_set hi hj]
  refine mk_congr fun a b _ _ => ?_
  by_cases h1 : a = i ∧ b = j
  · obtain ⟨rfl, rfl⟩ := h1
    simp [Ne.symm hni]
  · rw [if_neg h1]
    by_cases h2 : a = n ∧ b = j
    · obtain ⟨rfl, rfl⟩ := h2
      simp
    · rw [if_neg h2]
      by_cases h3 : b < j
      · rw [if_pos h3, if_pos (show b < j + 1 by omega)]
      · rw [if_neg h3]
        by_cases h4 : b = j
        · rw [if_pos (show b < j + 1 by omega), if_neg (show ¬ a = n by omega), if_neg (show ¬ a = i by omega)]
        · rw [if_neg (show ¬ b < j + 1 by omega)]
theorem mswap_comm : mswap P K rs n i = mswap P K rs i n := mk_congr fun a b _ _ => by
  congr 1
  by_cases h1 : a = n
  · by_cases h2 : a = i
    · rw [if_pos h1, if_pos h2]; omega
    · rw [if_pos h1, if_neg h2, if_pos h1]
  · by_cases h2 : a = i
    · rw [if_neg h1, if_pos h2, if_pos h2]
    · rw [if_neg h1, if_neg h2, if_neg h2, if_neg h1]
end
set_option maxHeartbeats 6400000 in
theorem impl_exchangeRows (base G N c P K i j : Nat) (rs : List RD) (L0 : List El) (w : World) (ho : OwnV w base (.slice (some ⟨G, 0, none⟩) N c) N L0) (hh : Has L0 rs) (hN : N = P * K) (hl : rs.length = N) (hi : i < P) (hj : j < P) (hij : i ≠ j) (hP : P ≤ 24) (hK : K ≤ 24) (hK0 : 0 < K) :
    Calls Tryz.prog 161 #[.agg #[.int .i64 P, .int .i64 K, .slice (some ⟨G, 0, none⟩) N c], .int .i64 i, .int .i64 j] w fun e w' => UnitEnd (Changed base G N c L0 (mswap P K rs i j) w w') e := by
  obtain ⟨W0, hW0⟩ : ∃ W, W = (w.alloc (.cells #[.int .i64 P, .int .i64 K, .slice (some ⟨G, 0, none⟩) N c] 25)) := ⟨_, rfl⟩
  have hm0_0 : Hid (Box W0 (w.heap.size) 25 #[.int .i64 P, .int .i64 K, .slice (some ⟨G, 0, none⟩) N c]) := by rw [hW0]; exact (Box.at' (by simp))
  have BW_0 : Hid (Below w.heap.size w W0) := by rw [hW0]; exact ((Below.refl w.heap.size w).alloc (by simp) _)
  have hsz0 : w.heap.size + 1 ≤ W0.heap.size := by rw [hW0]; simp
  have O0 := Lib.hid (ho.below BW_0.out)
  have HH0 := Lib.hid hh
  have HN := Lib.hid hN
  have HL := Lib.hid hl
  have WW0 : Hid (Wrote (fun k => k = G) w W0) := Wrote.of_below BW_0.out
  have hN5 : N ≤ 576 := by rw [hN]; exact mul_le_576 hP hK
  have hir : i * K + K ≤ N := by rw [hN]; exact row_le hi
  have hjr : j * K + K ≤ N := by rw [hN]; exact row_le hj
  have hcN : N ≤ c := own_le ho.2.1
  have hGs : G < w.heap.size := (own_at0 ho.2.1).2
  have hN20 : N ≤ 1048576 := by omega
  obtain ⟨u, hu⟩ : ∃ u, u = i * K := ⟨_, rfl⟩
  obtain ⟨v, hv⟩ : ∃ v, v = j * K := ⟨_, rfl⟩
  have HU := Lib.hid hu
  have HV := Lib.hid hv
  have hur : u + K ≤ N := by omega
  have hvr : v + K ≤ N := by omega
  have hGW : G < W0.heap.size := by omega
  have hlt0 := hm0_0.out.lt
  clear ho hh hN hl hu hv
  go_enter Tryz.func161, Tryz.ntmps161
  go_upto_region 1 with fail
  rw [← hW0]
  clear hW0
  go_cut [6, 7] (fun s6 s7 wx => ∃ c6 c7 : Nat, s6 = .slice (some ⟨G, u * 3, none⟩) K c6 ∧ s7 = .slice (some ⟨G, v * 3, none⟩) K c7 ∧ Hid (K ≤ c6) ∧ Hid (K ≤ c7) ∧ Hid (Below W0.heap.size W0 wx))
  case first =>
    have D_0 := Lib.hid hm0_0.out.drew
    have B_0 := Lib.hid (Below.refl W0.heap.size W0).drew
    go_region_held3 (fun w' => w'.cell? ⟨w.heap.size, 0, none⟩ = some (.int .i64 P) ∧ w'.cell? ⟨w.heap.size, 1, none⟩ = some (.int .i64 K) ∧ w'.cell? ⟨w.heap.size, 2, none⟩ = some (.slice (some ⟨G, 0, none⟩) N c)) (first | with_reducible exact box3_far D_2 | with_reducible exact box3_far D_1 | with_reducible exact box3_far D_0) (first | (go_at_call 72; first | ((with_reducible refine (impl_rowAt P K i (some ⟨G, 0, none⟩) N c _ hir hN20 hcN (fun _ => ⟨G, 0, rfl⟩) (by omega) hK).mono ?_); rintro e w3 ⟨A7, c6, rfl, hc6, hat6, hb6⟩; rw [← HU.out] at hat6; obtain rfl : A7 = some ⟨G, u * 3, none⟩ := (by rcases hat6 with h0 | ⟨bb, oo, hA, hA'⟩; (exfalso; omega); (cases hA; rw [hA', Nat.zero_add])); first | (have D_2 := Lib.hid (D_1.out.below hb6 D_1.out.lt); have B_2 := Lib.hid (B_1.out.trans (hb6.mono B_1.out.size)); clear hat6 hb6) | (have D_1 := Lib.hid (D_0.out.below hb6 D_0.out.lt); have B_1 := Lib.hid (B_0.out.trans (hb6.mono B_0.out.size)); clear hat6 hb6)) | ((with_reducible refine (impl_rowAt P K j (some ⟨G, 0, none⟩) N c _ hjr hN20 hcN (fun _ => ⟨G, 0, rfl⟩) (by omega) hK).mono ?_); rintro e w4 ⟨A8, c7, rfl, hc7, hat7, hb7⟩; rw [← HV.out] at hat7; obtain rfl : A8 = some ⟨G, v * 3, none⟩ := (by rcases hat7 with h0 | ⟨bb, oo, hA, hA'⟩; (exfalso; omega); (cases hA; rw [hA', Nat.zero_add])); first | (have D_2 := Lib.hid (D_1.out.below hb7 D_1.out.lt); have B_2 := Lib.hid (B_1.out.trans (hb7.mono B_1.out.size)); clear hat7 hb7) | (have D_1 := Lib.hid (D_0.out.below hb7 D_0.out.lt); have B_1 := Lib.hid (B_0.out.trans (hb7.mono B_0.out.size)); clear hat7 hb7))))
    all_goals (go_wp2_with fail; go_meet; exact ⟨c6, c7, rfl, rfl, hc6, hc7, B_2⟩)
  obtain ⟨c6, c7, rfl, rfl, hc6, hc7, HB⟩ := hcut
  have W1 := Lib.hid (WW0.out.trans (Wrote.of_below HB.out))
  have O1 := Lib.hid (O0.out.below HB.out)
  clear HB hc6 hc7
  go_wp2_with fail
  go_loopw [17] (fun y wr => ∃ (k : Nat) (L : List El), k ≤ K ∧ y = .int .i64 k ∧ Hid (OwnV wr base (.slice (some ⟨G, 0, none⟩) N c) N L) ∧ Hid (Has L (swapTo P K rs i j k)) ∧ Hid (Wrote (fun k => k = G) w wr) ∧ Hid (FootIn w L0 L)) (fun y _ => K - (intOf y).toNat)
  case atStart => exact ⟨0, L0, Nat.zero_le _, rfl, O1, by rw [swapTo_zero (by rw [HL.out, HN.out])]; exact HH0, W1, FootIn.refl _ _⟩
  case round =>
    obtain ⟨k, L, hle, rfl, ho, hh, hW, hF⟩ := hrel
    by_cases hlt : k < K
    · have hk0 : (0 : Int) ≤ (k : Int) := by omega
      have hk1 : (k : Int) < (K : Int) := by omega
      obtain ⟨g1, A1, n1, d1, xs1, B1, m1, e1, ys1, hL1, ⟨p0, p1, p2⟩, f0, f1, f2⟩ := ho.out.el (i := u + k) (by omega)
      obtain ⟨g2, A2, n2, d2, xs2, B2, m2, e2, ys2, hL2, ⟨q0, q1, q2⟩, h0, h1, h2⟩ := ho.out.el (i := v + k) (by omega)
      have hab : u + k ≠ v + k := by
        intro e
        have : i * K = j * K := by rw [← HU.out, ← HV.out]; omega
        exact hij (Nat.eq_of_mul_eq_mul_right hK0 this)
      have hSW := fun W hW => ho.out.swap (W := W) hab hL1 hL2 hW
      have hH2 : Has ((L.set (u + k) ⟨g2, .slice A2 n2 d2, n2, xs2, .slice B2 m2 e2, m2, ys2⟩).set (v + k) ⟨g1, .slice A1 n1 d1, n1, xs1, .slice B1 m1 e1, m1, ys1⟩) (swapTo P K rs i j (k + 1)) := by
        rw [← swapTo_succ hi hj hij hlt, ← HU.out, ← HV.out]
        exact has_swap hh.out hL1 hL2 (by rw [HU.out]; exact swapTo_at hi hlt) (by rw [HV.out]; exact swapTo_at hj hlt)
      have HF2 := Lib.hid (hF.out.swap hL1 hL2)
      simp only [Nat.add_mul] at hSW
      rw [Nat.add_mul] at p0 p1 p2 f0 f1 f2 q0 q1 q2 h0 h1 h2
      have HSW := Lib.hid hSW
      have HH2 := Lib.hid hH2
      have hne : u * 3 + k * 3 ≠ v * 3 + k * 3 := by omega
      clear hSW hH2 hL1 hL2 hab
      go_wp2_with fail
      go_region
      have hs := HSW.out _ rfl
      have HO := Lib.hid (OwnV.drew hs.1)
      have HW2 := Lib.hid ((hW.out.trans hs.2).trans (Wrote.of_below (Below.refl _ _).drew))
      clear hs
      go_wp2_with fail
      go_roundw
      case rel => exact ⟨k + 1, _, by omega, by go_num, HO, HH2, HW2, HF2⟩
      case measure => simp [intOf]; omega
    · obtain rfl : k = K := by omega
      have HF : Hid (UnitEnd (Changed base G N c L0 (mswap P k rs i j) w wr) (.returned (.tuple #[]))) := ⟨rfl, ⟨L, ho.out, by rw [← swapTo_all]; exact hh.out, hF.out⟩, hW.out⟩
      go_wp2_with fail
      go_end0
      exact HF.out
end Go.Proofs.YthjbfdifeffilaaGreat
