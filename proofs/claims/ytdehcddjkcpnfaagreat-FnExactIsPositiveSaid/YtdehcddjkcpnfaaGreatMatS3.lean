/- Contracts of matrices, by the model: the identity. -/
import Derived.Test.YtdehcddjkcpnfaaGreatMatS
import Derived.Test.YtdehcddjkcpnfaaGreatGW
import Derived.Deep.RegionLaw
namespace Go.Proofs.YtdehcddjkcpnfaaGreat
set_option maxRecDepth 100000
open Go.RowKit

/-- The identity's first i ones; the rest is nought. -/
noncomputable def identTo (n i : Nat) : List RD := (List.range (n * n)).map fun t => if t / n = t % n ∧ t / n < i then rint 1 else rint 0
theorem identTo_length (n i : Nat) : (identTo n i).length = n * n := by simp [identTo]
theorem identTo_zero (n : Nat) : identTo n 0 = List.replicate (n * n) (rint 0) := by
  apply List.ext_getElem?
  intro t
  by_cases h : t < n * n <;> simp [identTo, h]
theorem identTo_all (n : Nat) : identTo n n = ident n := by
  apply List.ext_getElem?
  intro t
  by_cases h : t < n * n
  · have h1 : t / n < n := by
      rw [Nat.div_lt_iff_lt_mul (by rcases Nat.eq_zero_or_pos n with h0 | h0; subst h0; omega; exact h0)]; exact h
    simp [identTo, ident, h, h1]
  · simp [identTo, ident, h]
theorem identTo_succ {n i : Nat} (hi : i < n) : (identTo n i).set (i * n + i) (rint 1) = identTo n (i + 1) := by
  apply List.ext_getElem?
  intro t
  have hlt : i * n + i < n * n := cell_lt hi hi
  rw [List.getElem?_set]
  by_cases e : i * n + i = t
  · subst e
    rw [if_pos rfl, if_pos (by rw [identTo_length]; exact hlt)]
    have e1 := div_of (P := n) (j := i) hi
    have e2 := mod_of (P := n) (j := i) hi
    simp [identTo, hlt, e1, e2]
  · rw [if_neg e]
    by_cases h : t < n * n
    · have : (t / n = t % n ∧ t / n < i) ↔ (t / n = t % n ∧ t / n < i + 1) := by
        refine ⟨fun hh => ⟨hh.1, by omega⟩, fun hh => ⟨hh.1, ?_⟩⟩
        rcases Nat.lt_or_ge (t / n) i with h1 | h1
        · exact h1
        · exfalso
          have h2 : t / n = i := by omega
          have h3 := Nat.div_add_mod t n
          rw [← hh.1, h2, Nat.mul_comm] at h3
          exact e h3
      simp [identTo, h, this]
    · simp [identTo, h]
theorem identTo_goods {n i : Nat} (h : n ≤ 24) : Goods (identTo n i) := ⟨by rw [identTo_length]; have := mul_le_576 h h; omega, fun x hx => by
  obtain ⟨t, _, rfl⟩ := List.mem_map.1 hx
  split
  · exact rint_good 1
  · exact rint_good 0⟩
/-- A list that is held in a struct with its numbers of rows and columns. -/
def HoldMEnd (P K : Nat) (rs : List RD) (w w' : World) (e : Ending) : Prop := ∃ A c L, e = .returned (.agg #[.int .i64 P, .int .i64 K, .slice A (P * K) c]) ∧ OwnV w' w.heap.size (.slice A (P * K) c) (P * K) L ∧ Has L rs ∧ Below w.heap.size w w'
set_option maxHeartbeats 1600000 in
theorem spec_l06Zero (P K : Nat) (w : World) (hP : P ≤ 24) (hK : K ≤ 24) :
    Calls Tryz.prog 201 #[.int .i64 P, .int .i64 K] w fun e w' => HoldMEnd P K (List.replicate (P * K) (rint 0)) w w' e := by
  have hm := mul_le_576 hP hK
  obtain ⟨u, hu⟩ : ∃ u, u = P * K := ⟨_, rfl⟩
  have hPK : (P : Int) * (K : Int) = u := by rw [hu]; exact (Int.natCast_mul _ _).symm
  unfold HoldMEnd
  rw [← hu] at hm ⊢
  clear hu
  obtain ⟨W0, hW0⟩ : ∃ W, W = (w.alloc (.cells #[.int .i64 0, .int .i64 0, .slice none 0 0] 47)) := ⟨_, rfl⟩
  have ht_0 : Hid (Box W0 (w.heap.size) 47 #[.int .i64 0, .int .i64 0, .slice none 0 0]) := by rw [hW0]; exact (Box.at' (by simp))
  have BW_0 : Hid (Below w.heap.size w W0) := by rw [hW0]; exact ((Below.refl w.heap.size w).alloc (by simp) _)
  have hsz0 : w.heap.size + 1 ≤ W0.heap.size := by rw [hW0]; simp
  go_enter Tryz.func201, Tryz.ntmps201
  go_wp2_with fail
  rw [← hW0]
  clear hW0
  refine (spec_l05Zeros u _ (by omega)).mono ?_
  rintro e w1 ⟨r, V, rfl, rfl, ⟨hl, hf, L, ho, hh⟩, hb⟩
  rw [show (List.replicate u (rint 0)).length = u by simp] at ho
  obtain ⟨A1, c1, rfl⟩ := ho.slice
  have HO := Lib.hid ho
  have HH := Lib.hid hh
  clear ho hh hl hf
  have ht_1 := Lib.hid (ht_0.out.below hb ht_0.out.lt)
  have BW_1 := Lib.hid (BW_0.out.trans (hb.mono BW_0.out.size))
  clear hb
  have eht0 := ht_1.out.cell 0
  have eht1 := ht_1.out.cell 1
  have eht2 := ht_1.out.cell 2
  have fht0 := ht_1.out.free 0
  have fht1 := ht_1.out.free 1
  have fht2 := ht_1.out.free 2
  simp at eht0 eht1 eht2
  go_wp2_with fail
  refine bodyPost_ret (v := .agg #[.int .i64 P, .int .i64 K, .slice A1 u c1]) (by simp [results, Tryz.results201, eht0, eht1, eht2, go_sem]) rfl ?_
  exact ⟨A1, c1, L, rfl, (HO.out.lower BW_0.out.size).box_set3 ht_1.out _ _ _, HH.out, below_store3 BW_1.out (by omega) _ _ _⟩
set_option maxHeartbeats 3200000 in
theorem spec_l06Identity (n : Nat) (w : World) (hn : n ≤ 24) :
    Calls Tryz.prog 140 #[.int .i64 n] w fun e w' => HoldMEnd n n (ident n) w w' e := by
  have hm := mul_le_576 hn hn
  obtain ⟨N, hN⟩ : ∃ N, N = n * n := ⟨_, rfl⟩
  have HN := Lib.hid hN
  have HIL : Hid (∀ i, (identTo n i).length = N) := fun i => by rw [identTo_length, hN]
  unfold HoldMEnd
  rw [← hN] at hm ⊢
  obtain ⟨W0, hW0⟩ : ∃ W, W = (w.alloc (.cells #[.int .i64 0, .int .i64 0, .slice none 0 0] 47)) := ⟨_, rfl⟩
  have ht_0 : Hid (Box W0 (w.heap.size) 47 #[.int .i64 0, .int .i64 0, .slice none 0 0]) := by rw [hW0]; exact (Box.at' (by simp))
  have BW_0 : Hid (Below w.heap.size w W0) := by rw [hW0]; exact ((Below.refl w.heap.size w).alloc (by simp) _)
  have hsz0 : w.heap.size + 1 ≤ W0.heap.size := by rw [hW0]; simp
  go_enter Tryz.func140, Tryz.ntmps140
  go_wp2_with fail
  rw [← hW0]
  clear hW0
  refine (spec_l06Zero n n _ hn hn).mono ?_
  rintro e w1 ⟨A1, c1, L0, rfl, ho, hh, hb⟩
  rw [← hN] at ho hh ⊢
  have HH0 : Hid (Has L0 (identTo n 0)) := by rw [identTo_zero, ← hN]; exact hh
  have HB1 := Lib.hid hb
  clear hN
  have ht_1 := Lib.hid (ht_0.out.below hb ht_0.out.lt)
  have BW_1 := Lib.hid (BW_0.out.trans (hb.mono BW_0.out.size))
  clear hb
  obtain ⟨W2, hW2⟩ : ∃ W, W = w1.alloc (.cells #[.int .i64 n, .int .i64 n, .slice A1 N c1] 47) := ⟨_, rfl⟩
  have hbx : Below w1.heap.size w1 W2 := by rw [hW2]; exact (Below.refl _ _).alloc (Nat.le_refl _) _
  have X_2 : Hid (Box W2 w1.heap.size 47 #[.int .i64 n, .int .i64 n, .slice A1 N c1]) := by rw [hW2]; exact Box.new _ _ _
  have O2 := Lib.hid (ho.below hbx)
  have BZ : Hid (Below W0.heap.size W0 W2) := HB1.out.trans (hbx.mono HB1.out.size)
  have HG : Hid (0 < N → ∃ G, A1 = some ⟨G, 0, none⟩ ∧ W0.heap.size ≤ G ∧ G < w1.heap.size) := fun h0 => own_at' ho.2.1 h0
  have hW1 := HB1.out.size
  have hlt0 := ht_0.out.lt
  clear ho hh hbx
  go_wp2_with fail
  rw [← hW2]
  clear hW2
  go_loopw [4] (fun y wr => ∃ (i : Nat) (L : List El), i ≤ n ∧ y = .int .i64 i ∧ Hid (OwnV wr W0.heap.size (.slice A1 N c1) N L) ∧ Hid (Has L (identTo n i)) ∧ Hid (Box wr w1.heap.size 47 #[.int .i64 n, .int .i64 n, .slice A1 N c1]) ∧ Hid (Below W0.heap.size W0 wr)) (fun y _ => n - (intOf y).toNat)
  case atStart => exact ⟨0, _, Nat.zero_le _, rfl, O2, HH0, X_2, BZ⟩
  case round =>
    obtain ⟨i, L, hle, rfl, ho, hh, hX, hb⟩ := hrel
    by_cases hlt : i < n
    · obtain ⟨u, hu⟩ : ∃ u, u = i * n := ⟨_, rfl⟩
      obtain ⟨t, ht⟩ : ∃ t, t = u + i := ⟨_, rfl⟩
      have htN : t < N := by rw [ht, hu, HN.out]; exact cell_lt hlt hlt
      obtain ⟨G, rfl, hg0, hg1⟩ := HG.out (by omega)
      have hiu : (i : Int) * (n : Int) = u := by rw [hu]; exact (Int.natCast_mul _ _).symm
      have hut : (u : Int) + (i : Int) = t := by omega
      have HS : Hid ((identTo n i).set t (rint 1) = identTo n (i + 1)) := by rw [ht, hu]; exact identTo_succ hlt
      have hi0 : (0 : Int) ≤ (i : Int) := by omega
      have hi1 : (i : Int) < (n : Int) := by omega
      have hw1 : IntKind.i64.wrap ((i : Int) * (n : Int)) = u := by rw [hiu]; exact IntWalk.i64_in _ (by omega)
      have hw2 : IntKind.i64.wrap ((u : Int) + (i : Int)) = t := by rw [hut]; exact IntWalk.i64_in _ (by omega)
      have hw3 : IntKind.i64.wrap (u : Int) = u := IntWalk.i64_in _ (by omega)
      have hw4 : IntKind.i64.wrap (t : Int) = t := IntWalk.i64_in _ (by omega)
      have ht0 : (0 : Int) ≤ (t : Int) := by omega
      have ht1 : (t : Int) < (N : Int) := by omega
      have P_0 := Lib.hid hX.out.drew
      have OD := Lib.hid (OwnV.drew ho.out)
      have BD := Lib.hid hb.out.drew
      clear hu ht
      go_wp2_with fail
      go_region_held3 (fun w' => w'.cell? ⟨w1.heap.size, 0, none⟩ = some (.int .i64 n) ∧ w'.cell? ⟨w1.heap.size, 1, none⟩ = some (.int .i64 n) ∧ w'.cell? ⟨w1.heap.size, 2, none⟩ = some (.slice (some ⟨G, 0, none⟩) N c1)) (first | with_reducible exact box3_far P_3 | with_reducible exact box3_far P_1 | with_reducible exact box3_far P_0) (first | (go_at_call 115; (with_reducible refine (spec_ratFromInt 1 _ ⟨by omega, by omega⟩).mono ?_); rintro e w4 ⟨g, r, v, dd, q, rfl, hq, q1, q2, hap, hb2⟩; obtain ⟨A2, c2, rfl⟩ := own_slice q1.2; obtain ⟨B2, d2, rfl⟩ := own_slice q2.2; obtain ⟨⟨x0, x1, x2, p0, p1, p2, f0, f1, f2⟩, s1, s2⟩ := store_el (g := g) OD.out BD.out hb2 htN q1 q2 hap; have HO := Lib.hid s1; have HB := Lib.hid s2; have HH : Hid (Has (L.set t ⟨g, .slice A2 r.length c2, r.length, r.map (.int .i64), .slice B2 dd.length d2, dd.length, dd.map (.int .i64)⟩) (identTo n (i + 1))) := (by rw [← HS.out, ← rint_of hq]; exact hh.out.set t ⟨rfl, rfl, rfl, rfl, rfl⟩); have P_1 := Lib.hid (P_0.out.below hb2 P_0.out.lt); have P_3 := Lib.hid (P_1.out.set3 (G := G) (by omega) (t * 3) (t * 3 + 1) (t * 3 + 2) (.bool g) (.slice A2 r.length c2) (.slice B2 dd.length d2)); clear s1 s2 hq q1 q2 hap hb2))
      go_wp2_with fail
      go_roundw
      case rel => exact ⟨i + 1, _, by omega, by go_num, HO, HH, P_3, HB⟩
      case measure => simp [intOf]; omega
    · obtain rfl : i = n := by omega
      have HH : Hid (Has L (ident i)) := by rw [← identTo_all]; exact hh
      have ht_3 := Lib.hid (ht_0.out.below hb.out (by omega))
      have BW_3 := Lib.hid (BW_0.out.trans (hb.out.mono BW_0.out.size))
      have eht0 := ht_3.out.cell 0
      have eht1 := ht_3.out.cell 1
      have eht2 := ht_3.out.cell 2
      have fht0 := ht_3.out.free 0
      have fht1 := ht_3.out.free 1
      have fht2 := ht_3.out.free 2
      simp at eht0 eht1 eht2
      have ex0 := hX.out.cell 0
      have ex1 := hX.out.cell 1
      have ex2 := hX.out.cell 2
      simp at ex0 ex1 ex2
      go_wp2_with fail
      refine bodyPost_ret (v := .agg #[.int .i64 i, .int .i64 i, .slice A1 N c1]) (by simp [results, Tryz.results140, eht0, eht1, eht2, go_sem]) rfl ?_
      exact ⟨A1, c1, L, rfl, (ho.out.lower BW_0.out.size).box_set3 ht_3.out _ _ _, HH.out, below_store3 BW_3.out (Nat.le_refl _) _ _ _⟩
end Go.Proofs.YtdehcddjkcpnfaaGreat
