/- Contracts of matrices, by the program: sizes, rows, valid or not, new ones. -/
import Derived.Test.YtdehcddjkcpnfaaGreatMatC
import Derived.BigQuiet
namespace Go.Proofs.YtdehcddjkcpnfaaGreat
set_option maxRecDepth 100000
open Go.RowKit

theorem below_drewN {B : Nat} {a w : World} (h : Below B a w) (n : Nat) : Below B a (w.drewN n) := ⟨h.os, h.tape, h.output, h.size, h.block⟩
theorem impl_isSize (n : Int) (b : Bool) (hb : (decide (0 ≤ n) && decide (n ≤ 24)) = b) (w : World) :
    Calls Tryz.prog 89 #[.int .i64 n] w fun e w' => e = .returned (.bool b) ∧ w = w' := by
  subst hb
  by_cases h1 : 0 ≤ n
  · by_cases h2 : n ≤ 24
    all_goals
      go_enter Tryz.func89, Tryz.ntmps89
      go_wp2
      go_ret
      exact ⟨ret_bool (by simp [h1, h2]), rfl⟩
  · go_enter Tryz.func89, Tryz.ntmps89
    go_wp2
    go_ret
    exact ⟨ret_bool (by simp; omega), rfl⟩
set_option maxHeartbeats 1600000 in
theorem impl_rowAt (p : Int) (K i : Nat) (A : Option Addr) (n c : Nat) (w : World) (hle : i * K + K ≤ n) (hn : n ≤ 1048576) (hc : n ≤ c) (hA : 0 < n → ∃ b o, A = some ⟨b, o, none⟩) (hi : i ≤ 24) (hK : K ≤ 24) :
    Calls Tryz.prog 96 #[.agg #[.int .i64 p, .int .i64 K, .slice A n c], .int .i64 i] w fun e w' => MRowEnd A K (i * K) w w' e := by
  obtain ⟨u, hu⟩ : ∃ u, u = i * K := ⟨_, rfl⟩
  rw [← hu] at hle ⊢
  have hik : (i : Int) * (K : Int) = u := by rw [hu]; exact (Int.natCast_mul _ _).symm
  have hik1 : ((i : Int) + 1) * (K : Int) = u + K := by rw [Int.add_mul, hik, Int.one_mul]
  clear hu
  by_cases h0 : K = 0
  · have HF : Hid (∀ W, Below w.heap.size w W → MRowEnd A K u w W (.returned (.slice A 0 0))) := fun W hW => ⟨A, 0, by rw [h0], by omega, .inl h0, hW⟩
    subst h0
    go_enter Tryz.func96, Tryz.ntmps96
    go_wp2_with fail
    go_quiet (fail)
    go_wp2_with fail
    go_ret
    exact HF.out _ (below_drewN ((Below.refl _ _).alloc (Nat.le_refl _) _) _)
  · obtain ⟨b, o, rfl⟩ := hA (by omega)
    have hcu : ¬ (u + K = u) := by omega
    have hu0 : (0 : Int) ≤ (u : Int) := by omega
    have hu1 : (u : Int) + (K : Int) ≤ (n : Int) := by omega
    have HF : Hid (∀ W, Below w.heap.size w W → MRowEnd (some ⟨b, o, none⟩) K u w W (.returned (.slice (some ⟨b, o + u * 3, none⟩) (u + K - u) (u + K - u)))) := fun W hW => ⟨_, K, by rw [show u + K - u = K by omega], by omega, .inr ⟨b, o, rfl, rfl⟩, hW⟩
    go_enter Tryz.func96, Tryz.ntmps96
    go_wp2_with fail
    go_quiet (fail)
    go_wp2_with fail
    go_ret
    exact HF.out _ (below_drewN ((Below.refl _ _).alloc (Nat.le_refl _) _) _)
theorem InV.some_' {w : World} {A : Option Addr} {n : Nat} {rs : List RD} (h : InV w A n rs) (hn : 0 < n) : ∃ b o, A = some ⟨b, o, none⟩ := by
  rcases h.2.2 with h0 | ⟨b, o, hA, _⟩
  · omega
  · exact ⟨b, o, hA⟩
set_option maxHeartbeats 1600000 in
theorem impl_matrixOk0 (p k : Int) (A : Option Addr) (n c : Nat) (rs : List RD) (w : World) (h : InV w A n rs) (hp : -9223372036854775808 ≤ p ∧ p ≤ 9223372036854775807) (hk : -9223372036854775808 ≤ k ∧ k ≤ 9223372036854775807) (hc : n ≤ c) :
    Calls Tryz.prog 94 #[.agg #[.int .i64 p, .int .i64 k, .slice A n c]] w fun e w' => MOkEnd p k rs w w' e := by
  obtain ⟨W0, hW0⟩ : ∃ W, W = (w.alloc (.cells #[.int .i64 p, .int .i64 k, .slice A n c] 47)) := ⟨_, rfl⟩
  have hm0_0 : Hid (Box W0 (w.heap.size) 47 #[.int .i64 p, .int .i64 k, .slice A n c]) := by rw [hW0]; exact (Box.at' (by simp))
  have BW_0 : Hid (Below w.heap.size w W0) := by rw [hW0]; exact ((Below.refl w.heap.size w).alloc (by simp) _)
  have hsz0 : w.heap.size + 1 ≤ W0.heap.size := by rw [hW0]; simp
  have hn := h.2.1
  have HV := Lib.hid (h.below BW_0.out)
  clear h
  obtain ⟨b1, hb1⟩ : ∃ b, (decide (0 ≤ p) && decide (p ≤ 24)) = b := ⟨_, rfl⟩
  have H1 := Lib.hid hb1
  clear hb1
  go_enter Tryz.func94, Tryz.ntmps94
  go_wp2_with fail
  rw [← hW0]
  clear hW0
  refine (impl_isSize p b1 H1.out _).mono ?_
  rintro e w1 ⟨rfl, rfl⟩
  have ehm00 := hm0_0.out.cell 0
  have ehm01 := hm0_0.out.cell 1
  have ehm02 := hm0_0.out.cell 2
  simp at ehm00 ehm01 ehm02
  cases b1
  case false =>
    have HF : Hid (MOkEnd p k rs w W0 (.returned (.bool false))) := ⟨false, rfl, mat_no (fun h => in_no H1.out h.1), BW_0.out⟩
    go_wp2_with fail
    go_ret
    exact HF.out
  have hp2 := in_yes H1.out
  obtain ⟨b2, hb2⟩ : ∃ b, (decide (0 ≤ k) && decide (k ≤ 24)) = b := ⟨_, rfl⟩
  have H2 := Lib.hid hb2
  clear hb2
  go_wp2_with fail
  refine (impl_isSize k b2 H2.out _).mono ?_
  rintro e w1 ⟨rfl, rfl⟩
  cases b2
  case false =>
    have HF : Hid (MOkEnd p k rs w W0 (.returned (.bool false))) := ⟨false, rfl, mat_no (fun h => in_no H2.out h.2.1), BW_0.out⟩
    go_wp2_with fail
    go_ret
    exact HF.out
  have hk2 := in_yes H2.out
  obtain ⟨P, rfl⟩ : ∃ P : Nat, p = P := ⟨p.toNat, by omega⟩
  obtain ⟨K, rfl⟩ : ∃ K : Nat, k = K := ⟨k.toNat, by omega⟩
  have hP24 : P ≤ 24 := by omega
  have hK24 : K ≤ 24 := by omega
  obtain ⟨hPK0, hPK1⟩ := prod576 hP24 hK24
  obtain ⟨u, hu⟩ : ∃ u : Nat, (P : Int) * (K : Int) = u := ⟨P * K, (Int.natCast_mul _ _).symm⟩
  have HU := Lib.hid hu
  by_cases hne : ((n : Int) != (u : Int)) = true
  · have HF : Hid (MOkEnd P K rs w W0 (.returned (.bool false))) := ⟨false, rfl, mat_no (fun h => by have h1 := h.2.2.1; rw [HU.out, HV.out.1] at h1; simp at hne; omega), BW_0.out⟩
    go_wp2_with fail
    go_ret
    exact HF.out
  have hne2 : ((n : Int) != (u : Int)) = false := by simpa using hne
  have HPL : Hid (n = P * K) := by have := HU.out; rw [← Int.natCast_mul] at this; simp at hne; unfold Hid; omega
  go_wp2_with fail
  clear ehm00 ehm01 ehm02
  go_loopw [27] (fun x wr => ∃ i : Nat, i ≤ P ∧ x = .int .i64 i ∧ Hid (∀ t, t < i → VOk (mrow K rs t)) ∧ Hid (Below W0.heap.size W0 wr)) (fun x _ => P - (intOf x).toNat)
  case atStart => exact ⟨0, Nat.zero_le _, rfl, fun t ht => by omega, Below.refl _ _⟩
  case round =>
    obtain ⟨i, hle, rfl, hk, hb⟩ := hrel
    by_cases hlt : i < P
    · have hi0 : (0 : Int) ≤ (i : Int) := by omega
      have hi1 : (i : Int) < (P : Int) := by omega
      have hir : i * K + K ≤ n := by rw [HPL.out]; exact row_le hlt
      have hm0_1 := Lib.hid (hm0_0.out.below hb.out hm0_0.out.lt)
      have HV1 := Lib.hid (HV.out.below hb.out)
      have ehm00 := hm0_1.out.cell 0
      have ehm01 := hm0_1.out.cell 1
      have ehm02 := hm0_1.out.cell 2
      simp at ehm00 ehm01 ehm02
      go_wp2_with fail
      clear ehm00 ehm01 ehm02
      refine (impl_rowAt P K i A n c _ hir hn hc HV.out.some_' (by omega) hK24).mono ?_
      rintro e w1 ⟨A', c', rfl, _, hat, hb1⟩
      have HI := Lib.hid ((HV1.out.below hb1).row hat hir hK24)
      have HB := Lib.hid (hb.out.trans (hb1.mono hb.out.size))
      clear hat hb1
      go_wp2_with fail
      refine (impl_isVector A' K c' (mrow K rs i) _ HI.out).mono ?_
      rintro e w2 ⟨q, rfl, hq, hb1⟩
      have HB2 := Lib.hid (HB.out.trans (hb1.mono HB.out.size))
      clear hb1
      cases q
      · have HF : Hid (MOkEnd P K rs w w2 (.returned (.bool false))) := ⟨false, rfl, mat_no (fun h => by have h1 := hq.2 (mrow_ok h rfl (by rw [HV.out.1]; exact HPL.out) hlt); cases h1), BW_0.out.trans (HB2.out.mono BW_0.out.size)⟩
        clear hq
        go_wp2_with fail
        go_ret
        exact HF.out
      · have HK : Hid (∀ t, t < i + 1 → VOk (mrow K rs t)) := fun t ht => by
          by_cases e : t = i
          · subst e; exact hq.1 rfl
          · exact hk.out t (by omega)
        clear hq
        go_wp2_with fail
        go_roundw
        case rel => exact ⟨i + 1, by omega, by go_num, HK, HB2⟩
        case measure => simp [intOf]; omega
    · obtain rfl : i = P := by omega
      have HF : Hid (MOkEnd i K rs w wr (.returned (.bool true))) := ⟨true, rfl, mat_yes (mok_rows hP24 hK24 (by rw [HV.out.1]; exact HPL.out) hk.out), BW_0.out.trans (hb.out.mono BW_0.out.size)⟩
      go_wp2_with fail
      go_ret
      exact HF.out
/-- A new list of zero values, in a struct. -/
def NewMEnd (P K : Nat) (w w' : World) (e : Ending) : Prop := ∃ g, e = .returned (.agg #[.int .i64 P, .int .i64 K, .slice (some ⟨g, 0, none⟩) (P * K) (P * K)]) ∧ OwnV w' w.heap.size (.slice (some ⟨g, 0, none⟩) (P * K) (P * K)) (P * K) (List.replicate (P * K) El.zero) ∧ Below w.heap.size w w'
set_option maxHeartbeats 1600000 in
theorem impl_newMatrix (P K : Nat) (w : World) (hP : P ≤ 24) (hK : K ≤ 24) :
    Calls Tryz.prog 90 #[.int .i64 P, .int .i64 K] w fun e w' => NewMEnd P K w w' e := by
  obtain ⟨i0, hi, hz0, hz1, hz2⟩ := info_parts Tryz.infoR
  have hm := mul_le_576 hP hK
  obtain ⟨u, hu⟩ : ∃ u, u = P * K := ⟨_, rfl⟩
  have hPK : (P : Int) * (K : Int) = u := by rw [hu]; exact (Int.natCast_mul _ _).symm
  unfold NewMEnd
  rw [← hu] at hm ⊢
  clear hu
  obtain ⟨W0, hW0⟩ : ∃ W, W = (w.alloc (.cells #[.int .i64 0, .int .i64 0, .slice none 0 0] 47)) := ⟨_, rfl⟩
  have ht_0 : Hid (Box W0 (w.heap.size) 47 #[.int .i64 0, .int .i64 0, .slice none 0 0]) := by rw [hW0]; exact (Box.at' (by simp))
  have BW_0 : Hid (Below w.heap.size w W0) := by rw [hW0]; exact ((Below.refl w.heap.size w).alloc (by simp) _)
  have hsz0 : w.heap.size + 1 ≤ W0.heap.size := by rw [hW0]; simp
  go_enter Tryz.func90, Tryz.ntmps90
  go_wp2_with (refine wpList_make_full _ rfl _ _ 26 rfl w.heap.size 30 i0 (.agg #[.bool false, .slice none 0 0, .slice none 0 0]) 3 Tryz.underlying26 hi hz0 hz1 _ _ _ _ u rfl rfl rfl rfl ?c1 ?c2 ?c3 ?_)
  case c1 => rw [hz2]; omega
  case c2 => unfold maxLen; omega
  case c3 => simp
  intro w1 ho hg
  rw [← hW0] at hg
  have hsz : W0.heap.size = w.heap.size + 1 := by rw [hW0]; simp
  have B1 := Lib.hid (BW_0.out.grown hg (by omega) (fun k hk => by cases hk))
  have ht_1 := Lib.hid (ht_0.out.grown hg (by simp))
  have O1 := Lib.hid (OwnV.made ho)
  clear ho hg
  have eht0 := ht_1.out.cell 0
  have eht1 := ht_1.out.cell 1
  have eht2 := ht_1.out.cell 2
  have fht0 := ht_1.out.free 0
  have fht1 := ht_1.out.free 1
  have fht2 := ht_1.out.free 2
  simp at eht0 eht1 eht2
  go_wp2_with fail
  refine bodyPost_ret (v := .agg #[.int .i64 P, .int .i64 K, .slice (some ⟨w.heap.size + 1, 0, none⟩) u u]) (by simp [results, Tryz.results90, eht0, eht1, eht2, go_sem]) rfl ?_
  exact ⟨_, rfl, O1.out.box_set3 ht_1.out _ _ _, below_store3 B1.out (by omega) _ _ _⟩
end Go.Proofs.YtdehcddjkcpnfaaGreat
