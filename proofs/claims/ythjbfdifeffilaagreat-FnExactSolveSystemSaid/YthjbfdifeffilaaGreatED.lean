/- Contracts of the elimination, by the program: Reduce, RankOf. -/
import Derived.Test.YthjbfdifeffilaaGreatElI6
import Derived.Test.YthjbfdifeffilaaGreatElimR
import Derived.Deep.RegionWith
import Derived.BigRegion
namespace Go.Proofs.YthjbfdifeffilaaGreat
set_option maxRecDepth 100000
open Go.RowKit

theorem fin_nat' (P K : Nat) (rs : List RD) : fin P K rs = est P K rs K := by unfold fin; simp
end Go.Proofs.YthjbfdifeffilaaGreat
namespace Go.Proofs.YthjbfdifeffilaaGreat
set_option maxRecDepth 100000
open Go.RowKit

theorem est_pv_le' {P K : Nat} (rs : List RD) : ∀ k, (est P K rs k).pv.length ≤ P
  | 0 => Nat.zero_le _
  | k + 1 => by
    have h := est_pv_le' (P := P) (K := K) rs k
    rw [est_succ]
    by_cases hc : (est P K rs k).pv.length < P ∧ AllOk (est P K rs k).rs
    · cases hf : firstRow P K (est P K rs k).rs (est P K rs k).pv.length k with
      | none => rw [estep_none hf]; exact h
      | some i => rw [estep_some hc.1 hc.2 hf]; simp; omega
    · rw [estep_done hc]; exact h
set_option maxHeartbeats 3200000 in
theorem impl_reduce0 (p k : Int) (A : Option Addr) (n c : Nat) (rs : List RD) (w : World) (h : InV w A n rs) (hp : -9223372036854775808 ≤ p ∧ p ≤ 9223372036854775807) (hk : -9223372036854775808 ≤ k ∧ k ≤ 9223372036854775807) (hc : n ≤ c) :
    Calls Tryz.prog 56 #[.agg #[.int .i64 p, .int .i64 k, .slice A n c]] w fun e w' => RedMEnd (ReduceIs p k rs) w w' e := by
  obtain ⟨W0, hW0⟩ : ∃ W, W = ((w.alloc (.cells #[.int .i64 p, .int .i64 k, .slice A n c] 25)).alloc (.cells #[.int .i64 0, .int .i64 0, .slice none 0 0] 25)) := ⟨_, rfl⟩
  have hm0_0 : Hid (Box W0 (w.heap.size) 25 #[.int .i64 p, .int .i64 k, .slice A n c]) := by rw [hW0]; exact ((Box.at' (by simp)).alloc _)
  have ht_0 : Hid (Box W0 (w.heap.size + 1) 25 #[.int .i64 0, .int .i64 0, .slice none 0 0]) := by rw [hW0]; exact (Box.at' (by simp))
  have BW_0 : Hid (Below w.heap.size w W0) := by rw [hW0]; exact (((Below.refl w.heap.size w).alloc (by simp) _).alloc (by simp) _)
  have hsz0 : w.heap.size + 1 + 1 ≤ W0.heap.size := by rw [hW0]; simp
  have HV := Lib.hid (h.below BW_0.out)
  have hsz := BW_0.out.size
  clear h
  go_enter Tryz.func56, Tryz.ntmps56
  go_wp2_with fail
  rw [← hW0]
  clear hW0
  refine (impl_eliminate p k A n c rs _ HV.out hp hk hc).mono ?_
  rintro e w1 (⟨hno, rfl, hb⟩ | ⟨hyes, P, K, G, N, m, cp, cq, dq, L, s, q, Ap, Aq, Bq, rfl, rfl, rfl, hE⟩)
  · obtain ⟨W2, hW2⟩ : ∃ W, W = w1.alloc (.cells #[.int .i64 0, .int .i64 0, .slice none 0 0, .slice none 0 0, .bool false, .slice none 0 0, .slice none 0 0] 115) := ⟨_, rfl⟩
    have hbx : Below w1.heap.size w1 W2 := by rw [hW2]; exact (Below.refl _ _).alloc (Nat.le_refl _) _
    have X_2 : Hid (Box W2 w1.heap.size 115 #[.int .i64 0, .int .i64 0, .slice none 0 0, .slice none 0 0, .bool false, .slice none 0 0, .slice none 0 0]) := by rw [hW2]; exact Box.new _ _ _
    have ht_2 := Lib.hid ((ht_0.out.below hb ht_0.out.lt).below hbx (ht_0.out.below hb ht_0.out.lt).lt)
    have BW_2 := Lib.hid (BW_0.out.trans ((hb.trans (hbx.mono hb.size)).mono BW_0.out.size))
    have HZ : Hid (ReduceIs p k rs 0 0 [] [] false) := .inr ⟨hno, rfl, rfl, rfl, rfl, rfl⟩
    have hs1 := hb.size
    have ex0 := X_2.out.cell 0
    have ex1 := X_2.out.cell 1
    have ex2 := X_2.out.cell 2
    have ex3 := X_2.out.cell 3
    simp at ex0 ex1 ex2 ex3
    have eht0 := ht_2.out.cell 0
    have eht1 := ht_2.out.cell 1
    have eht2 := ht_2.out.cell 2
    have fht0 := ht_2.out.free 0
    have fht1 := ht_2.out.free 1
    have fht2 := ht_2.out.free 2
    simp at eht0 eht1 eht2
    have hne : w1.heap.size ≠ w.heap.size + 1 := by omega
    clear hno hb hbx
    go_wp2_with fail
    rw [← hW2]
    clear hW2
    go_region
    all_goals
      go_wp2_with fail
      refine bodyPost_ret (v := .tuple #[.agg #[.int .i64 0, .int .i64 0, .slice none 0 0], .slice none 0 0, .bool false]) (by simp [results, Tryz.results56, eht0, eht1, eht2, go_sem]) rfl ?_
      exact ⟨0, 0, [], _, [], _, false, rfl, HZ.out, resVI_nil _ _, (below_store3 BW_2.out (by omega) _ _ _).drew⟩
  · obtain ⟨W2, hW2⟩ : ∃ W, W = w1.alloc (.cells #[.int .i64 P, .int .i64 K, .slice (some ⟨G, 0, none⟩) N N, .slice Ap m cp, .bool q.g, .slice Aq q.xs.length cq, .slice Bq q.ds.length dq] 115) := ⟨_, rfl⟩
    have hbx : Below w1.heap.size w1 W2 := by rw [hW2]; exact (Below.refl _ _).alloc (Nat.le_refl _) _
    have X_2 : Hid (Box W2 w1.heap.size 115 #[.int .i64 P, .int .i64 K, .slice (some ⟨G, 0, none⟩) N N, .slice Ap m cp, .bool q.g, .slice Aq q.xs.length cq, .slice Bq q.ds.length dq]) := by rw [hW2]; exact Box.new _ _ _
    have hb := hE.blw
    have ht_2 := Lib.hid ((ht_0.out.below hb ht_0.out.lt).below hbx (ht_0.out.below hb ht_0.out.lt).lt)
    have BW_2 := Lib.hid (BW_0.out.trans ((hb.trans (hbx.mono hb.size)).mono BW_0.out.size))
    have hP24 : P ≤ 24 := by have := (Elim.nat.1 hyes).1.1; omega
    have hK24 : K ≤ 24 := by have := (Elim.nat.1 hyes).1.2.1; omega
    have hok : AllOk s.rs := by rw [hE.st]; exact (Elim.nat.1 hyes).2
    have hNl : s.rs.length = N := by rw [← hE.has.length, hE.own.1]
    have hN5 : N ≤ 576 := by rw [hE.N]; exact mul_le_576 hP24 hK24
    have hm24 : m ≤ 24 := by have := est_pv_le' (P := P) (K := K) rs K; rw [← hE.st, hE.len] at this; omega
    have HQ : Hid (ReduceIs P K rs P K s.rs (pvs s.pv) true) := .inl ⟨hyes, rfl, rfl, by rw [fin_nat', ← hE.st], by rw [fin_nat', ← hE.st], rfl⟩
    have HR : Hid (ResVI w W2 (.slice (some ⟨G, 0, none⟩) N N) s.rs (.slice Ap m cp) (pvs s.pv)) := resVI_mk ⟨by omega, fun r hr => .inl (hok r hr)⟩ hNl (hE.own.below hbx) hsz hE.has (own_below hE.piv hbx) hE.len hm24 (off_mono hE.off fun x hx => List.mem_cons_of_mem _ hx)
    have hs1 := hb.size
    have ex0 := X_2.out.cell 0
    have ex1 := X_2.out.cell 1
    have ex2 := X_2.out.cell 2
    have ex3 := X_2.out.cell 3
    simp at ex0 ex1 ex2 ex3
    have eht0 := ht_2.out.cell 0
    have eht1 := ht_2.out.cell 1
    have eht2 := ht_2.out.cell 2
    have fht0 := ht_2.out.free 0
    have fht1 := ht_2.out.free 1
    have fht2 := ht_2.out.free 2
    simp at eht0 eht1 eht2
    have hne : w1.heap.size ≠ w.heap.size + 1 := by omega
    clear hyes hE hb hbx hok hNl
    go_wp2_with fail
    rw [← hW2]
    clear hW2
    go_region
    all_goals
      go_wp2_with fail
      refine bodyPost_ret (v := .tuple #[.agg #[.int .i64 P, .int .i64 K, .slice (some ⟨G, 0, none⟩) N N], .slice Ap m cp, .bool true]) (by simp [results, Tryz.results56, eht0, eht1, eht2, go_sem]) rfl ?_
      exact ⟨P, K, s.rs, _, pvs s.pv, _, true, rfl, HQ.out, HR.out.box3 ht_2.out _ _ _, (below_store3 BW_2.out (by omega) _ _ _).drew⟩
end Go.Proofs.YthjbfdifeffilaaGreat
