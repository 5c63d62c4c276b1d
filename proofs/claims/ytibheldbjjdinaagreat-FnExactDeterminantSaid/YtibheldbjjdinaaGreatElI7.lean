/- Contracts of the elimination, by the program: Reduce, RankOf. -/
import Derived.Test.YtibheldbjjdinaaGreatElI6
import Derived.Test.YtibheldbjjdinaaGreatElimR
namespace Go.Proofs.YtibheldbjjdinaaGreat
set_option maxRecDepth 100000
open Go.RowKit

theorem fin_nat' (P K : Nat) (rs : List RD) : fin P K rs = est P K rs K := by unfold fin; simp
set_option maxHeartbeats 3200000 in
theorem impl_rankOf0 (p k : Int) (A : Option Addr) (n c : Nat) (rs : List RD) (w : World) (h : InV w A n rs) (hp : -9223372036854775808 ≤ p ∧ p ≤ 9223372036854775807) (hk : -9223372036854775808 ≤ k ∧ k ≤ 9223372036854775807) (hc : n ≤ c) :
    Calls Tryz.prog 17 #[.agg #[.int .i64 p, .int .i64 k, .slice A n c]] w fun e w' => IntEnd (RankOfIs p k rs) w w' e := by
  obtain ⟨W0, hW0⟩ : ∃ W, W = (w.alloc (.cells #[.int .i64 p, .int .i64 k, .slice A n c] 25)) := ⟨_, rfl⟩
  have hm0_0 : Hid (Box W0 (w.heap.size) 25 #[.int .i64 p, .int .i64 k, .slice A n c]) := by rw [hW0]; exact (Box.at' (by simp))
  have BW_0 : Hid (Below w.heap.size w W0) := by rw [hW0]; exact ((Below.refl w.heap.size w).alloc (by simp) _)
  have hsz0 : w.heap.size + 1 ≤ W0.heap.size := by rw [hW0]; simp
  have HV := Lib.hid (h.below BW_0.out)
  clear h
  go_enter Tryz.func17, Tryz.ntmps17
  go_wp2_with fail
  rw [← hW0]
  clear hW0
  refine (impl_eliminate p k A n c rs _ HV.out hp hk hc).mono ?_
  rintro e w1 (⟨hno, rfl, hb⟩ | ⟨hyes, P, K, G, N, m, cp, cq, dq, L, s, q, Ap, Aq, Bq, rfl, rfl, rfl, hE⟩)
  · have BW_1 := Lib.hid (BW_0.out.trans (hb.mono BW_0.out.size))
    have HF : Hid (∀ W, Below w.heap.size w W → IntEnd (RankOfIs p k rs) w W (.returned (.int .i64 (-1)))) := fun W hW => ⟨-1, rfl, .inr ⟨hno, rfl⟩, hW⟩
    clear hno hb
    go_wp2_with fail
    go_ret
    exact HF.out _ (BW_1.out.alloc BW_1.out.size _)
  · have BW_1 := Lib.hid (BW_0.out.trans (hE.blw.mono BW_0.out.size))
    have HF : Hid (∀ W, Below w.heap.size w W → IntEnd (RankOfIs P K rs) w W (.returned (.int .i64 (m : Int)))) := fun W hW => ⟨m, rfl, .inl ⟨hyes, by rw [fin_nat', ← hE.st, hE.len]⟩, hW⟩
    clear hyes hE
    go_wp2_with fail
    go_ret
    exact HF.out _ (BW_1.out.alloc BW_1.out.size _)
theorem impl_rankOf (p k : Int) (A : Option Addr) (n c : Nat) (rs : List RD) (w : World) (h : InV w A n rs) (hp : -9223372036854775808 ≤ p ∧ p ≤ 9223372036854775807) (hk : -9223372036854775808 ≤ k ∧ k ≤ 9223372036854775807) (hc : n ≤ c) :
    Calls Tryz.prog 17 #[.agg #[.int .i64 p, .int .i64 k, .slice A n c]] w fun e w' => ∃ r, e = .returned (.int .i64 r) ∧ RankOfIs p k rs r ∧ Below w.heap.size w w' := (impl_rankOf0 p k A n c rs w h hp hk hc).mono fun _ _ h => h
end Go.Proofs.YtibheldbjjdinaaGreat
