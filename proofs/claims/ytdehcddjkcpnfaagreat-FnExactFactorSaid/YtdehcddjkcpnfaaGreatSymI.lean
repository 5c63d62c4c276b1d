/- Contracts of symmetric matrices, by the program: IsSymmetric, isSquare, DiagonalOf. -/
import Derived.Test.YtdehcddjkcpnfaaGreatMatI5
import Derived.Test.YtdehcddjkcpnfaaGreatMatE
import Derived.Test.YtdehcddjkcpnfaaGreatSym
import Derived.Deep.RegionWith
namespace Go.Proofs.YtdehcddjkcpnfaaGreat
set_option maxRecDepth 100000
open Go.RowKit

set_option maxHeartbeats 3200000 in
theorem impl_isSymmetric0 (p k : Int) (A : Option Addr) (n c : Nat) (rs : List RD) (w : World) (h : InV w A n rs) (hp : -9223372036854775808 ≤ p ∧ p ≤ 9223372036854775807) (hk : -9223372036854775808 ≤ k ∧ k ≤ 9223372036854775807) (hc : n ≤ c) :
    Calls Tryz.prog 37 #[.agg #[.int .i64 p, .int .i64 k, .slice A n c]] w fun e w' => BoolEnd (IsSymmetricIs p k rs) w w' e := by
  obtain ⟨W0, hW0⟩ : ∃ W, W = (w.alloc (.cells #[.int .i64 p, .int .i64 k, .slice A n c] 47)) := ⟨_, rfl⟩
  have hm0_0 : Hid (Box W0 (w.heap.size) 47 #[.int .i64 p, .int .i64 k, .slice A n c]) := by rw [hW0]; exact (Box.at' (by simp))
  have BW_0 : Hid (Below w.heap.size w W0) := by rw [hW0]; exact ((Below.refl w.heap.size w).alloc (by simp) _)
  have hsz0 : w.heap.size + 1 ≤ W0.heap.size := by rw [hW0]; simp
  have HV := Lib.hid (h.below BW_0.out)
  clear h
  go_enter Tryz.func37, Tryz.ntmps37
  go_upto_region 1 with fail
  rw [← hW0]
  clear hW0
  have D_0 := Lib.hid hm0_0.out.drew
  have B_0 := Lib.hid BW_0.out.drew
  have V_0 : Hid (InV W0.drew A n rs) := HV.out.below (Below.refl _ _).drew
  go_region_held3 (fun w' => w'.cell? ⟨w.heap.size, 0, none⟩ = some (.int .i64 p) ∧ w'.cell? ⟨w.heap.size, 1, none⟩ = some (.int .i64 k) ∧ w'.cell? ⟨w.heap.size, 2, none⟩ = some (.slice A n c)) (first | with_reducible exact box3_far D_2 | with_reducible exact box3_far D_1 | with_reducible exact box3_far D_0) (first | (go_at_call 45; (with_reducible refine (impl_equalMatrices0 p k A n c rs q j A1 N1 c1 r _ V_1.out HI1.out).mono ?_); rintro e w2 ⟨b, rfl, hq2, hb2⟩; have HE2 := Lib.hid hq2; have D_2 := Lib.hid (D_1.out.below hb2 D_1.out.lt); have B_2 := Lib.hid (B_1.out.trans (hb2.mono B_1.out.size)); clear hq2 hb2) | (go_at_call 41; (with_reducible refine (impl_transpose0 p k A n c rs _ V_0.out hp hk hc).mono ?_); rintro e w1 ⟨q, j, r, V, rfl, hq1, hr1, hb1⟩; obtain ⟨N1, hN1⟩ : ∃ N1, r.length = N1 := ⟨_, rfl⟩; obtain ⟨A1, c1, rfl, hc1, hi1⟩ := resV_in hr1 hN1; have HT1 := Lib.hid hq1; have HI1 := Lib.hid hi1; have V_1 := Lib.hid (V_0.out.below hb1); have D_1 := Lib.hid (D_0.out.below hb1 D_0.out.lt); have B_1 := Lib.hid (B_0.out.trans (hb1.mono B_0.out.size)); clear hq1 hr1 hN1 hi1 hb1))
  all_goals
    have HF : Hid (BoolEnd (IsSymmetricIs p k rs) w w2 (.returned (.bool b))) := ⟨b, rfl, sym_of HT1.out HE2.out, B_2.out⟩
    go_wp2_with fail
    go_ret
    exact HF.out
end Go.Proofs.YtdehcddjkcpnfaaGreat
