/- Contracts of matrices, by the model: the sum; results with a number that is too large. -/
import Derived.Test.YtmclfoahfifmfaaGreatMatS
import Derived.Test.YtmclfoahfifmfaaGreatGW
import Derived.Test.YtmclfoahfifmfaaGreatRatS5
import Derived.Deep.RegionLaw
namespace Go.Proofs.YtmclfoahfifmfaaGreat
set_option maxRecDepth 100000
open Go.RowKit

def DoneMEnd (p k : Int) (A : Option Addr) (n c : Nat) (rs : List RD) (w w' : World) (e : Ending) : Prop :=
  (((∀ r ∈ rs, r.ok) ∧ e = .returned (.tuple #[.agg #[.int .i64 p, .int .i64 k, .slice A n c], .bool true])) ∨ (¬ (∀ r ∈ rs, r.ok) ∧ e = .returned (.tuple #[.agg #[.int .i64 0, .int .i64 0, .slice none 0 0], .bool false]))) ∧ Below w.heap.size w w'
set_option maxHeartbeats 1600000 in
theorem spec_l06Done (p k : Int) (A : Option Addr) (n c : Nat) (rs : List RD) (w : World) (h : InV w A n rs) (hg : Goods rs) :
    Calls Tryz.prog 20 #[.agg #[.int .i64 p, .int .i64 k, .slice A n c]] w fun e w' => DoneMEnd p k A n c rs w w' e := by
  obtain ⟨W0, hW0⟩ : ∃ W, W = ((w.alloc (.cells #[.int .i64 p, .int .i64 k, .slice A n c] 28)).alloc (.cells #[.int .i64 0, .int .i64 0, .slice none 0 0] 28)) := ⟨_, rfl⟩
  have hm0_0 : Hid (Box W0 (w.heap.size) 28 #[.int .i64 p, .int .i64 k, .slice A n c]) := by rw [hW0]; exact ((Box.at' (by simp)).alloc _)
  have ht_0 : Hid (Box W0 (w.heap.size + 1) 28 #[.int .i64 0, .int .i64 0, .slice none 0 0]) := by rw [hW0]; exact (Box.at' (by simp))
  have BW_0 : Hid (Below w.heap.size w W0) := by rw [hW0]; exact (((Below.refl w.heap.size w).alloc (by simp) _).alloc (by simp) _)
  have hsz0 : w.heap.size + 1 + 1 ≤ W0.heap.size := by rw [hW0]; simp
  have HV := Lib.hid (h.below BW_0.out)
  have HG := Lib.hid hg
  clear h hg
  go_enter Tryz.func20, Tryz.ntmps20
  go_wp2_with fail
  rw [← hW0]
  clear hW0
  refine (spec_l05Fine A n c rs _ HV.out HG.out).mono ?_
  rintro e w1 ⟨b, rfl, hb2, hb⟩
  have hm0_1 := Lib.hid (hm0_0.out.below hb hm0_0.out.lt)
  have ht_1 := Lib.hid (ht_0.out.below hb ht_0.out.lt)
  have BW_1 := Lib.hid (BW_0.out.trans (hb.mono BW_0.out.size))
  clear hb
  have ehm00 := hm0_1.out.cell 0
  have ehm01 := hm0_1.out.cell 1
  have ehm02 := hm0_1.out.cell 2
  have eht0 := ht_1.out.cell 0
  have eht1 := ht_1.out.cell 1
  have eht2 := ht_1.out.cell 2
  have fht0 := ht_1.out.free 0
  have fht1 := ht_1.out.free 1
  have fht2 := ht_1.out.free 2
  simp at ehm00 ehm01 ehm02 eht0 eht1 eht2
  cases b
  · have HF : Hid (¬ ∀ r ∈ rs, r.ok) := fun h => (by have h1 := hb2.2 h; cases h1)
    clear hb2
    go_wp2_with fail
    refine bodyPost_ret (v := .tuple #[.agg #[.int .i64 0, .int .i64 0, .slice none 0 0], .bool false]) (by simp [results, Tryz.results20, eht0, eht1, eht2, go_sem]) rfl ?_
    exact ⟨.inr ⟨HF.out, rfl⟩, below_store3 BW_1.out (by omega) _ _ _⟩
  · have HF := Lib.hid (hb2.1 rfl)
    clear hb2
    go_wp2_with fail
    refine bodyPost_ret (v := .tuple #[.agg #[.int .i64 p, .int .i64 k, .slice A n c], .bool true]) (by simp [results, Tryz.results20, eht0, eht1, eht2, go_sem]) rfl ?_
    exact ⟨.inl ⟨HF.out, rfl⟩, below_store3 BW_1.out (by omega) _ _ _⟩
theorem add_no {p k p' k' : Int} {rs ss : List RD} (h : ¬ (MOk p k rs ∧ MOk p' k' ss ∧ p = p' ∧ k = k')) : AddMatricesIs p k rs p' k' ss 0 0 [] false := matDone_no fun h2 => h h2.1
end Go.Proofs.YtmclfoahfifmfaaGreat
