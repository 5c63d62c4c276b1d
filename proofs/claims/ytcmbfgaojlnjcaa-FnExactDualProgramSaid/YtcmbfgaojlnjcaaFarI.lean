/- Contracts of the programs that search for certificates, by the program: negated, weighted. -/
import Derived.Test.YtcmbfgaojlnjcaaFarD
import Derived.Test.YtcmbfgaojlnjcaaLpI2
import Derived.Test.YtcmbfgaojlnjcaaMakeF
namespace Go.Proofs.Ytcmbfgaojlnjcaa
set_option maxRecDepth 100000
open Go.RowKit

/-- The negatives, as the program has them. -/
def wneg (l : List Int) : List Int := l.map fun z => IntKind.i64.wrap (-z)
theorem wneg_length (l : List Int) : (wneg l).length = l.length := by simp [wneg]
theorem wneg_at {l : List Int} {i : Nat} {z : Int} (h : l[i]? = some z) : (wneg l)[i]? = some (IntKind.i64.wrap (-z)) := by simp [wneg, h]
theorem wneg_ent {l : List Int} (h : Ent l) : wneg l = ineg l := List.map_congr_left fun z hz => by
  have := h z hz
  rw [IntKind.wrap_i64]
  omega
set_option maxHeartbeats 3200000 in
theorem impl_negated (A : Option Addr) (n c : Nat) (la : List Int) (w : World) (h : InI w A n la) :
    Calls Try.prog 118 #[.slice A n c] w fun e w' => IntsEnd (wneg la) w w' e := by
  obtain ⟨i0, hi, hz0, hz1, hz2⟩ := info_parts Try.infoI
  have hn := h.2.1
  obtain ⟨zs, hzs⟩ : ∃ zs, zs = wneg la := ⟨_, rfl⟩
  have HZ := Lib.hid hzs
  have HZL : Hid (zs.length = n) := by rw [hzs, wneg_length]; exact h.1
  have HI := Lib.hid h
  rw [← hzs]
  clear h hzs
  go_enter Try.func118, Try.ntmps118
  go_wp2_with (refine wpList_make_full _ rfl _ _ 22 rfl w.heap.size 3 i0 (.int .i64 0) 1 Try.underlying22 hi hz0 hz1 _ _ _ _ n rfl rfl rfl rfl ?c1 ?c2 ?c3 ?_)
  case c1 => rw [hz2]; omega
  case c2 => unfold maxLen; omega
  case c3 => exact Nat.le_refl _
  intro w1 ho hg
  obtain ⟨ys, ho⟩ : ∃ ys, w1.ownsRow w.heap.size 3 1 (.slice (some ⟨w.heap.size, 0, none⟩) n n) n ys := ⟨_, ho⟩
  have Hlen := Lib.hid ho.1
  have B1 : Hid (Below w.heap.size w w1) := (Below.refl w.heap.size w).grown hg (Nat.le_refl _) (fun k hk => by cases hk)
  have O1 := Lib.hid ho
  clear ho hg
  obtain ⟨G, hG⟩ : ∃ G, G = w.heap.size := ⟨_, rfl⟩
  have HG := Lib.hid hG
  have hGw : w.heap.size ≤ G := by rw [hG]; exact Nat.le_refl _
  rw [← hG] at O1 ⊢
  clear hG
  go_wp2_with fail
  go_loopw [11] (fun y wr => ∃ i : Nat, i ≤ n ∧ y = .int .i64 i ∧ Hid (wr.ownsRow G 3 1 (.slice (some ⟨G, 0, none⟩) n n) n ((zs.map (Value.int .i64)).take i ++ ys.drop i)) ∧ Hid (Below w.heap.size w wr)) (fun y _ => n - (intOf y).toNat)
  case atStart => exact ⟨0, Nat.zero_le _, rfl, by simpa using O1, B1⟩
  case round =>
    obtain ⟨i, hle, rfl, ho, hb⟩ := hrel
    obtain ⟨w2, rfl⟩ : ∃ w2 : World, w2 = wr := ⟨_, rfl⟩
    by_cases hlt : i < n
    · have hi0 : (0 : Int) ≤ (i : Int) := by omega
      have hi1 : (i : Int) < (n : Int) := by omega
      obtain ⟨b, o, z, rfl, hz, hcell, _, _, _⟩ := (HI.out.below hb.out).get hlt
      have hix : i < (zs.map (Value.int .i64)).length := by rw [List.length_map, HZL.out]; exact hlt
      have hiy : i < ys.length := by rw [Hlen.out]; omega
      obtain ⟨u, hu⟩ : ∃ u, u = IntKind.i64.wrap (-z) := ⟨_, rfl⟩
      have hzi : (zs.map (Value.int .i64))[i]'hix = .int .i64 u := by
        have h1 : zs[i]? = some u := by rw [HZ.out, hu]; exact wneg_at hz
        obtain ⟨h2, h3⟩ := List.getElem?_eq_some_iff.1 h1
        rw [List.getElem_map, h3]
      have hfr := ho.out.frozenAt i
      have hcl := ho.out.cellAt i (by omega)
      rw [List.getElem?_eq_getElem (by simp [Hlen.out, HZL.out]; omega)] at hcl
      obtain ⟨old, hold⟩ : ∃ old, w2.cell? ⟨G, i, none⟩ = some old := ⟨_, hcl⟩
      have hst := ho.out.stored i (.int .i64 u)
      rw [← hzi, copied_set _ ys i hix hiy, hzi] at hst
      have HO3 := Lib.hid hst.1
      have HB3 : Hid (Below w.heap.size w (w2.setCell ⟨G, i, none⟩ (.int .i64 u))) := hb.out.setCell (by rw [HG.out]; exact Nat.le_refl _) _
      have hwr := hu.symm
      clear hst hcl hz hzi hu
      go_wp2_with fail
      go_roundw
      case rel => exact ⟨i + 1, by omega, by go_num, HO3, HB3⟩
      case measure => simp [intOf]; omega
    · obtain rfl : i = n := by omega
      have ho2 := ho.out
      rw [List.take_of_length_le (by rw [List.length_map, HZL.out]; omega), List.drop_eq_nil_of_le (by rw [Hlen.out]; omega), List.append_nil] at ho2
      have HF : Hid (IntsEnd zs w w2 (.returned (.slice (some ⟨G, 0, none⟩) i i))) := intsEnd_mk HZL.out (by omega) (own_base ho2 hGw) hb.out
      clear ho2
      go_wp2_with fail
      go_ret
      exact HF.out
end Go.Proofs.Ytcmbfgaojlnjcaa
