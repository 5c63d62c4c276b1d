/- Contracts of matrices, by the model: an element, a row, copied. -/
import Derived.Test.YthjbfdifeffilaaGreatMatS
import Derived.Test.YthjbfdifeffilaaGreatGK
namespace Go.Proofs.YthjbfdifeffilaaGreat
set_option maxRecDepth 100000
open Go.RowKit

theorem cell_no {p k : Int} {rs : List RD} {i j : Int} (h : ¬ (MOk p k rs ∧ (0 ≤ i ∧ i < p) ∧ 0 ≤ j ∧ j < k)) : CellAtIs p k rs i j false [] [] := .inr ⟨h, rfl, rfl, rfl⟩
theorem row_no {p k : Int} {rs : List RD} {i : Int} (h : ¬ (MOk p k rs ∧ 0 ≤ i ∧ i < p)) : RowOfIs p k rs i [] := .inr ⟨h, rfl⟩
theorem MOk.at_ {P K : Nat} {rs : List RD} (h : MOk P K rs) {i j : Nat} (hi : i < P) (hj : j < K) : ∃ r, rs[i * K + j]? = some r ∧ r.ok := by
  have hl : rs.length = P * K := by have := h.2.2.1; rw [← Int.natCast_mul] at this; omega
  have hlt : i * K + j < rs.length := by rw [hl]; exact cell_lt hi hj
  exact ⟨_, List.getElem?_eq_getElem hlt, h.all _ (List.getElem_mem _)⟩
theorem MOk.plen {P K : Nat} {rs : List RD} (h : MOk P K rs) : rs.length = P * K := by have := h.2.2.1; rw [← Int.natCast_mul] at this; omega
/-- Where the elements lie. -/
theorem InV.some_ {w : World} {A : Option Addr} {n : Nat} {rs : List RD} (h : InV w A n rs) (hn : 0 < n) : ∃ b o, A = some ⟨b, o, none⟩ := by
  rcases h.2.2 with h0 | ⟨b, o, hA, _⟩
  · omega
  · exact ⟨b, o, hA⟩
set_option maxHeartbeats 3200000 in
theorem spec_l05Copy (A : Option Addr) (n c : Nat) (rs : List RD) (w : World) (h : InV w A n rs) (hv : VOk rs) :
    Calls Tryz.prog 190 #[.slice A n c] w fun e w' => VecEnd (fun r => r = rs) w w' e := by
  obtain ⟨i0, hi, hz0, hz1, hz2⟩ := info_parts Tryz.infoR
  have hn := h.2.1
  have HV := Lib.hid h
  have HK := Lib.hid hv
  have h24 : n ≤ 24 := by rw [← h.1]; exact hv.1
  clear h hv
  go_enter Tryz.func190, Tryz.ntmps190
  go_wp2_with fail
  go_loopw [3, 9] (fun x y wr => ∃ (i : Nat) (L : List El) (A1 : Option Addr) (c1 : Nat), i ≤ n ∧ y = .int .i64 i ∧ x = .slice A1 i c1 ∧ Hid (OwnV wr w.heap.size (.slice A1 i c1) i L) ∧ Hid (Has L (rs.take i)) ∧ Hid (Below w.heap.size w wr)) (fun _ y _ => n - (intOf y).toNat)
  case atStart => exact ⟨0, [], _, _, Nat.zero_le _, rfl, rfl, OwnV.empty _ _, by rw [List.take_zero]; exact trivial, (Below.refl _ _).alloc (Nat.le_refl _) _⟩
  case round =>
    obtain ⟨i, L, A1, c1, hle, rfl, rfl, ho, hh, hb⟩ := hrel
    by_cases hlt : i < n
    · obtain ⟨b1, o1, rfl, hb1, r1, hr1, A3, n3, c3, B3, m3, d3, at1, i1, ra1, j1, rb1⟩ := HV.out.atB hb.out i hlt
      have hi0 : (0 : Int) ≤ (i : Int) := by omega
      have hi1 : (i : Int) < (n : Int) := by omega
      have K1 : Hid r1.ok := vok_at HK.out hr1
      have HR1 : Hid (rs[i]? = some ⟨r1.g, r1.xs, r1.ds⟩) := hr1
      have hn3 := i1.2.1
      have hm3 := j1.2.1
      obtain ⟨e10, e11, e12⟩ := at1
      have hbx : Below wr.heap.size wr (wr.alloc (.cells #[.bool r1.g, .slice A3 n3 c3, .slice B3 m3 d3] 35)) := (Below.refl _ _).alloc (Nat.le_refl _) _
      have I1 := Lib.hid (i1.below hbx)
      have J1 := Lib.hid (j1.below hbx)
      have RA1 := Lib.hid ra1
      have RB1 := Lib.hid rb1
      have OD := Lib.hid (ho.out.below hbx)
      have BD := Lib.hid (hb.out.trans (hbx.mono hb.out.size))
      clear i1 j1 hr1 ra1 rb1 hbx
      go_wp2_with fail
      clear e10 e11 e12
      refine (spec_l04Copy r1.g A3 n3 c3 r1.xs B3 m3 d3 r1.ds _ I1.out RA1.out J1.out RB1.out (by have := K1.out.2.2.2.2.1; omega) (by have := K1.out.2.2.2.2.2; omega)).mono ?_
      rintro e w2 ⟨g, r, v, dd, u, rfl, hq, q1, q2, hap, hc2⟩
      obtain ⟨k1, k2, k3⟩ := hq
      obtain ⟨A2, c2, rfl⟩ := own_slice q1.2
      obtain ⟨B2, d2, rfl⟩ := own_slice q2.2
      obtain ⟨s1, s2, s3, s4⟩ := new_el (g := g) OD.out BD.out hc2 q1 q2 hap
      have HH := Lib.hid (has_append (g := g) (r := r) (d := dd) (v := .slice A2 r.length c2) (u := .slice B2 dd.length d2) hh.out (by rw [k1, k2, k3]; exact HR1.out))
      have HO := Lib.hid s1
      have HE := Lib.hid s2
      have HFR := Lib.hid s3
      have HB := Lib.hid s4
      clear s1 s2 s3 s4 q1 q2 hap hc2 k1 k2 k3
      go_wp2_with (at_builtin; refine wpList_append_el rfl _ _ 23 rfl w.heap.size i0 (.agg #[.bool false, .slice none 0 0, .slice none 0 0]) 56 Tryz.underlying23 hi hz0 hz1 hz2 rfl _ i L rfl HO.out ⟨g, .slice A2 r.length c2, r.length, r.map (.int .i64), .slice B2 dd.length d2, dd.length, dd.map (.int .i64)⟩ rfl HE.out HFR.out rfl rfl (by unfold maxLen; omega) (by omega) HB.out.size _ ?_)
      intro V' w3 s1 hg
      obtain ⟨A5, c5, rfl⟩ := s1.slice
      have HO3 := Lib.hid s1
      have HB3 := Lib.hid (below_app HB.out HO.out hg)
      clear s1 hg
      go_wp2_with fail
      go_roundw
      case rel => exact ⟨i + 1, _, A5, c5, by omega, by go_num, rfl, HO3, HH, HB3⟩
      case measure => simp [intOf]; omega
    · obtain rfl : i = n := by omega
      have HH : Hid (Has L rs) := by have := hh.out; rwa [List.take_of_length_le (by rw [HV.out.1]; omega)] at this
      have HF : Hid (VecEnd (fun r => r = rs) w wr (.returned (.slice A1 i c1))) := ⟨rs, _, rfl, rfl, resV_mk HK.out.goods HV.out.1 ho.out HH.out, hb.out⟩
      go_wp2_with fail
      go_ret
      exact HF.out
end Go.Proofs.YthjbfdifeffilaaGreat
