/- Contracts of vectors: multiples, by the program. -/
import Derived.Test.YthjbfdifeffilaaGreatVecI3
namespace Go.Proofs.YthjbfdifeffilaaGreat
set_option maxRecDepth 100000
open Go.RowKit

set_option maxHeartbeats 3200000 in
theorem impl_scaleVector0 (g1 : Bool) (A1 : Option Addr) (n1 c1 : Nat) (xs : List Int) (B1 : Option Addr) (m1 d1 : Nat) (es : List Int) (A : Option Addr) (n c : Nat) (rs : List RD) (w : World) (h1 : InI w A1 n1 xs) (r1 : Room A1 n1 c1) (k1 : InI w B1 m1 es) (s1 : Room B1 m1 d1) (hv : InV w A n rs) :
    Calls Tryz.prog 193 #[.agg #[.bool g1, .slice A1 n1 c1, .slice B1 m1 d1], .slice A n c] w fun e w' => VecOkEnd (ScaleVectorIs g1 xs es rs) w w' e := by
  obtain ⟨i0, hi, hz0, hz1, hz2⟩ := info_parts Tryz.infoR
  have hn1 := h1.2.1
  have hm1 := k1.2.1
  have hn := hv.2.1
  obtain ⟨W0, hW0⟩ : ∃ W, W = (w.alloc (.cells #[.bool g1, .slice A1 n1 c1, .slice B1 m1 d1] 35)) := ⟨_, rfl⟩
  have hy0_0 : Hid (Box W0 (w.heap.size) 35 #[.bool g1, .slice A1 n1 c1, .slice B1 m1 d1]) := by rw [hW0]; exact (Box.at' (by simp))
  have BW_0 : Hid (Below w.heap.size w W0) := by rw [hW0]; exact ((Below.refl w.heap.size w).alloc (by simp) _)
  have hsz0 : w.heap.size + 1 ≤ W0.heap.size := by rw [hW0]; simp
  have HI1 := Lib.hid (h1.below BW_0.out)
  have HJ1 := Lib.hid (k1.below BW_0.out)
  have HV := Lib.hid (hv.below BW_0.out)
  have R1 := Lib.hid r1
  have S1 := Lib.hid s1
  clear h1 k1 r1 s1 hv
  by_cases hbig : 24 < (n : Int)
  · have HF : Hid (VecOkEnd (ScaleVectorIs g1 xs es rs) w W0 (.returned (.tuple #[.slice none 0 0, .bool false]))) := ⟨[], _, false, rfl, done_no (fun h => by have := h.2.1; rw [HV.out.1] at this; omega), resV_nil _ _, BW_0.out⟩
    rw [hW0] at HF
    clear hW0
    go_enter Tryz.func193, Tryz.ntmps193
    go_wp2_with fail
    go_ret2
    exact HF.out
  go_enter Tryz.func193, Tryz.ntmps193
  go_wp2_with fail
  rw [← hW0]
  clear hW0
  refine (impl_ratOk' g1 A1 n1 c1 xs B1 m1 d1 es _ HI1.out HJ1.out).mono ?_
  rintro e wa ⟨⟨b, rfl, hi⟩, hb⟩
  have hy0_1 := Lib.hid (hy0_0.out.below hb hy0_0.out.lt)
  have BW_1 := Lib.hid (BW_0.out.trans (hb.mono BW_0.out.size))
  replace HI1 := Lib.hid (HI1.out.below hb)
  replace HJ1 := Lib.hid (HJ1.out.below hb)
  replace HV := Lib.hid (HV.out.below hb)
  clear hb
  cases b
  · have HF : Hid (VecOkEnd (ScaleVectorIs g1 xs es rs) w wa (.returned (.tuple #[.slice none 0 0, .bool false]))) := ⟨[], _, false, rfl, done_no (fun h => (by have h1 := hi.2 h.1; cases h1)), resV_nil _ _, BW_1.out⟩
    clear hi
    go_wp2_with fail
    go_ret2
    exact HF.out
  have K1 := Lib.hid (hi.1 rfl)
  clear hi
  obtain ⟨zs, hzs⟩ : ∃ zs, zs = rs.map (rmul ⟨g1, xs, es⟩) := ⟨_, rfl⟩
  have hzl : zs.length = n := by rw [hzs, List.length_map, HV.out.1]
  have HZ := Lib.hid hzs
  have HZL := Lib.hid hzl
  clear hzs hzl
  go_wp2_with (refine wpList_make_full _ rfl _ _ 23 rfl wa.heap.size 35 i0 (.agg #[.bool false, .slice none 0 0, .slice none 0 0]) 3 Tryz.underlying23 hi hz0 hz1 _ _ _ _ n rfl rfl rfl rfl ?c1 ?c2 ?c3 ?_)
  case c1 => rw [hz2]; omega
  case c2 => unfold maxLen; omega
  case c3 => exact Nat.le_refl _
  intro w1 ho hg
  have BM := Lib.hid ((Below.refl wa.heap.size wa).grown hg (Nat.le_refl _) (fun k hk => by cases hk))
  have O1 := Lib.hid (OwnV.made ho)
  clear ho hg
  go_wp2_with fail
  go_loopw [22] (fun y wr => ∃ (i : Nat) (L : List El), i ≤ n ∧ y = .int .i64 i ∧ Hid (OwnV wr wa.heap.size (.slice (some ⟨wa.heap.size, 0, none⟩) n n) n L) ∧ Hid (Has L (upTo zs i n)) ∧ Hid (Below wa.heap.size wa wr)) (fun y _ => n - (intOf y).toNat)
  case atStart => exact ⟨0, _, Nat.zero_le _, rfl, O1, by rw [upTo_zero]; exact has_zeros n, BM⟩
  case round =>
    obtain ⟨i, L, hle, rfl, ho, hh, hb⟩ := hrel
    by_cases hlt : i < n
    · obtain ⟨b2, o2, rfl, hb2, r2, hr2, A4, n4, c4, B4, m4, d4, at2, i2, ra2, j2, rb2⟩ := HV.out.atB hb.out i hlt
      have hi0 : (0 : Int) ≤ (i : Int) := by omega
      have hi1 : (i : Int) < (n : Int) := by omega
      have hw0 : wa.heap.size ≤ wr.heap.size := hb.out.size
      have hbx : Below wr.heap.size wr (wr.alloc (.cells #[.bool r2.g, .slice A4 n4 c4, .slice B4 m4 d4] 35)) := (Below.refl _ _).alloc (Nat.le_refl _) _
      have bx := (hy0_1.out.below hb.out hy0_1.out.lt).alloc (.cells #[.bool r2.g, .slice A4 n4 c4, .slice B4 m4 d4] 35)
      have ehy0 := bx.cell 0
      have ehy1 := bx.cell 1
      have ehy2 := bx.cell 2
      simp at ehy0 ehy1 ehy2
      have BD := Lib.hid (hb.out.trans (hbx.mono hw0))
      have I1 := Lib.hid (HI1.out.below BD.out)
      have J1 := Lib.hid (HJ1.out.below BD.out)
      have I2 := Lib.hid (i2.below hbx)
      have J2 := Lib.hid (j2.below hbx)
      have RA2 := Lib.hid ra2
      have RB2 := Lib.hid rb2
      have HZI : Hid (zs[i]? = some (rmul ⟨g1, xs, es⟩ r2)) := by rw [HZ.out, List.getElem?_map, hr2]; rfl
      have OD := Lib.hid (ho.out.below hbx)
      obtain ⟨e20, e21, e22⟩ := at2
      clear i2 j2 hr2 ra2 rb2 hbx bx
      go_wp2_with fail
      clear e20 e21 e22 ehy0 ehy1 ehy2
      refine (impl_ratMul0 g1 A1 n1 c1 xs B1 m1 d1 es r2.g A4 n4 c4 r2.xs B4 m4 d4 r2.ds _ I1.out R1.out J1.out S1.out I2.out RA2.out J2.out RB2.out).mono ?_
      rintro e w2 ⟨g, r, v, dd, u, rfl, hq, q1, q2, hap, hc2⟩
      obtain ⟨A6, c6, rfl⟩ := own_slice q1.2
      obtain ⟨B6, d6, rfl⟩ := own_slice q2.2
      obtain ⟨⟨x0, x1, x2, p0, p1, p2, f0, f1, f2⟩, s1, s2⟩ := store_el (g := g) OD.out BD.out hc2 hlt q1 q2 hap
      have HH := Lib.hid (has_store (v := .slice A6 r.length c6) (u := .slice B6 dd.length d6) hh.out ((rmul_of (r := ⟨g1, xs, es⟩) hq).symm ▸ HZI.out) hlt)
      have HO := Lib.hid s1
      have HB := Lib.hid s2
      clear hq q1 q2 hap hc2 s1 s2
      go_wp2_with fail
      go_roundw
      case rel => exact ⟨i + 1, _, by omega, by go_num, HO, HH, HB⟩
      case measure => simp [intOf]; omega
    · obtain rfl : i = n := by omega
      have HH : Hid (Has L zs) := by rw [← upTo_all HZL.out]; exact hh
      have HG : Hid (Goods zs) := by rw [HZ.out]; exact map_goods (rmul_good _) (by rw [HV.out.1]; omega)
      have HI : Hid (InV wr (some ⟨wa.heap.size, 0, none⟩) i zs) := ho.out.in_ HH.out (by omega) HG.out.fits
      have hiff := map_ok (f := rmul ⟨g1, xs, es⟩) (fun _ h => (rmul_ok h).2) (a := rs) (by rw [HV.out.1]; omega)
      rw [← HZ.out] at hiff
      have HIFF := Lib.hid hiff
      clear hiff
      go_wp2_with fail
      refine (impl_checkedVector _ i i zs _ HI.out).mono ?_
      rintro e w3 ⟨hc, hb3⟩
      have HB3 := Lib.hid (BW_1.out.trans ((hb.out.trans (hb3.mono hb.out.size)).mono BW_1.out.size))
      have HO3 := Lib.hid ((ho.out.below hb3).lower BW_1.out.size)
      rcases hc with ⟨hk, rfl⟩ | ⟨hk, rfl⟩
      · have HF : Hid (VecOkEnd (ScaleVectorIs g1 xs es rs) w w3 (.returned (.tuple #[.slice (some ⟨wa.heap.size, 0, none⟩) i i, .bool true]))) := ⟨zs, _, true, rfl, .inl ⟨⟨⟨K1.out, (HIFF.out.1 hk).1⟩, by rw [← HZ.out]; exact hk.2⟩, HZ.out, rfl⟩, resV_mk HG.out HZL.out HO3.out HH.out, HB3.out⟩
        clear hb3 hk
        go_wp2_with fail
        go_ret2
        exact HF.out
      · have HF : Hid (VecOkEnd (ScaleVectorIs g1 xs es rs) w w3 (.returned (.tuple #[.slice none 0 0, .bool false]))) := ⟨[], _, false, rfl, .inr ⟨fun h => hk (HIFF.out.2 ⟨h.1.2, by rw [HZ.out]; exact h.2⟩), rfl, rfl⟩, resV_nil _ _, HB3.out⟩
        clear hb3 hk
        go_wp2_with fail
        go_ret2
        exact HF.out
end Go.Proofs.YthjbfdifeffilaaGreat
