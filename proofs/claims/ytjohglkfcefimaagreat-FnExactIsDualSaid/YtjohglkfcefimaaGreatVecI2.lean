/- Contracts of vectors, by the program: combined element by element. -/
import Derived.Test.YtjohglkfcefimaaGreatGW
import Derived.Test.YtjohglkfcefimaaGreatGE
namespace Go.Proofs.YtjohglkfcefimaaGreat
set_option maxRecDepth 100000
open Go.RowKit

set_option maxHeartbeats 3200000 in
theorem impl_combined_RatAdd (A : Option Addr) (n c : Nat) (rs1 : List RD) (B : Option Addr) (c' : Nat) (rs2 : List RD) (w : World) (h1 : InV w A n rs1) (h2 : InV w B n rs2) (hm : n ≤ 1024) :
    Calls Tryz.prog 213 #[.slice A n c, .slice B n c', .func (.func 139) #[] #[]] w fun e w' => VecEnd (fun r => r = List.zipWith radd rs1 rs2) w w' e := by
  obtain ⟨i0, hi, hz0, hz1, hz2⟩ := info_parts Tryz.infoR
  have H1 := Lib.hid h1
  have H2 := Lib.hid h2
  obtain ⟨zs, hzs⟩ : ∃ zs, zs = List.zipWith radd rs1 rs2 := ⟨_, rfl⟩
  have hzl : zs.length = n := by rw [hzs, List.length_zipWith, h1.1, h2.1, Nat.min_self]
  have HZ := Lib.hid hzs
  have HZL := Lib.hid hzl
  clear h1 h2 hzs hzl
  go_enter Tryz.func213, Tryz.ntmps213
  go_wp2_with (refine wpList_make_full _ rfl _ _ 31 rfl w.heap.size 39 i0 (.agg #[.bool false, .slice none 0 0, .slice none 0 0]) 3 Tryz.underlying31 hi hz0 hz1 _ _ _ _ n rfl rfl rfl rfl ?c1 ?c2 ?c3 ?_)
  case c1 => rw [hz2]; omega
  case c2 => unfold maxLen; omega
  case c3 => exact Nat.le_refl _
  intro w1 ho hg
  have B1 := Lib.hid ((Below.refl w.heap.size w).grown hg (Nat.le_refl _) (fun k hk => by cases hk))
  have O1 := Lib.hid (OwnV.made ho)
  clear ho hg
  go_wp2_with fail
  go_loopw [14] (fun y wr => ∃ (i : Nat) (L : List El), i ≤ n ∧ y = .int .i64 i ∧ Hid (OwnV wr w.heap.size (.slice (some ⟨w.heap.size, 0, none⟩) n n) n L) ∧ Hid (Has L (upTo zs i n)) ∧ Hid (Below w.heap.size w wr)) (fun y _ => n - (intOf y).toNat)
  case atStart => exact ⟨0, _, Nat.zero_le _, rfl, O1, by rw [upTo_zero]; exact has_zeros n, B1⟩
  case round =>
    obtain ⟨i, L, hle, rfl, ho, hh, hb⟩ := hrel
    by_cases hlt : i < n
    · obtain ⟨b1, o1, rfl, hb1, r1, hr1, A3, n3, c3, B3, m3, d3, at1, i1, ra1, j1, rb1⟩ := H1.out.atB hb.out i hlt
      obtain ⟨b2, o2, rfl, hb2, r2, hr2, A4, n4, c4, B4, m4, d4, at2, i2, ra2, j2, rb2⟩ := H2.out.atB hb.out i hlt
      have hi0 : (0 : Int) ≤ (i : Int) := by omega
      have hi1 : (i : Int) < (n : Int) := by omega
      have P1_0 := Lib.hid at1.drew
      have P2_0 := Lib.hid at2.drew
      have I1 := Lib.hid i1.drew
      have I2 := Lib.hid i2.drew
      have J1 := Lib.hid j1.drew
      have J2 := Lib.hid j2.drew
      have RA1 := Lib.hid ra1
      have RA2 := Lib.hid ra2
      have RB1 := Lib.hid rb1
      have RB2 := Lib.hid rb2
      have HLT1 := Lib.hid hb1
      have HLT2 := Lib.hid hb2
      have HZI : Hid (zs[i]? = some (radd r1 r2)) := by rw [HZ.out]; exact zip_at hr1 hr2
      have OD := Lib.hid (OwnV.drew ho.out)
      have BD := Lib.hid hb.out.drew
      clear at1 at2 i1 i2 j1 j2 hr1 hr2 ra1 ra2 rb1 rb2
      go_wp2_with fail
      go_region_held3 (fun w' => w'.cell? ⟨b1, o1 + i * 3, none⟩ = some (.bool r1.g) ∧ w'.cell? ⟨b1, o1 + i * 3 + 1, none⟩ = some (.slice A3 n3 c3) ∧ w'.cell? ⟨b1, o1 + i * 3 + 2, none⟩ = some (.slice B3 m3 d3) ∧ w'.cell? ⟨b2, o2 + i * 3, none⟩ = some (.bool r2.g) ∧ w'.cell? ⟨b2, o2 + i * 3 + 1, none⟩ = some (.slice A4 n4 c4) ∧ w'.cell? ⟨b2, o2 + i * 3 + 2, none⟩ = some (.slice B4 m4 d4)) (first | with_reducible exact at33 P1_3 P2_3 | with_reducible exact at33 P1_1 P2_1 | with_reducible exact at33 P1_0 P2_0) (first | (go_at_call 139; (with_reducible refine (impl_ratAdd0 r1.g A3 n3 c3 r1.xs B3 m3 d3 r1.ds r2.g A4 n4 c4 r2.xs B4 m4 d4 r2.ds _ I1.out RA1.out J1.out RB1.out I2.out RA2.out J2.out RB2.out).mono ?_); rintro e w2 ⟨g, r, v, d, u, rfl, hq, h1, h2, hap, hb2⟩; obtain ⟨A2, c2, rfl⟩ := own_slice h1.2; obtain ⟨B2, d2, rfl⟩ := own_slice h2.2; obtain ⟨⟨x0, x1, x2, q0, q1, q2, f0, f1, f2⟩, s1, s2⟩ := store_el (g := g) OD.out BD.out hb2 hlt h1 h2 hap; have HO := Lib.hid s1; have HB := Lib.hid s2; have HH := Lib.hid (has_store (v := .slice A2 r.length c2) (u := .slice B2 d.length d2) hh.out ((radd_of hq).symm ▸ HZI.out) hlt); have P1_1 := Lib.hid (P1_0.out.below (Nat.lt_of_lt_of_le HLT1.out BD.out.size) hb2); have P2_1 := Lib.hid (P2_0.out.below (Nat.lt_of_lt_of_le HLT2.out BD.out.size) hb2); have P1_3 := Lib.hid (P1_1.out.set3 (G := w.heap.size) (by have := HLT1.out; omega) i (.bool g) (.slice A2 r.length c2) (.slice B2 d.length d2)); have P2_3 := Lib.hid (P2_1.out.set3 (G := w.heap.size) (by have := HLT2.out; omega) i (.bool g) (.slice A2 r.length c2) (.slice B2 d.length d2)); clear s1 s2 hq h1 h2 hap hb2))
      go_wp2_with fail
      go_roundw
      case rel => exact ⟨i + 1, _, by omega, by go_num, HO, HH, HB⟩
      case measure => simp [intOf]; omega
    · obtain rfl : i = n := by omega
      have HH : Hid (Has L zs) := by rw [← upTo_all HZL.out]; exact hh
      have HF : Hid (VecEnd (fun r => r = List.zipWith radd rs1 rs2) w wr (.returned (.slice (some ⟨w.heap.size, 0, none⟩) i i))) := ⟨zs, _, rfl, HZ.out, resV_mk (by rw [HZ.out]; exact zip_goods radd_good (by rw [H1.out.1]; exact hm)) HZL.out ho.out HH.out, hb.out⟩
      go_wp2_with fail
      go_ret
      exact HF.out
set_option maxHeartbeats 3200000 in
theorem impl_combined_RatSub (A : Option Addr) (n c : Nat) (rs1 : List RD) (B : Option Addr) (c' : Nat) (rs2 : List RD) (w : World) (h1 : InV w A n rs1) (h2 : InV w B n rs2) (hm : n ≤ 1024) :
    Calls Tryz.prog 213 #[.slice A n c, .slice B n c', .func (.func 202) #[] #[]] w fun e w' => VecEnd (fun r => r = List.zipWith rsub rs1 rs2) w w' e := by
  obtain ⟨i0, hi, hz0, hz1, hz2⟩ := info_parts Tryz.infoR
  have H1 := Lib.hid h1
  have H2 := Lib.hid h2
  obtain ⟨zs, hzs⟩ : ∃ zs, zs = List.zipWith rsub rs1 rs2 := ⟨_, rfl⟩
  have hzl : zs.length = n := by rw [hzs, List.length_zipWith, h1.1, h2.1, Nat.min_self]
  have HZ := Lib.hid hzs
  have HZL := Lib.hid hzl
  clear h1 h2 hzs hzl
  go_enter Tryz.func213, Tryz.ntmps213
  go_wp2_with (refine wpList_make_full _ rfl _ _ 31 rfl w.heap.size 39 i0 (.agg #[.bool false, .slice none 0 0, .slice none 0 0]) 3 Tryz.underlying31 hi hz0 hz1 _ _ _ _ n rfl rfl rfl rfl ?c1 ?c2 ?c3 ?_)
  case c1 => rw [hz2]; omega
  case c2 => unfold maxLen; omega
  case c3 => exact Nat.le_refl _
  intro w1 ho hg
  have B1 := Lib.hid ((Below.refl w.heap.size w).grown hg (Nat.le_refl _) (fun k hk => by cases hk))
  have O1 := Lib.hid (OwnV.made ho)
  clear ho hg
  go_wp2_with fail
  go_loopw [14] (fun y wr => ∃ (i : Nat) (L : List El), i ≤ n ∧ y = .int .i64 i ∧ Hid (OwnV wr w.heap.size (.slice (some ⟨w.heap.size, 0, none⟩) n n) n L) ∧ Hid (Has L (upTo zs i n)) ∧ Hid (Below w.heap.size w wr)) (fun y _ => n - (intOf y).toNat)
  case atStart => exact ⟨0, _, Nat.zero_le _, rfl, O1, by rw [upTo_zero]; exact has_zeros n, B1⟩
  case round =>
    obtain ⟨i, L, hle, rfl, ho, hh, hb⟩ := hrel
    by_cases hlt : i < n
    · obtain ⟨b1, o1, rfl, hb1, r1, hr1, A3, n3, c3, B3, m3, d3, at1, i1, ra1, j1, rb1⟩ := H1.out.atB hb.out i hlt
      obtain ⟨b2, o2, rfl, hb2, r2, hr2, A4, n4, c4, B4, m4, d4, at2, i2, ra2, j2, rb2⟩ := H2.out.atB hb.out i hlt
      have hi0 : (0 : Int) ≤ (i : Int) := by omega
      have hi1 : (i : Int) < (n : Int) := by omega
      have P1_0 := Lib.hid at1.drew
      have P2_0 := Lib.hid at2.drew
      have I1 := Lib.hid i1.drew
      have I2 := Lib.hid i2.drew
      have J1 := Lib.hid j1.drew
      have J2 := Lib.hid j2.drew
      have RA1 := Lib.hid ra1
      have RA2 := Lib.hid ra2
      have RB1 := Lib.hid rb1
      have RB2 := Lib.hid rb2
      have HLT1 := Lib.hid hb1
      have HLT2 := Lib.hid hb2
      have HZI : Hid (zs[i]? = some (rsub r1 r2)) := by rw [HZ.out]; exact zip_at hr1 hr2
      have OD := Lib.hid (OwnV.drew ho.out)
      have BD := Lib.hid hb.out.drew
      clear at1 at2 i1 i2 j1 j2 hr1 hr2 ra1 ra2 rb1 rb2
      go_wp2_with fail
      go_region_held3 (fun w' => w'.cell? ⟨b1, o1 + i * 3, none⟩ = some (.bool r1.g) ∧ w'.cell? ⟨b1, o1 + i * 3 + 1, none⟩ = some (.slice A3 n3 c3) ∧ w'.cell? ⟨b1, o1 + i * 3 + 2, none⟩ = some (.slice B3 m3 d3) ∧ w'.cell? ⟨b2, o2 + i * 3, none⟩ = some (.bool r2.g) ∧ w'.cell? ⟨b2, o2 + i * 3 + 1, none⟩ = some (.slice A4 n4 c4) ∧ w'.cell? ⟨b2, o2 + i * 3 + 2, none⟩ = some (.slice B4 m4 d4)) (first | with_reducible exact at33 P1_3 P2_3 | with_reducible exact at33 P1_1 P2_1 | with_reducible exact at33 P1_0 P2_0) (first | (go_at_call 202; (with_reducible refine (impl_ratSub0 r1.g A3 n3 c3 r1.xs B3 m3 d3 r1.ds r2.g A4 n4 c4 r2.xs B4 m4 d4 r2.ds _ I1.out RA1.out J1.out RB1.out I2.out RA2.out J2.out RB2.out).mono ?_); rintro e w2 ⟨g, r, v, d, u, rfl, hq, h1, h2, hap, hb2⟩; obtain ⟨A2, c2, rfl⟩ := own_slice h1.2; obtain ⟨B2, d2, rfl⟩ := own_slice h2.2; obtain ⟨⟨x0, x1, x2, q0, q1, q2, f0, f1, f2⟩, s1, s2⟩ := store_el (g := g) OD.out BD.out hb2 hlt h1 h2 hap; have HO := Lib.hid s1; have HB := Lib.hid s2; have HH := Lib.hid (has_store (v := .slice A2 r.length c2) (u := .slice B2 d.length d2) hh.out ((rsub_of hq).symm ▸ HZI.out) hlt); have P1_1 := Lib.hid (P1_0.out.below (Nat.lt_of_lt_of_le HLT1.out BD.out.size) hb2); have P2_1 := Lib.hid (P2_0.out.below (Nat.lt_of_lt_of_le HLT2.out BD.out.size) hb2); have P1_3 := Lib.hid (P1_1.out.set3 (G := w.heap.size) (by have := HLT1.out; omega) i (.bool g) (.slice A2 r.length c2) (.slice B2 d.length d2)); have P2_3 := Lib.hid (P2_1.out.set3 (G := w.heap.size) (by have := HLT2.out; omega) i (.bool g) (.slice A2 r.length c2) (.slice B2 d.length d2)); clear s1 s2 hq h1 h2 hap hb2))
      go_wp2_with fail
      go_roundw
      case rel => exact ⟨i + 1, _, by omega, by go_num, HO, HH, HB⟩
      case measure => simp [intOf]; omega
    · obtain rfl : i = n := by omega
      have HH : Hid (Has L zs) := by rw [← upTo_all HZL.out]; exact hh
      have HF : Hid (VecEnd (fun r => r = List.zipWith rsub rs1 rs2) w wr (.returned (.slice (some ⟨w.heap.size, 0, none⟩) i i))) := ⟨zs, _, rfl, HZ.out, resV_mk (by rw [HZ.out]; exact zip_goods rsub_good (by rw [H1.out.1]; exact hm)) HZL.out ho.out HH.out, hb.out⟩
      go_wp2_with fail
      go_ret
      exact HF.out
set_option maxHeartbeats 3200000 in
theorem impl_combined_RatMul (A : Option Addr) (n c : Nat) (rs1 : List RD) (B : Option Addr) (c' : Nat) (rs2 : List RD) (w : World) (h1 : InV w A n rs1) (h2 : InV w B n rs2) (hm : n ≤ 1024) :
    Calls Tryz.prog 213 #[.slice A n c, .slice B n c', .func (.func 140) #[] #[]] w fun e w' => VecEnd (fun r => r = List.zipWith rmul rs1 rs2) w w' e := by
  obtain ⟨i0, hi, hz0, hz1, hz2⟩ := info_parts Tryz.infoR
  have H1 := Lib.hid h1
  have H2 := Lib.hid h2
  obtain ⟨zs, hzs⟩ : ∃ zs, zs = List.zipWith rmul rs1 rs2 := ⟨_, rfl⟩
  have hzl : zs.length = n := by rw [hzs, List.length_zipWith, h1.1, h2.1, Nat.min_self]
  have HZ := Lib.hid hzs
  have HZL := Lib.hid hzl
  clear h1 h2 hzs hzl
  go_enter Tryz.func213, Tryz.ntmps213
  go_wp2_with (refine wpList_make_full _ rfl _ _ 31 rfl w.heap.size 39 i0 (.agg #[.bool false, .slice none 0 0, .slice none 0 0]) 3 Tryz.underlying31 hi hz0 hz1 _ _ _ _ n rfl rfl rfl rfl ?c1 ?c2 ?c3 ?_)
  case c1 => rw [hz2]; omega
  case c2 => unfold maxLen; omega
  case c3 => exact Nat.le_refl _
  intro w1 ho hg
  have B1 := Lib.hid ((Below.refl w.heap.size w).grown hg (Nat.le_refl _) (fun k hk => by cases hk))
  have O1 := Lib.hid (OwnV.made ho)
  clear ho hg
  go_wp2_with fail
  go_loopw [14] (fun y wr => ∃ (i : Nat) (L : List El), i ≤ n ∧ y = .int .i64 i ∧ Hid (OwnV wr w.heap.size (.slice (some ⟨w.heap.size, 0, none⟩) n n) n L) ∧ Hid (Has L (upTo zs i n)) ∧ Hid (Below w.heap.size w wr)) (fun y _ => n - (intOf y).toNat)
  case atStart => exact ⟨0, _, Nat.zero_le _, rfl, O1, by rw [upTo_zero]; exact has_zeros n, B1⟩
  case round =>
    obtain ⟨i, L, hle, rfl, ho, hh, hb⟩ := hrel
    by_cases hlt : i < n
    · obtain ⟨b1, o1, rfl, hb1, r1, hr1, A3, n3, c3, B3, m3, d3, at1, i1, ra1, j1, rb1⟩ := H1.out.atB hb.out i hlt
      obtain ⟨b2, o2, rfl, hb2, r2, hr2, A4, n4, c4, B4, m4, d4, at2, i2, ra2, j2, rb2⟩ := H2.out.atB hb.out i hlt
      have hi0 : (0 : Int) ≤ (i : Int) := by omega
      have hi1 : (i : Int) < (n : Int) := by omega
      have P1_0 := Lib.hid at1.drew
      have P2_0 := Lib.hid at2.drew
      have I1 := Lib.hid i1.drew
      have I2 := Lib.hid i2.drew
      have J1 := Lib.hid j1.drew
      have J2 := Lib.hid j2.drew
      have RA1 := Lib.hid ra1
      have RA2 := Lib.hid ra2
      have RB1 := Lib.hid rb1
      have RB2 := Lib.hid rb2
      have HLT1 := Lib.hid hb1
      have HLT2 := Lib.hid hb2
      have HZI : Hid (zs[i]? = some (rmul r1 r2)) := by rw [HZ.out]; exact zip_at hr1 hr2
      have OD := Lib.hid (OwnV.drew ho.out)
      have BD := Lib.hid hb.out.drew
      clear at1 at2 i1 i2 j1 j2 hr1 hr2 ra1 ra2 rb1 rb2
      go_wp2_with fail
      go_region_held3 (fun w' => w'.cell? ⟨b1, o1 + i * 3, none⟩ = some (.bool r1.g) ∧ w'.cell? ⟨b1, o1 + i * 3 + 1, none⟩ = some (.slice A3 n3 c3) ∧ w'.cell? ⟨b1, o1 + i * 3 + 2, none⟩ = some (.slice B3 m3 d3) ∧ w'.cell? ⟨b2, o2 + i * 3, none⟩ = some (.bool r2.g) ∧ w'.cell? ⟨b2, o2 + i * 3 + 1, none⟩ = some (.slice A4 n4 c4) ∧ w'.cell? ⟨b2, o2 + i * 3 + 2, none⟩ = some (.slice B4 m4 d4)) (first | with_reducible exact at33 P1_3 P2_3 | with_reducible exact at33 P1_1 P2_1 | with_reducible exact at33 P1_0 P2_0) (first | (go_at_call 140; (with_reducible refine (impl_ratMul0 r1.g A3 n3 c3 r1.xs B3 m3 d3 r1.ds r2.g A4 n4 c4 r2.xs B4 m4 d4 r2.ds _ I1.out RA1.out J1.out RB1.out I2.out RA2.out J2.out RB2.out).mono ?_); rintro e w2 ⟨g, r, v, d, u, rfl, hq, h1, h2, hap, hb2⟩; obtain ⟨A2, c2, rfl⟩ := own_slice h1.2; obtain ⟨B2, d2, rfl⟩ := own_slice h2.2; obtain ⟨⟨x0, x1, x2, q0, q1, q2, f0, f1, f2⟩, s1, s2⟩ := store_el (g := g) OD.out BD.out hb2 hlt h1 h2 hap; have HO := Lib.hid s1; have HB := Lib.hid s2; have HH := Lib.hid (has_store (v := .slice A2 r.length c2) (u := .slice B2 d.length d2) hh.out ((rmul_of hq).symm ▸ HZI.out) hlt); have P1_1 := Lib.hid (P1_0.out.below (Nat.lt_of_lt_of_le HLT1.out BD.out.size) hb2); have P2_1 := Lib.hid (P2_0.out.below (Nat.lt_of_lt_of_le HLT2.out BD.out.size) hb2); have P1_3 := Lib.hid (P1_1.out.set3 (G := w.heap.size) (by have := HLT1.out; omega) i (.bool g) (.slice A2 r.length c2) (.slice B2 d.length d2)); have P2_3 := Lib.hid (P2_1.out.set3 (G := w.heap.size) (by have := HLT2.out; omega) i (.bool g) (.slice A2 r.length c2) (.slice B2 d.length d2)); clear s1 s2 hq h1 h2 hap hb2))
      go_wp2_with fail
      go_roundw
      case rel => exact ⟨i + 1, _, by omega, by go_num, HO, HH, HB⟩
      case measure => simp [intOf]; omega
    · obtain rfl : i = n := by omega
      have HH : Hid (Has L zs) := by rw [← upTo_all HZL.out]; exact hh
      have HF : Hid (VecEnd (fun r => r = List.zipWith rmul rs1 rs2) w wr (.returned (.slice (some ⟨w.heap.size, 0, none⟩) i i))) := ⟨zs, _, rfl, HZ.out, resV_mk (by rw [HZ.out]; exact zip_goods rmul_good (by rw [H1.out.1]; exact hm)) HZL.out ho.out HH.out, hb.out⟩
      go_wp2_with fail
      go_ret
      exact HF.out
end Go.Proofs.YtjohglkfcefimaaGreat
