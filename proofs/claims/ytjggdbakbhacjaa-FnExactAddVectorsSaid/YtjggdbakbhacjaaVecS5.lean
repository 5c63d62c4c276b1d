/- Contracts of vectors, by the model: sums and differences. -/
import Derived.Test.YtjggdbakbhacjaaGW
namespace Go.Proofs.Ytjggdbakbhacjaa
set_option maxRecDepth 100000
open Go.RowKit

set_option maxHeartbeats 3200000 in
theorem spec_addVectors0 (A : Option Addr) (n c : Nat) (rs1 : List RD) (B : Option Addr) (m d : Nat) (rs2 : List RD) (w : World) (h1 : InV w A n rs1) (h2 : InV w B m rs2) :
    Calls Try.prog 29 #[.slice A n c, .slice B m d] w fun e w' => VecOkEnd (AddVectorsIs rs1 rs2) w w' e := by
  obtain ⟨i0, hi, hz0, hz1, hz2⟩ := info_parts Try.infoR
  have H1 := Lib.hid h1
  have H2 := Lib.hid h2
  have hn := h1.2.1
  have hm := h2.2.1
  clear h1 h2
  go_enter Try.func29, Try.ntmps29
  go_wp2_with fail
  refine (spec_l05Pair A n c rs1 B m d rs2 _ H1.out H2.out).mono ?_
  rintro e w0 ⟨b, rfl, hq, hb⟩
  cases b
  · have HF : Hid (VecOkEnd (AddVectorsIs rs1 rs2) w w0 (.returned (.tuple #[.slice none 0 0, .bool false]))) := ⟨[], _, false, rfl, done_no (fun h => (by have h1 := hq.2 h; cases h1)), resV_nil _ _, hb⟩
    clear hq hb
    go_wp2_with fail
    go_ret2
    exact HF.out
  have PO := Lib.hid (hq.1 rfl)
  have HB0 := Lib.hid hb
  have H10 := Lib.hid (H1.out.below hb)
  have H20 := Lib.hid (H2.out.below hb)
  clear hq hb
  have hnm : n = m := by rw [← H1.out.1, ← H2.out.1]; exact PO.out.2.2
  subst hnm
  have h24 : n ≤ 24 := by rw [← H1.out.1]; exact PO.out.1.1
  obtain ⟨zs, hzs⟩ : ∃ zs, zs = List.zipWith radd rs1 rs2 := ⟨_, rfl⟩
  have hzl : zs.length = n := by rw [hzs, List.length_zipWith, H1.out.1, H2.out.1, Nat.min_self]
  have HZ := Lib.hid hzs
  have HZL := Lib.hid hzl
  clear hzs hzl
  go_wp2_with fail
  go_loopw [6, 16] (fun x y wr => ∃ (i : Nat) (L : List El) (A1 : Option Addr) (c1 : Nat), i ≤ n ∧ y = .int .i64 i ∧ x = .slice A1 i c1 ∧ Hid (OwnV wr w0.heap.size (.slice A1 i c1) i L) ∧ Hid (Has L (zs.take i)) ∧ Hid (Below w0.heap.size w0 wr)) (fun _ y _ => n - (intOf y).toNat)
  case atStart => exact ⟨0, [], _, _, Nat.zero_le _, rfl, rfl, OwnV.empty _ _, by rw [List.take_zero]; exact trivial, (Below.refl _ _).alloc (Nat.le_refl _) _⟩
  case round =>
    obtain ⟨i, L, A1, c1, hle, rfl, rfl, ho, hh, hb⟩ := hrel
    by_cases hlt : i < n
    · obtain ⟨b1, o1, rfl, hb1, r1, hr1, A3, n3, c3, B3, m3, d3, at1, i1, ra1, j1, rb1⟩ := H10.out.atB hb.out i hlt
      obtain ⟨b2, o2, rfl, hb2, r2, hr2, A4, n4, c4, B4, m4, d4, at2, i2, ra2, j2, rb2⟩ := H20.out.atB hb.out i hlt
      have hi0 : (0 : Int) ≤ (i : Int) := by omega
      have hi1 : (i : Int) < (n : Int) := by omega
      have hw0 : w0.heap.size ≤ wr.heap.size := hb.out.size
      have hbx : Below wr.heap.size wr (wr.alloc (.cells #[.bool r1.g, .slice A3 n3 c3, .slice B3 m3 d3] 26)).drew := ((Below.refl _ _).alloc (Nat.le_refl _) _).drew
      have P_0 : Hid (Box (wr.alloc (.cells #[.bool r1.g, .slice A3 n3 c3, .slice B3 m3 d3] 26)).drew wr.heap.size 26 #[.bool r1.g, .slice A3 n3 c3, .slice B3 m3 d3]) := (Box.new _ _ _).drew
      have Q_0 := Lib.hid (at2.below (Nat.lt_of_lt_of_le hb2 hw0) hbx)
      have I1 := Lib.hid (i1.below hbx)
      have I2 := Lib.hid (i2.below hbx)
      have J1 := Lib.hid (j1.below hbx)
      have J2 := Lib.hid (j2.below hbx)
      have RA1 := Lib.hid ra1
      have RA2 := Lib.hid ra2
      have RB1 := Lib.hid rb1
      have RB2 := Lib.hid rb2
      have HLT2 := Lib.hid hb2
      have K1 : Hid (ROk r1.g r1.xs r1.ds) := vok_at PO.out.1 hr1
      have K2 : Hid (ROk r2.g r2.xs r2.ds) := vok_at PO.out.2.1 hr2
      have HZI : Hid (zs[i]? = some (radd r1 r2)) := by rw [HZ.out]; exact zip_at hr1 hr2
      have OD := Lib.hid (ho.out.below hbx)
      have BD := Lib.hid (hb.out.trans (hbx.mono hw0))
      have hsx : wr.heap.size < (wr.alloc (.cells #[.bool r1.g, .slice A3 n3 c3, .slice B3 m3 d3] 26)).drew.heap.size := by simp only [drew_size]; simp
      have HSX := Lib.hid hsx
      obtain ⟨e10, e11, e12⟩ := at1
      clear at2 i1 i2 j1 j2 hr1 hr2 ra1 ra2 rb1 rb2 hbx hsx
      go_wp2_with fail
      go_region_held3 (fun w' => w'.cell? ⟨wr.heap.size, 0, none⟩ = some (.bool r1.g) ∧ w'.cell? ⟨wr.heap.size, 1, none⟩ = some (.slice A3 n3 c3) ∧ w'.cell? ⟨wr.heap.size, 2, none⟩ = some (.slice B3 m3 d3) ∧ w'.cell? ⟨b2, o2 + i * 3, none⟩ = some (.bool r2.g) ∧ w'.cell? ⟨b2, o2 + i * 3 + 1, none⟩ = some (.slice A4 n4 c4) ∧ w'.cell? ⟨b2, o2 + i * 3 + 2, none⟩ = some (.slice B4 m4 d4)) (first | with_reducible exact box_at3 P_3 Q_3 | with_reducible exact box_at3 P_2 Q_2 | with_reducible exact box_at3 P_1 Q_1 | with_reducible exact box_at3 P_0 Q_0) (first | (refine step_append_el rfl _ _ 35 rfl w0.heap.size i0 (.agg #[.bool false, .slice none 0 0, .slice none 0 0]) 56 Try.underlying35 hi hz0 hz1 hz2 rfl _ i L rfl HO.out ⟨g, .slice A2 r.length c2, r.length, r.map (.int .i64), .slice B2 dd.length d2, dd.length, dd.map (.int .i64)⟩ rfl HE.out HFR.out rfl rfl (by unfold maxLen; omega) (by omega) HB.out.size _ ?_; intro V' w3 s1 hg; obtain ⟨A5, c5, rfl⟩ := s1.slice; have P_3 := Lib.hid (P_2.out.grown hg (ne_main ho.out (.inr (Nat.le_refl _)))); have Q_3 := Lib.hid (Q_2.out.grown (by have := HLT2.out; have := HB.out.size; simp; omega) hg (ne_main HO.out (.inl HLT2.out))); have HO3 := Lib.hid s1; have HB3 := Lib.hid (below_app HB.out HO.out hg); clear s1 hg) | (go_at_call 66; (with_reducible refine (spec_l04Add r1.g A3 n3 c3 r1.xs B3 m3 d3 r1.ds r2.g A4 n4 c4 r2.xs B4 m4 d4 r2.ds _ I1.out RA1.out J1.out RB1.out I2.out RA2.out J2.out RB2.out K1.out K2.out).mono ?_); rintro e w2 ⟨g, r, v, dd, u, rfl, hq, q1, q2, hap, hc2⟩; obtain ⟨A2, c2, rfl⟩ := own_slice q1.2; obtain ⟨B2, d2, rfl⟩ := own_slice q2.2; obtain ⟨s1, s2, s3, s4⟩ := new_el (g := g) OD.out BD.out hc2 q1 q2 hap; have HH := Lib.hid (has_append (v := .slice A2 r.length c2) (u := .slice B2 dd.length d2) hh.out ((radd_of hq).symm ▸ HZI.out)); have HO := Lib.hid s1; have HE := Lib.hid s2; have HFR := Lib.hid s3; have HB := Lib.hid s4; have P_1 := Lib.hid (P_0.out.below hc2 P_0.out.lt); have Q_1 := Lib.hid (Q_0.out.below (Nat.lt_of_lt_of_le HLT2.out BD.out.size) hc2); have hsz2 : wr.heap.size < w2.heap.size := Nat.lt_of_lt_of_le HSX.out hc2.size; have P_2 := Lib.hid (P_1.out.alloc (.cells #[.bool g, .slice A2 r.length c2, .slice B2 dd.length d2] 26)); have Q_2 := Lib.hid (Q_1.out.alloc (Nat.lt_of_lt_of_le HLT2.out s4.size) (.cells #[.bool g, .slice A2 r.length c2, .slice B2 dd.length d2] 26)); clear s1 s2 s3 s4 hq q1 q2 hap hc2))
      go_wp2_with fail
      go_roundw
      case rel => exact ⟨i + 1, _, A5, c5, by omega, by go_num, rfl, HO3, HH, HB3⟩
      case measure => simp [intOf]; omega
    · obtain rfl : i = n := by omega
      have HH : Hid (Has L zs) := by have := hh.out; rwa [List.take_of_length_le (by rw [HZL.out]; omega)] at this
      have HG : Hid (Goods zs) := by rw [HZ.out]; exact zip_goods radd_good (by rw [H1.out.1]; exact h24)
      have HI : Hid (InV wr A1 i zs) := ho.out.in_ HH.out (by omega) HG.out.fits
      go_wp2_with fail
      refine (spec_l05Done A1 i c1 zs _ HI.out HG.out).mono ?_
      rintro e w3 ⟨hc, hb3⟩
      have HB3 := Lib.hid (HB0.out.trans ((hb.out.trans (hb3.mono hb.out.size)).mono HB0.out.size))
      have HO3 := Lib.hid ((ho.out.below hb3).lower HB0.out.size)
      rcases hc with ⟨hk, rfl⟩ | ⟨hk, rfl⟩
      · have HF : Hid (VecOkEnd (AddVectorsIs rs1 rs2) w w3 (.returned (.tuple #[.slice A1 i c1, .bool true]))) := ⟨zs, _, true, rfl, .inl ⟨⟨PO.out, by rw [← HZ.out]; exact hk⟩, HZ.out, rfl⟩, resV_mk HG.out HZL.out HO3.out HH.out, HB3.out⟩
        clear hb3 hk
        go_wp2_with fail
        go_ret2
        exact HF.out
      · have HF : Hid (VecOkEnd (AddVectorsIs rs1 rs2) w w3 (.returned (.tuple #[.slice none 0 0, .bool false]))) := ⟨[], _, false, rfl, .inr ⟨fun h => hk (by rw [HZ.out]; exact h.2), rfl, rfl⟩, resV_nil _ _, HB3.out⟩
        clear hb3 hk
        go_wp2_with fail
        go_ret2
        exact HF.out
theorem spec_addVectors (A : Option Addr) (n c : Nat) (rs1 : List RD) (B : Option Addr) (m d : Nat) (rs2 : List RD) (w : World) (h1 : InV w A n rs1) (h2 : InV w B m rs2) :
    Calls Try.prog 29 #[.slice A n c, .slice B m d] w fun e w' => ∃ r V b, e = .returned (.tuple #[V, .bool b]) ∧ AddVectorsIs rs1 rs2 r b ∧ ResV w w' V r ∧ Below w.heap.size w w' := (spec_addVectors0 A n c rs1 B m d rs2 w h1 h2).mono fun _ _ h => h
set_option maxHeartbeats 3200000 in
theorem spec_subtractVectors0 (A : Option Addr) (n c : Nat) (rs1 : List RD) (B : Option Addr) (m d : Nat) (rs2 : List RD) (w : World) (h1 : InV w A n rs1) (h2 : InV w B m rs2) :
    Calls Try.prog 31 #[.slice A n c, .slice B m d] w fun e w' => VecOkEnd (SubtractVectorsIs rs1 rs2) w w' e := by
  obtain ⟨i0, hi, hz0, hz1, hz2⟩ := info_parts Try.infoR
  have H1 := Lib.hid h1
  have H2 := Lib.hid h2
  have hn := h1.2.1
  have hm := h2.2.1
  clear h1 h2
  go_enter Try.func31, Try.ntmps31
  go_wp2_with fail
  refine (spec_l05Pair A n c rs1 B m d rs2 _ H1.out H2.out).mono ?_
  rintro e w0 ⟨b, rfl, hq, hb⟩
  cases b
  · have HF : Hid (VecOkEnd (SubtractVectorsIs rs1 rs2) w w0 (.returned (.tuple #[.slice none 0 0, .bool false]))) := ⟨[], _, false, rfl, done_no (fun h => (by have h1 := hq.2 h; cases h1)), resV_nil _ _, hb⟩
    clear hq hb
    go_wp2_with fail
    go_ret2
    exact HF.out
  have PO := Lib.hid (hq.1 rfl)
  have HB0 := Lib.hid hb
  have H10 := Lib.hid (H1.out.below hb)
  have H20 := Lib.hid (H2.out.below hb)
  clear hq hb
  have hnm : n = m := by rw [← H1.out.1, ← H2.out.1]; exact PO.out.2.2
  subst hnm
  have h24 : n ≤ 24 := by rw [← H1.out.1]; exact PO.out.1.1
  obtain ⟨zs, hzs⟩ : ∃ zs, zs = List.zipWith rsub rs1 rs2 := ⟨_, rfl⟩
  have hzl : zs.length = n := by rw [hzs, List.length_zipWith, H1.out.1, H2.out.1, Nat.min_self]
  have HZ := Lib.hid hzs
  have HZL := Lib.hid hzl
  clear hzs hzl
  go_wp2_with fail
  go_loopw [6, 16] (fun x y wr => ∃ (i : Nat) (L : List El) (A1 : Option Addr) (c1 : Nat), i ≤ n ∧ y = .int .i64 i ∧ x = .slice A1 i c1 ∧ Hid (OwnV wr w0.heap.size (.slice A1 i c1) i L) ∧ Hid (Has L (zs.take i)) ∧ Hid (Below w0.heap.size w0 wr)) (fun _ y _ => n - (intOf y).toNat)
  case atStart => exact ⟨0, [], _, _, Nat.zero_le _, rfl, rfl, OwnV.empty _ _, by rw [List.take_zero]; exact trivial, (Below.refl _ _).alloc (Nat.le_refl _) _⟩
  case round =>
    obtain ⟨i, L, A1, c1, hle, rfl, rfl, ho, hh, hb⟩ := hrel
    by_cases hlt : i < n
    · obtain ⟨b1, o1, rfl, hb1, r1, hr1, A3, n3, c3, B3, m3, d3, at1, i1, ra1, j1, rb1⟩ := H10.out.atB hb.out i hlt
      obtain ⟨b2, o2, rfl, hb2, r2, hr2, A4, n4, c4, B4, m4, d4, at2, i2, ra2, j2, rb2⟩ := H20.out.atB hb.out i hlt
      have hi0 : (0 : Int) ≤ (i : Int) := by omega
      have hi1 : (i : Int) < (n : Int) := by omega
      have hw0 : w0.heap.size ≤ wr.heap.size := hb.out.size
      have hbx : Below wr.heap.size wr (wr.alloc (.cells #[.bool r1.g, .slice A3 n3 c3, .slice B3 m3 d3] 26)).drew := ((Below.refl _ _).alloc (Nat.le_refl _) _).drew
      have P_0 : Hid (Box (wr.alloc (.cells #[.bool r1.g, .slice A3 n3 c3, .slice B3 m3 d3] 26)).drew wr.heap.size 26 #[.bool r1.g, .slice A3 n3 c3, .slice B3 m3 d3]) := (Box.new _ _ _).drew
      have Q_0 := Lib.hid (at2.below (Nat.lt_of_lt_of_le hb2 hw0) hbx)
      have I1 := Lib.hid (i1.below hbx)
      have I2 := Lib.hid (i2.below hbx)
      have J1 := Lib.hid (j1.below hbx)
      have J2 := Lib.hid (j2.below hbx)
      have RA1 := Lib.hid ra1
      have RA2 := Lib.hid ra2
      have RB1 := Lib.hid rb1
      have RB2 := Lib.hid rb2
      have HLT2 := Lib.hid hb2
      have K1 : Hid (ROk r1.g r1.xs r1.ds) := vok_at PO.out.1 hr1
      have K2 : Hid (ROk r2.g r2.xs r2.ds) := vok_at PO.out.2.1 hr2
      have HZI : Hid (zs[i]? = some (rsub r1 r2)) := by rw [HZ.out]; exact zip_at hr1 hr2
      have OD := Lib.hid (ho.out.below hbx)
      have BD := Lib.hid (hb.out.trans (hbx.mono hw0))
      have hsx : wr.heap.size < (wr.alloc (.cells #[.bool r1.g, .slice A3 n3 c3, .slice B3 m3 d3] 26)).drew.heap.size := by simp only [drew_size]; simp
      have HSX := Lib.hid hsx
      obtain ⟨e10, e11, e12⟩ := at1
      clear at2 i1 i2 j1 j2 hr1 hr2 ra1 ra2 rb1 rb2 hbx hsx
      go_wp2_with fail
      go_region_held3 (fun w' => w'.cell? ⟨wr.heap.size, 0, none⟩ = some (.bool r1.g) ∧ w'.cell? ⟨wr.heap.size, 1, none⟩ = some (.slice A3 n3 c3) ∧ w'.cell? ⟨wr.heap.size, 2, none⟩ = some (.slice B3 m3 d3) ∧ w'.cell? ⟨b2, o2 + i * 3, none⟩ = some (.bool r2.g) ∧ w'.cell? ⟨b2, o2 + i * 3 + 1, none⟩ = some (.slice A4 n4 c4) ∧ w'.cell? ⟨b2, o2 + i * 3 + 2, none⟩ = some (.slice B4 m4 d4)) (first | with_reducible exact box_at3 P_3 Q_3 | with_reducible exact box_at3 P_2 Q_2 | with_reducible exact box_at3 P_1 Q_1 | with_reducible exact box_at3 P_0 Q_0) (first | (refine step_append_el rfl _ _ 35 rfl w0.heap.size i0 (.agg #[.bool false, .slice none 0 0, .slice none 0 0]) 56 Try.underlying35 hi hz0 hz1 hz2 rfl _ i L rfl HO.out ⟨g, .slice A2 r.length c2, r.length, r.map (.int .i64), .slice B2 dd.length d2, dd.length, dd.map (.int .i64)⟩ rfl HE.out HFR.out rfl rfl (by unfold maxLen; omega) (by omega) HB.out.size _ ?_; intro V' w3 s1 hg; obtain ⟨A5, c5, rfl⟩ := s1.slice; have P_3 := Lib.hid (P_2.out.grown hg (ne_main ho.out (.inr (Nat.le_refl _)))); have Q_3 := Lib.hid (Q_2.out.grown (by have := HLT2.out; have := HB.out.size; simp; omega) hg (ne_main HO.out (.inl HLT2.out))); have HO3 := Lib.hid s1; have HB3 := Lib.hid (below_app HB.out HO.out hg); clear s1 hg) | (go_at_call 70; (with_reducible refine (spec_l05Sub r1.g A3 n3 c3 r1.xs B3 m3 d3 r1.ds r2.g A4 n4 c4 r2.xs B4 m4 d4 r2.ds _ I1.out RA1.out J1.out RB1.out I2.out RA2.out J2.out RB2.out K1.out K2.out).mono ?_); rintro e w2 ⟨g, r, v, dd, u, rfl, hq, q1, q2, hap, hc2⟩; obtain ⟨A2, c2, rfl⟩ := own_slice q1.2; obtain ⟨B2, d2, rfl⟩ := own_slice q2.2; obtain ⟨s1, s2, s3, s4⟩ := new_el (g := g) OD.out BD.out hc2 q1 q2 hap; have HH := Lib.hid (has_append (v := .slice A2 r.length c2) (u := .slice B2 dd.length d2) hh.out ((rsub_of hq).symm ▸ HZI.out)); have HO := Lib.hid s1; have HE := Lib.hid s2; have HFR := Lib.hid s3; have HB := Lib.hid s4; have P_1 := Lib.hid (P_0.out.below hc2 P_0.out.lt); have Q_1 := Lib.hid (Q_0.out.below (Nat.lt_of_lt_of_le HLT2.out BD.out.size) hc2); have hsz2 : wr.heap.size < w2.heap.size := Nat.lt_of_lt_of_le HSX.out hc2.size; have P_2 := Lib.hid (P_1.out.alloc (.cells #[.bool g, .slice A2 r.length c2, .slice B2 dd.length d2] 26)); have Q_2 := Lib.hid (Q_1.out.alloc (Nat.lt_of_lt_of_le HLT2.out s4.size) (.cells #[.bool g, .slice A2 r.length c2, .slice B2 dd.length d2] 26)); clear s1 s2 s3 s4 hq q1 q2 hap hc2))
      go_wp2_with fail
      go_roundw
      case rel => exact ⟨i + 1, _, A5, c5, by omega, by go_num, rfl, HO3, HH, HB3⟩
      case measure => simp [intOf]; omega
    · obtain rfl : i = n := by omega
      have HH : Hid (Has L zs) := by have := hh.out; rwa [List.take_of_length_le (by rw [HZL.out]; omega)] at this
      have HG : Hid (Goods zs) := by rw [HZ.out]; exact zip_goods rsub_good (by rw [H1.out.1]; exact h24)
      have HI : Hid (InV wr A1 i zs) := ho.out.in_ HH.out (by omega) HG.out.fits
      go_wp2_with fail
      refine (spec_l05Done A1 i c1 zs _ HI.out HG.out).mono ?_
      rintro e w3 ⟨hc, hb3⟩
      have HB3 := Lib.hid (HB0.out.trans ((hb.out.trans (hb3.mono hb.out.size)).mono HB0.out.size))
      have HO3 := Lib.hid ((ho.out.below hb3).lower HB0.out.size)
      rcases hc with ⟨hk, rfl⟩ | ⟨hk, rfl⟩
      · have HF : Hid (VecOkEnd (SubtractVectorsIs rs1 rs2) w w3 (.returned (.tuple #[.slice A1 i c1, .bool true]))) := ⟨zs, _, true, rfl, .inl ⟨⟨PO.out, by rw [← HZ.out]; exact hk⟩, HZ.out, rfl⟩, resV_mk HG.out HZL.out HO3.out HH.out, HB3.out⟩
        clear hb3 hk
        go_wp2_with fail
        go_ret2
        exact HF.out
      · have HF : Hid (VecOkEnd (SubtractVectorsIs rs1 rs2) w w3 (.returned (.tuple #[.slice none 0 0, .bool false]))) := ⟨[], _, false, rfl, .inr ⟨fun h => hk (by rw [HZ.out]; exact h.2), rfl, rfl⟩, resV_nil _ _, HB3.out⟩
        clear hb3 hk
        go_wp2_with fail
        go_ret2
        exact HF.out
theorem spec_subtractVectors (A : Option Addr) (n c : Nat) (rs1 : List RD) (B : Option Addr) (m d : Nat) (rs2 : List RD) (w : World) (h1 : InV w A n rs1) (h2 : InV w B m rs2) :
    Calls Try.prog 31 #[.slice A n c, .slice B m d] w fun e w' => ∃ r V b, e = .returned (.tuple #[V, .bool b]) ∧ SubtractVectorsIs rs1 rs2 r b ∧ ResV w w' V r ∧ Below w.heap.size w w' := (spec_subtractVectors0 A n c rs1 B m d rs2 w h1 h2).mono fun _ _ h => h
end Go.Proofs.Ytjggdbakbhacjaa
