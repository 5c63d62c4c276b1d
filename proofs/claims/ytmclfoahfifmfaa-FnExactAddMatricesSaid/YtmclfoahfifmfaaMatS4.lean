/- Contracts of matrices, by the model: the sum; results with a number that is too large. -/
import Derived.Test.YtmclfoahfifmfaaMatS
import Derived.Test.YtmclfoahfifmfaaGW
import Derived.Test.YtmclfoahfifmfaaRatS5
import Derived.Deep.RegionLaw
namespace Go.Proofs.Ytmclfoahfifmfaa
set_option maxRecDepth 100000
open Go.RowKit

def DoneMEnd (p k : Int) (A : Option Addr) (n c : Nat) (rs : List RD) (w w' : World) (e : Ending) : Prop :=
  (((∀ r ∈ rs, r.ok) ∧ e = .returned (.tuple #[.agg #[.int .i64 p, .int .i64 k, .slice A n c], .bool true])) ∨ (¬ (∀ r ∈ rs, r.ok) ∧ e = .returned (.tuple #[.agg #[.int .i64 0, .int .i64 0, .slice none 0 0], .bool false]))) ∧ Below w.heap.size w w'
set_option maxHeartbeats 1600000 in
theorem spec_l06Done (p k : Int) (A : Option Addr) (n c : Nat) (rs : List RD) (w : World) (h : InV w A n rs) (hg : Goods rs) :
    Calls Try.prog 78 #[.agg #[.int .i64 p, .int .i64 k, .slice A n c]] w fun e w' => DoneMEnd p k A n c rs w w' e := by
  obtain ⟨W0, hW0⟩ : ∃ W, W = ((w.alloc (.cells #[.int .i64 p, .int .i64 k, .slice A n c] 25)).alloc (.cells #[.int .i64 0, .int .i64 0, .slice none 0 0] 25)) := ⟨_, rfl⟩
  have hm0_0 : Hid (Box W0 (w.heap.size) 25 #[.int .i64 p, .int .i64 k, .slice A n c]) := by rw [hW0]; exact ((Box.at' (by simp)).alloc _)
  have ht_0 : Hid (Box W0 (w.heap.size + 1) 25 #[.int .i64 0, .int .i64 0, .slice none 0 0]) := by rw [hW0]; exact (Box.at' (by simp))
  have BW_0 : Hid (Below w.heap.size w W0) := by rw [hW0]; exact (((Below.refl w.heap.size w).alloc (by simp) _).alloc (by simp) _)
  have hsz0 : w.heap.size + 1 + 1 ≤ W0.heap.size := by rw [hW0]; simp
  have HV := Lib.hid (h.below BW_0.out)
  have HG := Lib.hid hg
  clear h hg
  go_enter Try.func78, Try.ntmps78
  go_wp2_with fail
  rw [← hW0]
  clear hW0
  refine (spec_l05Fine A n c rs _ HV.out HG.out).mono ?_
  rintro e w1 ⟨b, rfl, hb2, hb⟩
  have hm0_1 := Lib.hid (hm0_0.out.below hb hm0_0.out.lt)
  have ht_1 := Lib.hid (ht_0.out.below hb ht_0.out.lt)
  have BW_1 := Lib.hid (BW_0.out.trans (hb.mono BW_0.out.size))
  clear hb
  have ehm00 := hm0_1.out.cell 0
  have ehm01 := hm0_1.out.cell 1
  have ehm02 := hm0_1.out.cell 2
  have eht0 := ht_1.out.cell 0
  have eht1 := ht_1.out.cell 1
  have eht2 := ht_1.out.cell 2
  have fht0 := ht_1.out.free 0
  have fht1 := ht_1.out.free 1
  have fht2 := ht_1.out.free 2
  simp at ehm00 ehm01 ehm02 eht0 eht1 eht2
  cases b
  · have HF : Hid (¬ ∀ r ∈ rs, r.ok) := fun h => (by have h1 := hb2.2 h; cases h1)
    clear hb2
    go_wp2_with fail
    refine bodyPost_ret (v := .tuple #[.agg #[.int .i64 0, .int .i64 0, .slice none 0 0], .bool false]) (by simp [results, Try.results78, eht0, eht1, eht2, go_sem]) rfl ?_
    exact ⟨.inr ⟨HF.out, rfl⟩, below_store3 BW_1.out (by omega) _ _ _⟩
  · have HF := Lib.hid (hb2.1 rfl)
    clear hb2
    go_wp2_with fail
    refine bodyPost_ret (v := .tuple #[.agg #[.int .i64 p, .int .i64 k, .slice A n c], .bool true]) (by simp [results, Try.results78, eht0, eht1, eht2, go_sem]) rfl ?_
    exact ⟨.inl ⟨HF.out, rfl⟩, below_store3 BW_1.out (by omega) _ _ _⟩
theorem add_no {p k p' k' : Int} {rs ss : List RD} (h : ¬ (MOk p k rs ∧ MOk p' k' ss ∧ p = p' ∧ k = k')) : AddMatricesIs p k rs p' k' ss 0 0 [] false := matDone_no fun h2 => h h2.1
set_option maxHeartbeats 6400000 in
theorem spec_addMatrices0 (p k : Int) (A : Option Addr) (n c : Nat) (rs : List RD) (p' k' : Int) (B : Option Addr) (m d : Nat) (ss : List RD) (w : World) (h1 : InV w A n rs) (hp : -9223372036854775808 ≤ p ∧ p ≤ 9223372036854775807) (hk : -9223372036854775808 ≤ k ∧ k ≤ 9223372036854775807) (h2 : InV w B m ss) (hp' : -9223372036854775808 ≤ p' ∧ p' ≤ 9223372036854775807) (hk' : -9223372036854775808 ≤ k' ∧ k' ≤ 9223372036854775807) :
    Calls Try.prog 45 #[.agg #[.int .i64 p, .int .i64 k, .slice A n c], .agg #[.int .i64 p', .int .i64 k', .slice B m d]] w fun e w' => MatOkEnd (AddMatricesIs p k rs p' k' ss) w w' e := by
  obtain ⟨i0, hi, hz0, hz1, hz2⟩ := info_parts Try.infoR
  obtain ⟨W0, hW0⟩ : ∃ W, W = (((w.alloc (.cells #[.int .i64 p, .int .i64 k, .slice A n c] 25)).alloc (.cells #[.int .i64 p', .int .i64 k', .slice B m d] 25)).alloc (.cells #[.int .i64 0, .int .i64 0, .slice none 0 0] 25)) := ⟨_, rfl⟩
  have hm0_0 : Hid (Box W0 (w.heap.size) 25 #[.int .i64 p, .int .i64 k, .slice A n c]) := by rw [hW0]; exact (((Box.at' (by simp)).alloc _).alloc _)
  have hm1_0 : Hid (Box W0 (w.heap.size + 1) 25 #[.int .i64 p', .int .i64 k', .slice B m d]) := by rw [hW0]; exact ((Box.at' (by simp)).alloc _)
  have ht_0 : Hid (Box W0 (w.heap.size + 1 + 1) 25 #[.int .i64 0, .int .i64 0, .slice none 0 0]) := by rw [hW0]; exact (Box.at' (by simp))
  have BW_0 : Hid (Below w.heap.size w W0) := by rw [hW0]; exact ((((Below.refl w.heap.size w).alloc (by simp) _).alloc (by simp) _).alloc (by simp; omega) _)
  have hsz0 : w.heap.size + 1 + 1 + 1 ≤ W0.heap.size := by rw [hW0]; simp
  have H1 := Lib.hid (h1.below BW_0.out)
  have H2 := Lib.hid (h2.below BW_0.out)
  have hn := h1.2.1
  have hmm := h2.2.1
  clear h1 h2
  go_enter Try.func45, Try.ntmps45
  go_wp2_with fail
  rw [← hW0]
  clear hW0
  refine (spec_matrixOk0 p k A n c rs _ H1.out hp hk).mono ?_
  rintro e w1 ⟨b, rfl, hq, hb⟩
  have hm0_1 := Lib.hid (hm0_0.out.below hb hm0_0.out.lt)
  have hm1_1 := Lib.hid (hm1_0.out.below hb hm1_0.out.lt)
  have ht_1 := Lib.hid (ht_0.out.below hb ht_0.out.lt)
  have BW_1 := Lib.hid (BW_0.out.trans (hb.mono BW_0.out.size))
  replace H1 := Lib.hid (H1.out.below hb)
  replace H2 := Lib.hid (H2.out.below hb)
  clear hb
  have ehm00 := hm0_1.out.cell 0
  have ehm01 := hm0_1.out.cell 1
  have ehm02 := hm0_1.out.cell 2
  have ehm10 := hm1_1.out.cell 0
  have ehm11 := hm1_1.out.cell 1
  have ehm12 := hm1_1.out.cell 2
  have eht0 := ht_1.out.cell 0
  have eht1 := ht_1.out.cell 1
  have eht2 := ht_1.out.cell 2
  have fht0 := ht_1.out.free 0
  have fht1 := ht_1.out.free 1
  have fht2 := ht_1.out.free 2
  simp at ehm00 ehm01 ehm02 ehm10 ehm11 ehm12 eht0 eht1 eht2
  cases b
  case false =>
    have HZ : Hid (AddMatricesIs p k rs p' k' ss 0 0 [] false) := add_no fun h => (by have h1 := hq.2 h.1; cases h1)
    clear hq
    go_wp2_with fail
    refine bodyPost_ret (v := .tuple #[.agg #[.int .i64 0, .int .i64 0, .slice none 0 0], .bool false]) (by simp [results, Try.results45, eht0, eht1, eht2, go_sem]) rfl ?_
    exact matOkEnd_zero HZ.out BW_1.out (by omega) _ _ _
  have M1 := Lib.hid (hq.1 rfl)
  clear hq
  go_wp2_with fail
  clear ehm00 ehm01 ehm02 ehm10 ehm11 ehm12 eht0 fht0 eht1 fht1 eht2 fht2
  refine (spec_matrixOk0 p' k' B m d ss _ H2.out hp' hk').mono ?_
  rintro e w2 ⟨b, rfl, hq, hb⟩
  have hm0_2 := Lib.hid (hm0_1.out.below hb hm0_1.out.lt)
  have hm1_2 := Lib.hid (hm1_1.out.below hb hm1_1.out.lt)
  have ht_2 := Lib.hid (ht_1.out.below hb ht_1.out.lt)
  have BW_2 := Lib.hid (BW_1.out.trans (hb.mono BW_1.out.size))
  replace H1 := Lib.hid (H1.out.below hb)
  replace H2 := Lib.hid (H2.out.below hb)
  clear hb
  have ehm00 := hm0_2.out.cell 0
  have ehm01 := hm0_2.out.cell 1
  have ehm02 := hm0_2.out.cell 2
  have ehm10 := hm1_2.out.cell 0
  have ehm11 := hm1_2.out.cell 1
  have ehm12 := hm1_2.out.cell 2
  have eht0 := ht_2.out.cell 0
  have eht1 := ht_2.out.cell 1
  have eht2 := ht_2.out.cell 2
  have fht0 := ht_2.out.free 0
  have fht1 := ht_2.out.free 1
  have fht2 := ht_2.out.free 2
  simp at ehm00 ehm01 ehm02 ehm10 ehm11 ehm12 eht0 eht1 eht2
  cases b
  case false =>
    have HZ : Hid (AddMatricesIs p k rs p' k' ss 0 0 [] false) := add_no fun h => (by have h1 := hq.2 h.2.1; cases h1)
    clear hq
    go_wp2_with fail
    refine bodyPost_ret (v := .tuple #[.agg #[.int .i64 0, .int .i64 0, .slice none 0 0], .bool false]) (by simp [results, Try.results45, eht0, eht1, eht2, go_sem]) rfl ?_
    exact matOkEnd_zero HZ.out BW_2.out (by omega) _ _ _
  have M2 := Lib.hid (hq.1 rfl)
  clear hq
  by_cases hpp : (p != p') = true
  · have HZ : Hid (AddMatricesIs p k rs p' k' ss 0 0 [] false) := add_no fun h => by simp at hpp; exact hpp h.2.2.1
    go_wp2_with fail
    refine bodyPost_ret (v := .tuple #[.agg #[.int .i64 0, .int .i64 0, .slice none 0 0], .bool false]) (by simp [results, Try.results45, eht0, eht1, eht2, go_sem]) rfl ?_
    exact matOkEnd_zero HZ.out BW_2.out (by omega) _ _ _
  have hpp2 : (p != p') = false := by simpa using hpp
  by_cases hkk : (k != k') = true
  · have HZ : Hid (AddMatricesIs p k rs p' k' ss 0 0 [] false) := add_no fun h => by simp at hkk; exact hkk h.2.2.2
    clear hpp
    go_wp2_with fail
    refine bodyPost_ret (v := .tuple #[.agg #[.int .i64 0, .int .i64 0, .slice none 0 0], .bool false]) (by simp [results, Try.results45, eht0, eht1, eht2, go_sem]) rfl ?_
    exact matOkEnd_zero HZ.out BW_2.out (by omega) _ _ _
  obtain rfl : p = p' := by simpa using hpp
  obtain rfl : k = k' := by simpa using hkk
  have hpp2 : (p != p) = false := by simp
  have hkk2 : (k != k) = false := by simp
  clear hpp hkk
  have hnm : n = m := by
    have e1 := M1.out.2.2.1
    have e2 := M2.out.2.2.1
    rw [H1.out.1] at e1
    rw [H2.out.1] at e2
    omega
  subst hnm
  have hn5 : n ≤ 576 := by have := M1.out.len; rw [H1.out.1] at this; exact this
  obtain ⟨zs, hzs⟩ : ∃ zs, zs = List.zipWith radd rs ss := ⟨_, rfl⟩
  have HZ := Lib.hid hzs
  have HZL : Hid (zs.length = n) := by unfold Hid; rw [hzs, List.length_zipWith, H1.out.1, H2.out.1, Nat.min_self]
  have HZG : Hid (Goods zs) := by rw [hzs]; exact zip_goods radd_good (by rw [H1.out.1]; omega)
  obtain ⟨W3, hW3⟩ : ∃ W, W = w2.alloc (.cells #[.int .i64 p, .int .i64 k, .slice none 0 0] 25) := ⟨_, rfl⟩
  have hbx : Below w2.heap.size w2 W3 := by rw [hW3]; exact (Below.refl _ _).alloc (Nat.le_refl _) _
  have X_3 : Hid (Box W3 w2.heap.size 25 #[.int .i64 p, .int .i64 k, .slice none 0 0]) := by rw [hW3]; exact Box.new _ _ _
  have BZ := Lib.hid hbx
  have ex20 := (hm0_2.out.alloc (.cells #[.int .i64 p, .int .i64 k, .slice none 0 0] 25)).cell 2
  simp at ex20
  have hltm := hm1_2.out.lt
  have hltm0 := hm0_2.out.lt
  clear hzs hbx
  go_wp2_with fail
  rw [← hW3]
  clear hW3 ex20
  clear ehm00 ehm01 ehm02 ehm10 ehm11 ehm12 eht0 fht0 eht1 fht1 eht2 fht2
  go_loopw [40] (fun y wr => ∃ (i : Nat) (L : List El) (A1 : Option Addr) (c1 : Nat), i ≤ n ∧ y = .int .i64 i ∧ Hid (OwnV wr w2.heap.size (.slice A1 i c1) i L) ∧ Hid (Has L (zs.take i)) ∧ Hid (Box wr w2.heap.size 25 #[.int .i64 p, .int .i64 k, .slice A1 i c1]) ∧ Hid (Below w2.heap.size w2 wr)) (fun y _ => n - (intOf y).toNat)
  case atStart => exact ⟨0, [], none, 0, Nat.zero_le _, rfl, OwnV.none_ _ _, by rw [List.take_zero]; exact trivial, X_3, BZ⟩
  case round =>
    obtain ⟨i, L, A1, c1, hle, rfl, ho, hh, hX, hb⟩ := hrel
    by_cases hlt : i < n
    · obtain ⟨b1, o1, rfl, hb1, r1, hr1, A3, n3, c3, B3, m3, d3, at1, i1, ra1, j1, rb1⟩ := H1.out.atB hb.out i hlt
      obtain ⟨b2, o2, rfl, hb2, r2, hr2, A4, n4, c4, B4, m4, d4, at2, i2, ra2, j2, rb2⟩ := H2.out.atB hb.out i hlt
      have hi0 : (0 : Int) ≤ (i : Int) := by omega
      have hi1 : (i : Int) < (n : Int) := by omega
      have hw0 : w2.heap.size ≤ wr.heap.size := hb.out.size
      have hbx : Below wr.heap.size wr (wr.alloc (.cells #[.bool r1.g, .slice A3 n3 c3, .slice B3 m3 d3] 42)).drew := ((Below.refl _ _).alloc (Nat.le_refl _) _).drew
      have hP := (Box.new wr 42 #[.bool r1.g, .slice A3 n3 c3, .slice B3 m3 d3])
      have hX0 := hX.out.alloc (.cells #[.bool r1.g, .slice A3 n3 c3, .slice B3 m3 d3] 42)
      have X_0 : Hid (Box (wr.alloc (.cells #[.bool r1.g, .slice A3 n3 c3, .slice B3 m3 d3] 42)).drew w2.heap.size 25 #[.int .i64 p, .int .i64 k, .slice A1 i c1]) := hX0.drew
      have hM0 := (hm1_2.out.below hb.out hm1_2.out.lt).alloc (.cells #[.bool r1.g, .slice A3 n3 c3, .slice B3 m3 d3] 42)
      have hA0 := at2.alloc (Nat.lt_of_lt_of_le hb2 hw0) (.cells #[.bool r1.g, .slice A3 n3 c3, .slice B3 m3 d3] 42)
      have I1 := Lib.hid (i1.below hbx)
      have I2 := Lib.hid (i2.below hbx)
      have J1 := Lib.hid (j1.below hbx)
      have J2 := Lib.hid (j2.below hbx)
      have RA1 := Lib.hid ra1
      have RA2 := Lib.hid ra2
      have RB1 := Lib.hid rb1
      have RB2 := Lib.hid rb2
      have K1 : Hid (ROk r1.g r1.xs r1.ds) := M1.out.all _ (List.mem_of_getElem? hr1)
      have K2 : Hid (ROk r2.g r2.xs r2.ds) := M2.out.all _ (List.mem_of_getElem? hr2)
      have HZI : Hid (zs[i]? = some (radd r1 r2)) := by rw [HZ.out]; exact zip_at hr1 hr2
      have OD := Lib.hid (ho.out.below hbx)
      have BD := Lib.hid (hb.out.trans (hbx.mono hw0))
      obtain ⟨e10, e11, e12⟩ := at1
      have ex2 := hX0.cell 2
      have ep0 := hP.cell 0
      have ep1 := hP.cell 1
      have ep2 := hP.cell 2
      have em2 := hM0.cell 2
      obtain ⟨eq0, eq1, eq2⟩ := hA0
      simp at ex2 ep0 ep1 ep2 em2
      clear at2 i1 i2 j1 j2 hr1 hr2 ra1 ra2 rb1 rb2 hbx hP hX0 hM0
      go_wp2_with fail
      clear e10 e11 e12
      go_region_law (first | (refine step_append_el rfl _ _ 23 rfl w2.heap.size i0 (.agg #[.bool false, .slice none 0 0, .slice none 0 0]) 56 Try.underlying23 hi hz0 hz1 hz2 rfl _ i L rfl HO.out ⟨g, .slice A2 r.length c2, r.length, r.map (.int .i64), .slice B2 dd.length d2, dd.length, dd.map (.int .i64)⟩ rfl HE.out HFR.out rfl rfl (by unfold maxLen; omega) (by omega) HB.out.size _ ?_; intro V' w5 s1 hg; obtain ⟨A5, c5, rfl⟩ := s1.slice; have X_4 := Lib.hid (X_2.out.grown hg (box_main X_1.out HO.out)); have HO3 := Lib.hid s1; have HB3 := Lib.hid (below_app HB.out HO.out hg); have ey0 := X_4.out.cell 0; have ey1 := X_4.out.cell 1; have ey2 := X_4.out.cell 2; simp at ey0 ey1 ey2; have fy2 := X_4.out.free 2; clear s1 hg) | (go_simp; go_at_call 77; (with_reducible refine (spec_l04Add r1.g A3 n3 c3 r1.xs B3 m3 d3 r1.ds r2.g A4 n4 c4 r2.xs B4 m4 d4 r2.ds _ I1.out RA1.out J1.out RB1.out I2.out RA2.out J2.out RB2.out K1.out K2.out).mono ?_); rintro e w4 ⟨g, r, v, dd, u, rfl, hq, q1, q2, hap, hc2⟩; obtain ⟨A2, c2, rfl⟩ := own_slice q1.2; obtain ⟨B2, d2, rfl⟩ := own_slice q2.2; obtain ⟨s1, s2, s3, s4⟩ := new_el (g := g) OD.out BD.out hc2 q1 q2 hap; have HH := Lib.hid (has_append (g := g) (r := r) (d := dd) (v := .slice A2 r.length c2) (u := .slice B2 dd.length d2) hh.out ((radd_of hq).symm ▸ HZI.out)); have HO := Lib.hid s1; have HE := Lib.hid s2; have HFR := Lib.hid s3; have HB := Lib.hid s4; have X_1 := Lib.hid (X_0.out.below hc2 X_0.out.lt); have X_2 := Lib.hid (X_1.out.alloc (.cells #[.bool g, .slice A2 r.length c2, .slice B2 dd.length d2] 42)); have eu2 := X_1.out.cell 2; simp at eu2; have ev2 : (w4.alloc (.cells #[.bool g, .slice A2 r.length c2, .slice B2 dd.length d2] 42)).cell? ⟨w2.heap.size, 2, none⟩ = some (.slice A1 i c1) := X_2.out.cell 2; clear s1 s2 s3 s4 hq q1 q2 hap hc2))
      all_goals
        have X_5 := Lib.hid (X_4.out.setAt2 (.slice A5 (i + 1) c5))
        have HO5 := Lib.hid (HO3.out.box_set X_4.out (i := 2) (.slice A5 (i + 1) c5))
        have HB5 := Lib.hid (HB3.out.setCell (p := ⟨w2.heap.size, 2, none⟩) (Nat.le_refl _) (.slice A5 (i + 1) c5))
        go_wp2_with fail
        go_roundw
        case rel => exact ⟨i + 1, _, A5, c5, by omega, by go_num, HO5, HH, X_5, HB5⟩
        case measure => simp [intOf]; omega
    · obtain rfl : i = n := by omega
      have HH : Hid (Has L zs) := by have := hh.out; rwa [List.take_of_length_le (by rw [HZL.out]; omega)] at this
      have HI : Hid (InV wr A1 i zs) := ho.out.in_ HH.out (by omega) HZG.out.fits
      have ex0 := hX.out.cell 0
      have ex1 := hX.out.cell 1
      have ex2 := hX.out.cell 2
      simp at ex0 ex1 ex2
      go_wp2_with fail
      clear ex0 ex1 ex2
      refine (spec_l06Done p k A1 i c1 zs _ HI.out HZG.out).mono ?_
      rintro e w6 ⟨hc, hb6⟩
      have HB6 := Lib.hid (hb.out.trans (hb6.mono hb.out.size))
      have HO6 := Lib.hid (ho.out.below hb6)
      have ht_6 := Lib.hid (ht_2.out.below HB6.out ht_2.out.lt)
      have BW_6 := Lib.hid (BW_2.out.trans (HB6.out.mono BW_2.out.size))
      have hsz2 := BW_2.out.size
      clear hb6
      have eht0 := ht_6.out.cell 0
      have eht1 := ht_6.out.cell 1
      have eht2 := ht_6.out.cell 2
      have fht0 := ht_6.out.free 0
      have fht1 := ht_6.out.free 1
      have fht2 := ht_6.out.free 2
      simp at eht0 eht1 eht2
      rcases hc with ⟨hk, rfl⟩ | ⟨hk, rfl⟩
      · have HQ : Hid (AddMatricesIs p k rs p k ss p k zs true) := .inl ⟨⟨⟨M1.out, M2.out, rfl, rfl⟩, by rw [← HZ.out]; exact hk⟩, rfl, rfl, HZ.out, rfl⟩
        clear hk
        go_wp2_with fail
        refine bodyPost_ret (v := .tuple #[.agg #[.int .i64 p, .int .i64 k, .slice A1 i c1], .bool true]) (by simp [results, Try.results45, eht0, eht1, eht2, go_sem]) rfl ?_
        exact matOkEnd_store ht_6.out (by omega) BW_6.out HQ.out HZG.out HZL.out HO6.out hsz2 HH.out
      · have HQ : Hid (AddMatricesIs p k rs p k ss 0 0 [] false) := .inr ⟨fun h => hk (by rw [HZ.out]; exact h.2), rfl, rfl, rfl, rfl⟩
        clear hk
        go_wp2_with fail
        refine bodyPost_ret (v := .tuple #[.agg #[.int .i64 0, .int .i64 0, .slice none 0 0], .bool false]) (by simp [results, Try.results45, eht0, eht1, eht2, go_sem]) rfl ?_
        exact matOkEnd_zero HQ.out BW_6.out (by omega) _ _ _
theorem spec_addMatrices (p k : Int) (A : Option Addr) (n c : Nat) (rs : List RD) (p' k' : Int) (B : Option Addr) (m d : Nat) (ss : List RD) (w : World) (h1 : InV w A n rs) (hp : -9223372036854775808 ≤ p ∧ p ≤ 9223372036854775807) (hk : -9223372036854775808 ≤ k ∧ k ≤ 9223372036854775807) (_hc : n ≤ c) (h2 : InV w B m ss) (hp' : -9223372036854775808 ≤ p' ∧ p' ≤ 9223372036854775807) (hk' : -9223372036854775808 ≤ k' ∧ k' ≤ 9223372036854775807) (_hd : m ≤ d) :
    Calls Try.prog 45 #[.agg #[.int .i64 p, .int .i64 k, .slice A n c], .agg #[.int .i64 p', .int .i64 k', .slice B m d]] w fun e w' => ∃ q j r V b, e = .returned (.tuple #[.agg #[.int .i64 q, .int .i64 j, V], .bool b]) ∧ AddMatricesIs p k rs p' k' ss q j r b ∧ ResV w w' V r ∧ Below w.heap.size w w' := (spec_addMatrices0 p k A n c rs p' k' B m d ss w h1 hp hk h2 hp' hk').mono fun _ _ h => h
end Go.Proofs.Ytmclfoahfifmfaa
