/- Contracts of the elimination, by the program: Determinant. -/
import Derived.Test.YtibheldbjjdinaaGreatElI7
import Derived.Deep.RegionWith
namespace Go.Proofs.YtibheldbjjdinaaGreat
set_option maxRecDepth 100000
open Go.RowKit

theorem det_no {p k : Int} {rs : List RD} (h : ¬ (Elim p k rs ∧ p = k)) : DeterminantIs p k rs false [] [] false := .inr ⟨h, rfl, rfl⟩
theorem det_low {p k : Int} {rs : List RD} (h : Elim p k rs ∧ p = k) (hl : ((fin p k rs).pv.length : Int) < p) {g : Bool} {l d : List Int} (hr : RatFromIntIs 0 g l d) : DeterminantIs p k rs g l d true := by
  have e : detv p k rs = R0 := by unfold detv; rw [if_pos hl]
  exact .inl ⟨h, by rw [e, rint_of hr, rint0], by rw [e]; exact ⟨fun _ => R0_ok, fun _ => rfl⟩⟩
theorem det_prod {p k : Int} {rs : List RD} (h : Elim p k rs ∧ p = k) (hl : ¬ ((fin p k rs).pv.length : Int) < p) {q : RD} (hq : q = prod (fin p k rs).fs) {b : Bool} (hb : RatOkIs q.g q.xs q.ds b) : DeterminantIs p k rs q.g q.xs q.ds b := by
  have e : detv p k rs = q := by unfold detv; rw [if_neg hl, hq]
  exact .inl ⟨h, e.symm, by rw [e]; exact hb⟩
theorem rat_end_of {Q : Bool → List Int → List Int → Bool → Prop} {w W : World} {gb : Nat} {cs : Array Value} {s : Bool} {r ds : List Int} {A B : Option Addr} {c d base1 base2 : Nat} {b : Bool} (hbx : Box W gb 34 cs) (hg : w.heap.size ≤ gb) (hb : Below w.heap.size w W) (hQ : Q s r ds b) (hs1 : r.length ≤ 1048576) (hs2 : ds.length ≤ 1048576)
    (h1 : W.ownsRow base1 3 1 (.slice A r.length c) r.length (r.map (.int .i64))) (hb1 : w.heap.size ≤ base1) (h2 : W.ownsRow base2 3 1 (.slice B ds.length d) ds.length (ds.map (.int .i64))) (hb2 : w.heap.size ≤ base2) (hap : Apart (.slice B ds.length d) (.slice A r.length c)) :
    RatOkEnd Q w (((W.setCell ⟨gb, 0, none⟩ (.bool s)).setCell ⟨gb, 1, none⟩ (.slice A r.length c)).setCell ⟨gb, 2, none⟩ (.slice B ds.length d)) (.returned (.tuple #[.agg #[.bool s, .slice A r.length c, .slice B ds.length d], .bool b])) := by
  obtain ⟨g, l, v, e, u, h1, h2, h3, h4, h5, h6⟩ := ratEnd_store (Q := fun g l d => Q g l d b) hbx hg hb hQ rfl rfl (by omega) (by omega) h1 hb1 h2 hb2 hap
  cases h1
  exact ⟨_, l, _, e, _, b, rfl, h2, h3, h4, h5, h6⟩
theorem RatOkEnd.drew {Q : Bool → List Int → List Int → Bool → Prop} {w W : World} {e : Ending} (h : RatOkEnd Q w W e) : RatOkEnd Q w W.drew e := by
  obtain ⟨g, r, v, d, u, b, h1, h2, h3, h4, h5, h6⟩ := h
  exact ⟨g, r, v, d, u, b, h1, h2, h3, h4, h5, h6.drew⟩
set_option maxHeartbeats 6400000 in
theorem impl_determinant0 (p k : Int) (A : Option Addr) (n c : Nat) (rs : List RD) (w : World) (h : InV w A n rs) (hp : -9223372036854775808 ≤ p ∧ p ≤ 9223372036854775807) (hk : -9223372036854775808 ≤ k ∧ k ≤ 9223372036854775807) (hc : n ≤ c) :
    Calls Tryz.prog 14 #[.agg #[.int .i64 p, .int .i64 k, .slice A n c]] w fun e w' => RatOkEnd (DeterminantIs p k rs) w w' e := by
  obtain ⟨W0, hW0⟩ : ∃ W, W = ((w.alloc (.cells #[.int .i64 p, .int .i64 k, .slice A n c] 25)).alloc (.cells #[.bool false, .slice none 0 0, .slice none 0 0] 34)) := ⟨_, rfl⟩
  have hm0_0 : Hid (Box W0 (w.heap.size) 25 #[.int .i64 p, .int .i64 k, .slice A n c]) := by rw [hW0]; exact ((Box.at' (by simp)).alloc _)
  have hs_0 : Hid (Box W0 (w.heap.size + 1) 34 #[.bool false, .slice none 0 0, .slice none 0 0]) := by rw [hW0]; exact (Box.at' (by simp))
  have BW_0 : Hid (Below w.heap.size w W0) := by rw [hW0]; exact (((Below.refl w.heap.size w).alloc (by simp) _).alloc (by simp) _)
  have hsz0 : w.heap.size + 1 + 1 ≤ W0.heap.size := by rw [hW0]; simp
  have HV := Lib.hid (h.below BW_0.out)
  have hsz := BW_0.out.size
  clear h
  by_cases hpk : (p != k) = true
  · have HZ : Hid (DeterminantIs p k rs false [] [] false) := det_no fun h => by simp at hpk; exact hpk h.2
    have ehm00 := hm0_0.out.cell 0
    have ehm01 := hm0_0.out.cell 1
    have ehm02 := hm0_0.out.cell 2
    have ehs0 := hs_0.out.cell 0
    have ehs1 := hs_0.out.cell 1
    have ehs2 := hs_0.out.cell 2
    have fhs0 := hs_0.out.free 0
    have fhs1 := hs_0.out.free 1
    have fhs2 := hs_0.out.free 2
    simp at ehm00 ehm01 ehm02 ehs0 ehs1 ehs2
    go_enter Tryz.func14, Tryz.ntmps14
    go_wp2_with fail
    rw [← hW0]
    refine bodyPost_ret (v := .tuple #[.agg #[.bool false, .slice none 0 0, .slice none 0 0], .bool false]) (by simp [results, Tryz.results14, ehs0, ehs1, ehs2, go_sem]) rfl ?_
    first | exact ratOkEnd_zero HZ.out BW_0.out | exact ratOkEnd_zero HZ.out (below_store3 BW_0.out (by omega) _ _ _)
  obtain rfl : p = k := by simpa using hpk
  have hpp : (p != p) = false := by simp
  clear hpk
  go_enter Tryz.func14, Tryz.ntmps14
  go_wp2_with fail
  rw [← hW0]
  clear hW0
  refine (impl_eliminate p p A n c rs _ HV.out hp hk hc).mono ?_
  rintro e w1 (⟨hno, rfl, hb⟩ | ⟨hyes, P, K, G, N, m, cp, cq, dq, L, s, q, Ap, Aq, Bq, hP, hK, rfl, hE⟩)
  · have hbx : Below w1.heap.size w1 (w1.alloc (.cells #[.int .i64 0, .int .i64 0, .slice none 0 0, .slice none 0 0, .bool false, .slice none 0 0, .slice none 0 0] 75)) := (Below.refl _ _).alloc (Nat.le_refl _) _
    have hs_2 := Lib.hid ((hs_0.out.below hb hs_0.out.lt).below hbx (hs_0.out.below hb hs_0.out.lt).lt)
    have BW_2 := Lib.hid (BW_0.out.trans ((hb.trans (hbx.mono hb.size)).mono BW_0.out.size))
    have HZ : Hid (DeterminantIs p p rs false [] [] false) := det_no fun h => hno h.1
    have ehs0 := hs_2.out.cell 0
    have ehs1 := hs_2.out.cell 1
    have ehs2 := hs_2.out.cell 2
    have fhs0 := hs_2.out.free 0
    have fhs1 := hs_2.out.free 1
    have fhs2 := hs_2.out.free 2
    simp at ehs0 ehs1 ehs2
    clear hno hb hbx
    go_wp2_with fail
    refine bodyPost_ret (v := .tuple #[.agg #[.bool false, .slice none 0 0, .slice none 0 0], .bool false]) (by simp [results, Tryz.results14, ehs0, ehs1, ehs2, go_sem]) rfl ?_
    exact ratOkEnd_zero HZ.out (below_store3 BW_2.out (by omega) _ _ _)
  · obtain rfl := hP
    obtain rfl : P = K := by omega
    obtain ⟨W2, hW2⟩ : ∃ W, W = w1.alloc (.cells #[.int .i64 P, .int .i64 P, .slice (some ⟨G, 0, none⟩) N N, .slice Ap m cp, .bool q.g, .slice Aq q.xs.length cq, .slice Bq q.ds.length dq] 75) := ⟨_, rfl⟩
    have hbx : Below w1.heap.size w1 W2 := by rw [hW2]; exact (Below.refl _ _).alloc (Nat.le_refl _) _
    have X_2 : Hid (Box W2 w1.heap.size 75 #[.int .i64 P, .int .i64 P, .slice (some ⟨G, 0, none⟩) N N, .slice Ap m cp, .bool q.g, .slice Aq q.xs.length cq, .slice Bq q.ds.length dq]) := by rw [hW2]; exact Box.new _ _ _
    have hb := hE.blw
    have hs_2 := Lib.hid ((hs_0.out.below hb hs_0.out.lt).below hbx (hs_0.out.below hb hs_0.out.lt).lt)
    have hm0_2 := Lib.hid ((hm0_0.out.below hb hm0_0.out.lt).below hbx (hm0_0.out.below hb hm0_0.out.lt).lt)
    have BW_2 := Lib.hid (BW_0.out.trans ((hb.trans (hbx.mono hb.size)).mono BW_0.out.size))
    have hp0 := hE.prd
    have HQ2 := Lib.hid (hp0.dep fun k hk => hbx.block k (hp0.lt k hk).2 : El.own W2 _ (qEl q Aq cq Bq dq))
    have HQG : Hid (q.ok ∨ q = RD.zero) := by rw [hE.prod]; exact prod_good _
    have HYES : Hid (Elim P P rs ∧ (P : Int) = P) := ⟨hyes, rfl⟩
    have HPV : Hid ((fin P P rs).pv.length = m) := by unfold Hid; rw [fin_nat', ← hE.st]; exact hE.len
    have HPR : Hid (q = prod (fin P P rs).fs) := by unfold Hid; rw [fin_nat', ← hE.st]; exact hE.prod
    have hs1 := hb.size
    have ex3 := X_2.out.cell 3
    have em0 := hm0_2.out.cell 0
    simp at ex3 em0
    rw [hW2] at ex3 em0
    have ehs0 := hs_2.out.cell 0
    have ehs1 := hs_2.out.cell 1
    have ehs2 := hs_2.out.cell 2
    have fhs0 := hs_2.out.free 0
    have fhs1 := hs_2.out.free 1
    have fhs2 := hs_2.out.free 2
    simp at ehs0 ehs1 ehs2
    have hne : w1.heap.size ≠ w.heap.size + 1 := by omega
    clear hyes hE hb hbx hp0
    by_cases hlt : m < P
    · have hlt2 : (m : Int) < (P : Int) := by omega
      have HLT : Hid (((fin P P rs).pv.length : Int) < P) := by unfold Hid; rw [HPV.out]; exact hlt2
      go_wp2_with fail
      rw [← hW2]
      clear hW2
      refine (impl_ratFromInt 0 _ (by omega)).mono ?_
      rintro e w3 ⟨g3, l3, v3, x3, y3, rfl, hq3, q1, q2, hap, hb3⟩
      obtain ⟨A3, c3, rfl⟩ := own_slice q1.2
      obtain ⟨B3, d3, rfl⟩ := own_slice q2.2
      have hs_3 := Lib.hid (hs_2.out.below hb3 hs_2.out.lt)
      have BW_3 := Lib.hid (BW_2.out.trans (hb3.mono BW_2.out.size))
      have hsz2 := BW_2.out.size
      have HD := Lib.hid (det_low ⟨HYES.out.1, rfl⟩ HLT.out hq3)
      obtain ⟨rfl, rfl, rfl⟩ := RD.mk.inj ((rint_of hq3).trans rint0)
      have HO1 := Lib.hid q1.2
      have HO2 := Lib.hid q2.2
      have HAP := Lib.hid hap
      clear ex3 em0 ehs0 ehs1 ehs2 fhs0 fhs1 fhs2
      have ehs0 := hs_3.out.cell 0
      have ehs1 := hs_3.out.cell 1
      have ehs2 := hs_3.out.cell 2
      have fhs0 := hs_3.out.free 0
      have fhs1 := hs_3.out.free 1
      have fhs2 := hs_3.out.free 2
      simp at ehs0 ehs1 ehs2
      clear hq3 q1 q2 hap hb3
      go_wp2_with fail
      refine bodyPost_ret (v := .tuple #[.agg #[.bool false, .slice A3 ([] : List Int).length c3, .slice B3 ([1] : List Int).length d3], .bool true]) (by simp [results, Tryz.results14, ehs0, ehs1, ehs2, go_sem]) rfl ?_
      exact rat_end_of hs_3.out (by omega) BW_3.out HD.out (by decide) (by decide) HO1.out hsz2 HO2.out hsz2 HAP.out
    · have hlt2 : ¬ ((m : Int) < (P : Int)) := by omega
      have HLT : Hid (¬ ((fin P P rs).pv.length : Int) < P) := by unfold Hid; rw [HPV.out]; exact hlt2
      have hgr := (RD.gr HQG.out).short
      have hq1 : q.xs.length ≤ 1048576 := by have := hgr.1; omega
      have hq2 : q.ds.length ≤ 1048576 := by have := hgr.2; omega
      have hbd : Below W2.heap.size W2 W2.drew := (Below.refl _ _).drew
      have I1 := Lib.hid ((q_in1 HQ2.out HQG.out).below hbd)
      have I2 := Lib.hid ((q_in2 HQ2.out HQG.out).below hbd)
      have R1 := Lib.hid (q_room1 HQ2.out)
      have R2 := Lib.hid (q_room2 HQ2.out)
      have X_3 := Lib.hid X_2.out.drew
      have hsW := BW_2.out.size
      clear hbd ex3 em0 ehs0 ehs1 ehs2 fhs0 fhs1 fhs2
      have ex3 := X_2.out.cell 3
      have em0 := hm0_2.out.cell 0
      simp at ex3 em0
      rw [hW2] at ex3 em0
      go_wp2_with fail
      rw [← hW2]
      clear hW2 ex3 em0
      have ey4 := X_3.out.cell 4
      have ey5 := X_3.out.cell 5
      have ey6 := X_3.out.cell 6
      simp at ey4 ey5 ey6
      go_region_with (first | (go_at_call 58; (with_reducible refine (impl_ratOk' q.g Aq q.xs.length cq q.xs Bq q.ds.length dq q.ds _ I1.out I2.out).mono ?_); rintro e w3 ⟨⟨b3, rfl, hq3⟩, hb3⟩; have X_4 := Lib.hid (X_3.out.below hb3 X_3.out.lt); have hs_3 := Lib.hid (hs_2.out.drew.below hb3 hs_2.out.drew.lt); have BW_3 := Lib.hid (BW_2.out.drew.trans (hb3.mono BW_2.out.drew.size)); have HQ3 := Lib.hid (HQ2.out.dep fun k hk => hb3.block k (HQ2.out.lt k hk).2 : El.own w3 _ (qEl q Aq cq Bq dq)); have HD := Lib.hid (det_prod ⟨HYES.out.1, rfl⟩ (Int.not_lt.2 HLT.out) HPR.out hq3); have ez4 := X_4.out.cell 4; have ez5 := X_4.out.cell 5; have ez6 := X_4.out.cell 6; simp at ez4 ez5 ez6; have ehs0 := hs_3.out.cell 0; have ehs1 := hs_3.out.cell 1; have ehs2 := hs_3.out.cell 2; simp at ehs0 ehs1 ehs2; have fhs0 := hs_3.out.free 0; have fhs1 := hs_3.out.free 1; have fhs2 := hs_3.out.free 2; clear hq3 hb3))
      all_goals
        go_wp2_with fail
        refine bodyPost_ret (v := .tuple #[.agg #[.bool q.g, .slice Aq q.xs.length cq, .slice Bq q.ds.length dq], .bool b3]) (by simp [results, Tryz.results14, ehs0, ehs1, ehs2, go_sem]) rfl ?_
        exact rat_end_of hs_3.out (by omega) BW_3.out HD.out hq1 hq2 HQ3.out.1 hsz HQ3.out.2.1 hsz HQ3.out.2.2
theorem impl_determinant (p k : Int) (A : Option Addr) (n c : Nat) (rs : List RD) (w : World) (h : InV w A n rs) (hp : -9223372036854775808 ≤ p ∧ p ≤ 9223372036854775807) (hk : -9223372036854775808 ≤ k ∧ k ≤ 9223372036854775807) (hc : n ≤ c) :
    Calls Tryz.prog 14 #[.agg #[.int .i64 p, .int .i64 k, .slice A n c]] w fun e w' => ∃ g r v d u b, e = .returned (.tuple #[.agg #[.bool g, v, u], .bool b]) ∧ DeterminantIs p k rs g r d b ∧ ResI w w' v r ∧ ResI w w' u d ∧ Apart u v ∧ Below w.heap.size w w' := (impl_determinant0 p k A n c rs w h hp hk hc).mono fun _ _ h => h
end Go.Proofs.YtibheldbjjdinaaGreat
