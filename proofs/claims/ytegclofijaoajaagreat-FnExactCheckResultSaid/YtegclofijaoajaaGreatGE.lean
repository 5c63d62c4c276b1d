/- Contracts of fractions: RatMake, by the program. -/
import Derived.Test.YtegclofijaoajaaGreatGD
namespace Go.Proofs.YtegclofijaoajaaGreat
set_option maxRecDepth 100000
open Go.RowKit

theorem sign_same {g1 g2 : Bool} {n1 n2 : Nat} (h1 : n1 ≠ 0) (h2 : n2 ≠ 0) : decide (sg g1 n1 * sg g2 n2 = -1) = (g1 != g2) := by
  cases g1 <;> cases g2 <;> simp [sg, h1, h2]
theorem sgn_mul {g1 g2 q3 : Bool} {xs q : List Int} {n1 n2 : Nat} {s1 s2 p G : Int} (hx : xs.length = n1) (hn2 : n2 ≠ 0) (e1 : sg g1 n1 = s1) (e2 : sg g2 n2 = s2) (hp : s1 * s2 = p) (hq : decide (p = -1) = q3) (hG : val xs = val q * G) (h0 : 0 < G) (cq : Canon q) : sgn (g1 != g2) q = sgn q3 q := by
  by_cases e : q = []
  · simp [sgn, e]
  · have hxs : n1 ≠ 0 := by
      intro hz
      rw [List.eq_nil_of_length_eq_zero (hx.trans hz)] at hG
      have h3 := canon_pos cq (List.length_pos_iff.2 e)
      have h4 := Int.mul_pos h3 h0
      have h5 : val ([] : List Int) = 0 := rfl
      omega
    rw [← hq, ← hp, ← e1, ← e2, sign_same hxs hn2]
set_option maxHeartbeats 3200000 in
theorem impl_ratMake0 (g1 : Bool) (A1 : Option Addr) (n1 c1 : Nat) (xs : List Int) (g2 : Bool) (A2 : Option Addr) (n2 c2 : Nat) (ys : List Int) (w : World) (h1 : InI w A1 n1 xs) (h2 : InI w A2 n2 ys) :
    Calls Tryz.prog 204 #[.agg #[.bool g1, .slice A1 n1 c1], .agg #[.bool g2, .slice A2 n2 c2]] w fun e w' => RatEnd (RatMakeIs g1 xs g2 ys) w w' e := by
  have hn1 := h1.2.1
  have hn2 := h2.2.1
  obtain ⟨W0, hW0⟩ : ∃ W, W = (((w.alloc (.cells #[.bool g1, .slice A1 n1 c1] 32)).alloc (.cells #[.bool g2, .slice A2 n2 c2] 32)).alloc (.cells #[.bool false, .slice none 0 0, .slice none 0 0] 34)) := ⟨_, rfl⟩
  have hx0_0 : Hid (Box W0 (w.heap.size) 32 #[.bool g1, .slice A1 n1 c1]) := by rw [hW0]; exact (((Box.at' (by simp)).alloc _).alloc _)
  have hx1_0 : Hid (Box W0 (w.heap.size + 1) 32 #[.bool g2, .slice A2 n2 c2]) := by rw [hW0]; exact ((Box.at' (by simp)).alloc _)
  have hs_0 : Hid (Box W0 (w.heap.size + 1 + 1) 34 #[.bool false, .slice none 0 0, .slice none 0 0]) := by rw [hW0]; exact (Box.at' (by simp))
  have BW_0 : Hid (Below w.heap.size w W0) := by rw [hW0]; exact ((((Below.refl w.heap.size w).alloc (by simp) _).alloc (by simp) _).alloc (by simp; omega) _)
  have hsz0 : w.heap.size + 1 + 1 + 1 ≤ W0.heap.size := by rw [hW0]; simp
  have HI1 := Lib.hid (h1.below BW_0.out)
  have HI2 := Lib.hid (h2.below BW_0.out)
  clear h1 h2
  go_enter Tryz.func204, Tryz.ntmps204
  go_wp2_with fail
  rw [← hW0]
  clear hW0
  refine (impl_bigOk' g1 A1 n1 c1 xs _ HI1.out).mono ?_
  rintro e wa ⟨⟨b, rfl, hi⟩, hb⟩
  have hx0_1 := Lib.hid (hx0_0.out.below hb hx0_0.out.lt)
  have hx1_1 := Lib.hid (hx1_0.out.below hb hx1_0.out.lt)
  have hs_1 := Lib.hid (hs_0.out.below hb hs_0.out.lt)
  have BW_1 := Lib.hid (BW_0.out.trans (hb.mono BW_0.out.size))
  replace HI1 := Lib.hid (HI1.out.below hb)
  replace HI2 := Lib.hid (HI2.out.below hb)
  clear hb
  have ehx00 := hx0_1.out.cell 0
  have ehx01 := hx0_1.out.cell 1
  have ehx10 := hx1_1.out.cell 0
  have ehx11 := hx1_1.out.cell 1
  have ehs0 := hs_1.out.cell 0
  have ehs1 := hs_1.out.cell 1
  have ehs2 := hs_1.out.cell 2
  have fhs0 := hs_1.out.free 0
  have fhs1 := hs_1.out.free 1
  have fhs2 := hs_1.out.free 2
  simp at ehx00 ehx01 ehx10 ehx11 ehs0 ehs1 ehs2
  cases b
  · have hno : ¬ (BOk g1 xs ∧ BOk g2 ys) := fun h => by have := hi.2 h.1; cases this
    clear hi
    have HZ : Hid (RatMakeIs g1 xs g2 ys false [] []) := rIs_no hno
    go_wp2_with fail
    refine bodyPost_ret (v := .agg #[.bool false, .slice none 0 0, .slice none 0 0]) (by simp [results, Tryz.results204, ehs0, ehs1, ehs2, go_sem]) rfl ?_
    exact ratEnd_zero HZ.out (below_store3 BW_1.out (by omega) _ _ _)
  have K1 := Lib.hid (hi.1 rfl)
  clear hi
  go_wp2_with fail
  refine (impl_bigOk' g2 A2 n2 c2 ys _ HI2.out).mono ?_
  rintro e wb ⟨⟨b, rfl, hi⟩, hb⟩
  have hx0_2 := Lib.hid (hx0_1.out.below hb hx0_1.out.lt)
  have hx1_2 := Lib.hid (hx1_1.out.below hb hx1_1.out.lt)
  have hs_2 := Lib.hid (hs_1.out.below hb hs_1.out.lt)
  have BW_2 := Lib.hid (BW_1.out.trans (hb.mono BW_1.out.size))
  replace HI1 := Lib.hid (HI1.out.below hb)
  replace HI2 := Lib.hid (HI2.out.below hb)
  clear hb
  clear ehx00 ehx01 ehx10 ehx11 ehs0 fhs0 ehs1 fhs1 ehs2 fhs2
  have ehx00 := hx0_2.out.cell 0
  have ehx01 := hx0_2.out.cell 1
  have ehx10 := hx1_2.out.cell 0
  have ehx11 := hx1_2.out.cell 1
  have ehs0 := hs_2.out.cell 0
  have ehs1 := hs_2.out.cell 1
  have ehs2 := hs_2.out.cell 2
  have fhs0 := hs_2.out.free 0
  have fhs1 := hs_2.out.free 1
  have fhs2 := hs_2.out.free 2
  simp at ehx00 ehx01 ehx10 ehx11 ehs0 ehs1 ehs2
  cases b
  · have hno : ¬ (BOk g1 xs ∧ BOk g2 ys) := fun h => by have := hi.2 h.2; cases this
    clear hi
    have HZ : Hid (RatMakeIs g1 xs g2 ys false [] []) := rIs_no hno
    go_wp2_with fail
    refine bodyPost_ret (v := .agg #[.bool false, .slice none 0 0, .slice none 0 0]) (by simp [results, Tryz.results204, ehs0, ehs1, ehs2, go_sem]) rfl ?_
    exact ratEnd_zero HZ.out (below_store3 BW_2.out (by omega) _ _ _)
  have K2 := Lib.hid (hi.1 rfl)
  clear hi
  by_cases hz : n2 = 0
  · have HZ0 : Hid (bval g2 ys = 0) := by unfold Hid; rw [List.eq_nil_of_length_eq_zero (HI2.out.1.trans hz)]; cases g2 <;> rfl
    have ht : ((n2 : Int) == 0) = true := by simp [hz]
    clear hz
    have HZ : Hid (RatMakeIs g1 xs g2 ys false [] []) := rIs_zero HZ0.out
    go_wp2_with fail
    refine bodyPost_ret (v := .agg #[.bool false, .slice none 0 0, .slice none 0 0]) (by simp [results, Tryz.results204, ehs0, ehs1, ehs2, go_sem]) rfl ?_
    exact ratEnd_zero HZ.out (below_store3 BW_2.out (by omega) _ _ _)
  have ht : ((n2 : Int) == 0) = false := by simp [hz]
  have HZ := Lib.hid hz
  have HP := Lib.hid (canon_pos K2.out.1.1 (by rw [HI2.out.1]; omega))
  have hm1 : n1 ≤ 60 := by have := K1.out.1.2; rwa [HI1.out.1] at this
  have hm2 : n2 ≤ 60 := by have := K2.out.1.2; rwa [HI2.out.1] at this
  clear hz
  go_wp2_with fail
  refine (impl_natGcd A1 n1 c1 xs A2 n2 c2 ys _ HI1.out HI2.out).mono ?_
  rintro e wc ⟨gs, v, rfl, hg, ⟨hl, ho⟩, hb⟩
  have hx0_3 := Lib.hid (hx0_2.out.below hb hx0_2.out.lt)
  have hx1_3 := Lib.hid (hx1_2.out.below hb hx1_2.out.lt)
  have hs_3 := Lib.hid (hs_2.out.below hb hs_2.out.lt)
  have BW_3 := Lib.hid (BW_2.out.trans (hb.mono BW_2.out.size))
  replace HI1 := Lib.hid (HI1.out.below hb)
  replace HI2 := Lib.hid (HI2.out.below hb)
  clear hb
  have hg2 : GcdIs (val xs) (val ys) gs := by
    rcases hg with ⟨_, _, hg⟩ | ⟨hg, _⟩
    · exact hg
    · exact absurd ⟨K1.out.1, K2.out.1⟩ hg
  have HG := Lib.hid hg2
  obtain ⟨Ag, cg, rfl⟩ := own_slice ho
  obtain ⟨ng, hng⟩ : ∃ N, N = gs.length := ⟨_, rfl⟩
  rw [← hng] at hl ho ⊢
  have HNG := Lib.hid hng
  have HOG := Lib.hid ho
  clear ho hng
  clear hg hg2
  have HGP := Lib.hid (gcd_pos_list HP.out HG.out)
  have hg60 : ng ≤ 60 := by rw [HNG.out]; exact gcd_len HP.out HG.out K2.out.1
  clear ehx00 ehx01 ehx10 ehx11 ehs0 fhs0 ehs1 fhs1 ehs2 fhs2
  have ehx00 := hx0_3.out.cell 0
  have ehx01 := hx0_3.out.cell 1
  have ehx10 := hx1_3.out.cell 0
  have ehx11 := hx1_3.out.cell 1
  simp at ehx00 ehx01 ehx10 ehx11
  go_wp2_with fail
  refine (impl_divide A1 n1 c1 xs Ag ng cg gs _ ⟨HI1.out.1, by omega, HI1.out.2.2.1⟩ ⟨HNG.out.symm, by omega, Reads.of_own HOG.out⟩ K1.out.1.1 HG.out.1 HGP.out).mono ?_
  rintro e wd ⟨q, vq, r1, u1, rfl, hd, hlq, hlr, ho, hor, hap, hb⟩
  have hx0_4 := Lib.hid (hx0_3.out.below hb hx0_3.out.lt)
  have hx1_4 := Lib.hid (hx1_3.out.below hb hx1_3.out.lt)
  have hs_4 := Lib.hid (hs_3.out.below hb hs_3.out.lt)
  have BW_4 := Lib.hid (BW_3.out.trans (hb.mono BW_3.out.size))
  replace HI1 := Lib.hid (HI1.out.below hb)
  replace HI2 := Lib.hid (HI2.out.below hb)
  replace HOG := Lib.hid (own_below HOG.out hb)
  clear hb
  obtain ⟨Aq, cq, rfl⟩ := own_slice ho
  obtain ⟨nq, hnq⟩ : ∃ N, N = q.length := ⟨_, rfl⟩
  rw [← hnq] at hlq ho ⊢
  have HNQ := Lib.hid hnq
  have HOQ := Lib.hid ho
  clear ho hnq
  have HD := Lib.hid hd
  clear hd hor hap hlr
  clear ehx00 ehx01 ehx10 ehx11
  have ehx00 := hx0_4.out.cell 0
  have ehx01 := hx0_4.out.cell 1
  have ehx10 := hx1_4.out.cell 0
  have ehx11 := hx1_4.out.cell 1
  simp at ehx00 ehx01 ehx10 ehx11
  go_wp2_with fail
  refine (impl_divide A2 n2 c2 ys Ag ng cg gs _ ⟨HI2.out.1, by omega, HI2.out.2.2.1⟩ ⟨HNG.out.symm, by omega, Reads.of_own HOG.out⟩ K2.out.1.1 HG.out.1 HGP.out).mono ?_
  rintro e we ⟨p, vp, r2, u2, rfl, hd, hlp, hlr, ho, hor, hap, hb⟩
  have HAPQ0 := Lib.hid (apart_older' HOQ.out ho)
  have hx0_5 := Lib.hid (hx0_4.out.below hb hx0_4.out.lt)
  have hx1_5 := Lib.hid (hx1_4.out.below hb hx1_4.out.lt)
  have hs_5 := Lib.hid (hs_4.out.below hb hs_4.out.lt)
  have BW_5 := Lib.hid (BW_4.out.trans (hb.mono BW_4.out.size))
  replace HI1 := Lib.hid (HI1.out.below hb)
  replace HI2 := Lib.hid (HI2.out.below hb)
  replace HOQ := Lib.hid (own_below HOQ.out hb)
  clear hb
  obtain ⟨Ap, cp, rfl⟩ := own_slice ho
  obtain ⟨np, hnp⟩ : ∃ N, N = p.length := ⟨_, rfl⟩
  rw [← hnp] at hlp ho HAPQ0 ⊢
  have HAPQ := HAPQ0
  have HNP := Lib.hid hnp
  have HOP := Lib.hid ho
  have HL : Hid (RLow (bval g1 xs) (bval g2 ys) (sgn (g1 != g2) q) q p) := low_div K1.out K2.out HP.out HG.out HD.out hd (by rw [← HNQ.out]; omega) (by rw [← hnp]; omega)
  clear hd ho hor hap hlr hnp HAPQ0
  clear ehx00 ehx01 ehx10 ehx11
  by_cases hsh : Short q p
  · have hn24 : (nq : Int) ≤ 24 := by have := hsh.1; rw [← HNQ.out] at this; omega
    have hm24 : (np : Int) ≤ 24 := by have := hsh.2; rw [← HNP.out] at this; omega
    have sk1 := sok_sg K1.out HI1.out.1
    have hbd1 := sg_bd g1 n1
    obtain ⟨s1, hs1⟩ : ∃ s, sg g1 n1 = s := ⟨_, rfl⟩
    rw [hs1] at sk1 hbd1
    have SK1 := Lib.hid sk1.1
    have E1 := Lib.hid sk1.2
    have Hs1 := Lib.hid hs1
    clear sk1 hs1
    have sk2 := sok_sg K2.out HI2.out.1
    have hbd2 := sg_bd g2 n2
    obtain ⟨s2, hs2⟩ : ∃ s, sg g2 n2 = s := ⟨_, rfl⟩
    rw [hs2] at sk2 hbd2
    have SK2 := Lib.hid sk2.1
    have E2 := Lib.hid sk2.2
    have Hs2 := Lib.hid hs2
    clear sk2 hs2
    obtain ⟨p3, hp3⟩ : ∃ p, s1 * s2 = p := ⟨_, rfl⟩
    obtain ⟨q3, hq3⟩ : ∃ q, decide (p3 = -1) = q := ⟨_, rfl⟩
    have HQ3 := Lib.hid hq3
    have HQF : Hid (RatMakeIs g1 xs g2 ys (sgn q3 q) q p) := by
      have := rIs_yes (P := BOk g1 xs ∧ BOk g2 ys) ⟨K1.out, K2.out⟩ HL.out hsh
      unfold Hid
      rwa [sgn_mul HI1.out.1 HZ.out Hs1.out Hs2.out hp3 hq3 (div_exact HD.out (by rw [HG.out.2]; exact Int.gcd_dvd_left _ _)) HGP.out HD.out.1] at this
    have hwr : IntKind.i64.wrap (s1 * s2) = p3 := by
      rw [hp3]
      refine IntWalk.i64_in _ ?_
      rw [← hp3]
      rcases SK1.out.2 with ⟨e, _⟩ | ⟨e, _⟩ | ⟨e, _⟩ <;> rw [e] <;> omega
    have hsz5 := BW_5.out.size
    have hszd : w.heap.size ≤ wd.heap.size := BW_4.out.size
    have hszc : w.heap.size ≤ wc.heap.size := BW_3.out.size
    have HN := Lib.hid HNQ.out.symm
    have HM := Lib.hid HNP.out.symm
    clear hsh hp3 hq3
    go_wp2_with fail
    have hx0_6 := Lib.hid hx0_5.out.drew
    have hx1_6 := Lib.hid hx1_5.out.drew
    have hs_6 := Lib.hid hs_5.out.drew
    have BW_6 := Lib.hid BW_5.out.drew
    replace HI1 := Lib.hid HI1.out.drew
    replace HI2 := Lib.hid HI2.out.drew
    replace HOQ := Lib.hid (own_drew HOQ.out)
    replace HOP := Lib.hid (own_drew HOP.out)
    have cvhx00 : Hid ((#[.bool g1, .slice A1 n1 c1] : Array Value)[0]? = some (.bool g1)) := rfl
    have cvhx01 : Hid ((#[.bool g1, .slice A1 n1 c1] : Array Value)[1]? = some (.slice A1 n1 c1)) := rfl
    have cvhx10 : Hid ((#[.bool g2, .slice A2 n2 c2] : Array Value)[0]? = some (.bool g2)) := rfl
    have cvhx11 : Hid ((#[.bool g2, .slice A2 n2 c2] : Array Value)[1]? = some (.slice A2 n2 c2)) := rfl
    go_region_held3 (fun w' => w'.cell? ⟨w.heap.size, 0, none⟩ = some (.bool g1) ∧ w'.cell? ⟨w.heap.size, 1, none⟩ = some (.slice A1 n1 c1) ∧ w'.cell? ⟨w.heap.size + 1, 0, none⟩ = some (.bool g2) ∧ w'.cell? ⟨w.heap.size + 1, 1, none⟩ = some (.slice A2 n2 c2)) (first | with_reducible exact ⟨cellS hx0_9 cvhx00, cellS hx0_9 cvhx01, cellS hx1_9 cvhx10, cellS hx1_9 cvhx11⟩ | with_reducible exact ⟨cellS (hFar (hFar (hFar hx0_9 (by dsimp only; omega) _) (by dsimp only; omega) _) (by dsimp only; omega) _) cvhx00, cellS (hFar (hFar (hFar hx0_9 (by dsimp only; omega) _) (by dsimp only; omega) _) (by dsimp only; omega) _) cvhx01, cellS (hFar (hFar (hFar hx1_9 (by dsimp only; omega) _) (by dsimp only; omega) _) (by dsimp only; omega) _) cvhx10, cellS (hFar (hFar (hFar hx1_9 (by dsimp only; omega) _) (by dsimp only; omega) _) (by dsimp only; omega) _) cvhx11⟩ | with_reducible exact ⟨cellS hx0_8 cvhx00, cellS hx0_8 cvhx01, cellS hx1_8 cvhx10, cellS hx1_8 cvhx11⟩ | with_reducible exact ⟨cellS hx0_7 cvhx00, cellS hx0_7 cvhx01, cellS hx1_7 cvhx10, cellS hx1_7 cvhx11⟩ | with_reducible exact ⟨cellS hx0_6 cvhx00, cellS hx0_6 cvhx01, cellS hx1_6 cvhx10, cellS hx1_6 cvhx11⟩) (first | (go_at_call 238; refine (impl_withSign p3 q3 HQ3.out _ Aq nq cq q _ HNQ.out.symm (by omega) HOQ.out).mono ?_; rintro e wz ⟨v, rfl, hv, ho, hb⟩; obtain ⟨A9, c9, rfl⟩ : ∃ A c, v = .slice A nq c := own_slice ho; have HAP : Hid (Apart (.slice Ap np cp) (.slice A9 nq c9)) := apart_with HAPQ.out hv; have HU := Lib.hid (own_below HOP.out hb); have HO := Lib.hid ho; have hx0_9 := Lib.hid (hx0_8.out.below hb hx0_8.out.lt); have hx1_9 := Lib.hid (hx1_8.out.below hb hx1_8.out.lt); have hs_9 := Lib.hid (hs_8.out.below hb hs_8.out.lt); have BW_9 := Lib.hid (BW_8.out.trans (hb.mono BW_8.out.size)); obtain ⟨s, hs0⟩ : ∃ s, s = sgn q3 q := ⟨_, rfl⟩; have HQ := HQF; rw [← hs0] at HQ ⊢; clear hs0 hv ho hb; have ehs0 := hs_9.out.cell 0; have ehs1 := hs_9.out.cell 1; have ehs2 := hs_9.out.cell 2; have fhs0 := hs_9.out.free 0; have fhs1 := hs_9.out.free 1; have fhs2 := hs_9.out.free 2; simp at ehs0 ehs1 ehs2) | (go_at_call 71; (with_reducible refine (impl_signOf g1 A1 n1 c1 s1 _ Hs1.out (by omega)).mono ?_); rintro e w7 ⟨rfl, hb⟩; have hx0_7 := Lib.hid (hx0_6.out.below hb hx0_6.out.lt); have hx1_7 := Lib.hid (hx1_6.out.below hb hx1_6.out.lt); have hs_7 := Lib.hid (hs_6.out.below hb hs_6.out.lt); have BW_7 := Lib.hid (BW_6.out.trans (hb.mono BW_6.out.size)); replace HI1 := Lib.hid (HI1.out.below hb); replace HI2 := Lib.hid (HI2.out.below hb); replace HOQ := Lib.hid (own_below HOQ.out hb); replace HOP := Lib.hid (own_below HOP.out hb); clear hb) | (go_at_call 71; (with_reducible refine (impl_signOf g2 A2 n2 c2 s2 _ Hs2.out (by omega)).mono ?_); rintro e w8 ⟨rfl, hb⟩; have hx0_8 := Lib.hid (hx0_7.out.below hb hx0_7.out.lt); have hx1_8 := Lib.hid (hx1_7.out.below hb hx1_7.out.lt); have hs_8 := Lib.hid (hs_7.out.below hb hs_7.out.lt); have BW_8 := Lib.hid (BW_7.out.trans (hb.mono BW_7.out.size)); replace HI1 := Lib.hid (HI1.out.below hb); replace HI2 := Lib.hid (HI2.out.below hb); replace HOQ := Lib.hid (own_below HOQ.out hb); replace HOP := Lib.hid (own_below HOP.out hb); clear hb))
    go_wp2_with fail
    refine bodyPost_ret (v := .agg #[.bool s, .slice A9 nq c9, .slice Ap np cp]) (by simp [results, Tryz.results204, ehs0, ehs1, ehs2, go_sem]) rfl ?_
    exact ratEnd_store hs_9.out (by omega) BW_9.out HQ.out HN.out HM.out (by omega) (by omega) HO.out (by omega) HU.out (by omega) HAP.out
  · have hnm : 24 < (nq : Int) ∨ (¬ 24 < (nq : Int) ∧ 24 < (np : Int)) := by
      by_cases h : nq ≤ 24
      · right; refine ⟨by omega, ?_⟩
        by_cases h2 : np ≤ 24
        · exact absurd ⟨by rw [← HNQ.out]; exact h, by rw [← HNP.out]; exact h2⟩ hsh
        · omega
      · left; omega
    have HZ0 := Lib.hid (rIs_long (P := BOk g1 xs ∧ BOk g2 ys) HL.out hsh)
    clear hsh
    have ehs0 := hs_5.out.cell 0
    have ehs1 := hs_5.out.cell 1
    have ehs2 := hs_5.out.cell 2
    have fhs0 := hs_5.out.free 0
    have fhs1 := hs_5.out.free 1
    have fhs2 := hs_5.out.free 2
    simp at ehs0 ehs1 ehs2
    rcases hnm with hnm | ⟨hnm0, hnm⟩
    · skip
      have HZ : Hid (RatMakeIs g1 xs g2 ys false [] []) := HZ0.out
      go_wp2_with fail
      refine bodyPost_ret (v := .agg #[.bool false, .slice none 0 0, .slice none 0 0]) (by simp [results, Tryz.results204, ehs0, ehs1, ehs2, go_sem]) rfl ?_
      exact ratEnd_zero HZ.out (below_store3 BW_5.out (by omega) _ _ _)
    · skip
      have HZ : Hid (RatMakeIs g1 xs g2 ys false [] []) := HZ0.out
      go_wp2_with fail
      refine bodyPost_ret (v := .agg #[.bool false, .slice none 0 0, .slice none 0 0]) (by simp [results, Tryz.results204, ehs0, ehs1, ehs2, go_sem]) rfl ?_
      exact ratEnd_zero HZ.out (below_store3 BW_5.out (by omega) _ _ _)
end Go.Proofs.YtegclofijaoajaaGreat
namespace Go.Proofs.YtegclofijaoajaaGreat
set_option maxRecDepth 100000
open Go.RowKit

set_option maxHeartbeats 1600000 in
theorem impl_crossed (g1 : Bool) (A1 : Option Addr) (n1 c1 : Nat) (xs : List Int) (B1 : Option Addr) (m1 d1 : Nat) (_es : List Int) (g2 : Bool) (A2 : Option Addr) (n2 c2 : Nat) (_ys : List Int) (B2 : Option Addr) (m2 d2 : Nat) (fs : List Int) (w : World)
    (h1 : InI w A1 n1 xs) (r1 : Room A1 n1 c1) (k2 : InI w B2 m2 fs) (s2 : Room B2 m2 d2) :
    Calls Tryz.prog 225 #[.agg #[.bool g1, .slice A1 n1 c1, .slice B1 m1 d1], .agg #[.bool g2, .slice A2 n2 c2, .slice B2 m2 d2]] w fun e w' => BigEnd (BigIntMulIs g1 xs false fs) w w' e := by
  obtain ⟨W0, hW0⟩ : ∃ W, W = (((w.alloc (.cells #[.bool g1, .slice A1 n1 c1, .slice B1 m1 d1] 34)).alloc (.cells #[.bool g2, .slice A2 n2 c2, .slice B2 m2 d2] 34)).alloc (.cells #[.bool false, .slice none 0 0] 32)) := ⟨_, rfl⟩
  have hy0_0 : Hid (Box W0 (w.heap.size) 34 #[.bool g1, .slice A1 n1 c1, .slice B1 m1 d1]) := by rw [hW0]; exact (((Box.at' (by simp)).alloc _).alloc _)
  have hy1_0 : Hid (Box W0 (w.heap.size + 1) 34 #[.bool g2, .slice A2 n2 c2, .slice B2 m2 d2]) := by rw [hW0]; exact ((Box.at' (by simp)).alloc _)
  have hr_0 : Hid (Box W0 (w.heap.size + 1 + 1) 32 #[.bool false, .slice none 0 0]) := by rw [hW0]; exact (Box.at' (by simp))
  have BW_0 : Hid (Below w.heap.size w W0) := by rw [hW0]; exact ((((Below.refl w.heap.size w).alloc (by simp) _).alloc (by simp) _).alloc (by simp; omega) _)
  have hsz0 : w.heap.size + 1 + 1 + 1 ≤ W0.heap.size := by rw [hW0]; simp
  have HI1 := Lib.hid (h1.below BW_0.out)
  have HJ2 := Lib.hid (k2.below BW_0.out)
  have R1 := Lib.hid r1
  have S2 := Lib.hid s2
  clear h1 r1 k2 s2
  go_enter Tryz.func225, Tryz.ntmps225
  go_wp2_with fail
  rw [← hW0]
  clear hW0
  refine (impl_bigIntMul' g1 A1 n1 c1 xs false B2 m2 d2 fs _ HI1.out HJ2.out R1.out S2.out).mono ?_
  rintro e w2 ⟨s0, r, v, rfl, hq, ⟨hl, ho⟩, hb⟩
  have HQ0 := Lib.hid hq
  clear hq
  obtain ⟨N, hN⟩ : ∃ N, N = r.length := ⟨_, rfl⟩
  rw [← hN] at hl ho
  obtain ⟨A1, c1, rfl⟩ := own_slice ho
  obtain ⟨e0, e1, f0, f1, hfn⟩ := tail_facts (g := w.heap.size + 1 + 1) (hr_0.out) hb (BW_0.out) (by omega) ho
  simp at e0 e1
  have HQ := Lib.hid (HQ0.out)
  obtain ⟨s, hs⟩ : ∃ s, s = s0 := ⟨_, rfl⟩
  rw [← hs] at HQ ⊢
  have HO := Lib.hid (hfn (.bool s) (.slice A1 N c1))
  have HN := Lib.hid hN
  have HL := Lib.hid hl
  clear hs ho hb hN hfn hl
  go_wp2_with fail
  refine bodyPost_ret (v := .agg #[.bool s, .slice A1 N c1]) (by simp [results, Tryz.results225, e0, e1, go_sem]) rfl ?_
  exact ⟨s, r, _, rfl, HQ.out, ⟨by rw [← HN.out]; exact HL.out, by rw [← HN.out]; exact HO.out.1⟩, HO.out.2⟩
def DenEnd (es fs : List Int) (w w' : World) (e : Ending) : Prop := ∃ r v, e = .returned (.agg #[.bool false, v]) ∧ NatMulIs es fs r ∧ ResI w w' v r ∧ Below w.heap.size w w'
set_option maxHeartbeats 1600000 in
theorem impl_denProduct (g1 : Bool) (A1 : Option Addr) (n1 c1 : Nat) (_xs : List Int) (B1 : Option Addr) (m1 d1 : Nat) (es : List Int) (g2 : Bool) (A2 : Option Addr) (n2 c2 : Nat) (_ys : List Int) (B2 : Option Addr) (m2 d2 : Nat) (fs : List Int) (w : World)
    (k1 : InI w B1 m1 es) (k2 : InI w B2 m2 fs) :
    Calls Tryz.prog 206 #[.agg #[.bool g1, .slice A1 n1 c1, .slice B1 m1 d1], .agg #[.bool g2, .slice A2 n2 c2, .slice B2 m2 d2]] w fun e w' => DenEnd es fs w w' e := by
  obtain ⟨W0, hW0⟩ : ∃ W, W = (((w.alloc (.cells #[.bool g1, .slice A1 n1 c1, .slice B1 m1 d1] 34)).alloc (.cells #[.bool g2, .slice A2 n2 c2, .slice B2 m2 d2] 34)).alloc (.cells #[.bool false, .slice none 0 0] 32)) := ⟨_, rfl⟩
  have hy0_0 : Hid (Box W0 (w.heap.size) 34 #[.bool g1, .slice A1 n1 c1, .slice B1 m1 d1]) := by rw [hW0]; exact (((Box.at' (by simp)).alloc _).alloc _)
  have hy1_0 : Hid (Box W0 (w.heap.size + 1) 34 #[.bool g2, .slice A2 n2 c2, .slice B2 m2 d2]) := by rw [hW0]; exact ((Box.at' (by simp)).alloc _)
  have hr_0 : Hid (Box W0 (w.heap.size + 1 + 1) 32 #[.bool false, .slice none 0 0]) := by rw [hW0]; exact (Box.at' (by simp))
  have BW_0 : Hid (Below w.heap.size w W0) := by rw [hW0]; exact ((((Below.refl w.heap.size w).alloc (by simp) _).alloc (by simp) _).alloc (by simp; omega) _)
  have hsz0 : w.heap.size + 1 + 1 + 1 ≤ W0.heap.size := by rw [hW0]; simp
  have HJ1 := Lib.hid (k1.below BW_0.out)
  have HJ2 := Lib.hid (k2.below BW_0.out)
  clear k1 k2
  go_enter Tryz.func206, Tryz.ntmps206
  go_wp2_with fail
  rw [← hW0]
  clear hW0
  refine (impl_natMul B1 m1 d1 es B2 m2 d2 fs _ HJ1.out HJ2.out).mono ?_
  rintro e w2 ⟨r, v, rfl, hq, ⟨hl, ho⟩, hb⟩
  obtain ⟨A9, c9, rfl⟩ := own_slice ho
  have hr_1 := Lib.hid (hr_0.out.below hb hr_0.out.lt)
  have BW_1 := Lib.hid (BW_0.out.trans (hb.mono BW_0.out.size))
  obtain ⟨N, hN⟩ : ∃ N, N = r.length := ⟨_, rfl⟩
  rw [← hN] at hl ho ⊢
  have HO := Lib.hid ho
  have HN := Lib.hid hN
  have HQ := Lib.hid hq
  have HL := Lib.hid hl
  clear hq ho hb hN hl
  have ehr0 := hr_1.out.cell 0
  have ehr1 := hr_1.out.cell 1
  have fhr0 := hr_1.out.free 0
  have fhr1 := hr_1.out.free 1
  simp at ehr0 ehr1
  go_wp2_with fail
  refine bodyPost_ret (v := .agg #[.bool false, .slice A9 N c9]) (by simp [results, Tryz.results206, ehr0, ehr1, go_sem]) rfl ?_
  exact ⟨r, _, rfl, HQ.out, ⟨by rw [← HN.out]; exact HL.out, by rw [← HN.out]; exact own_base (own_store2 HO.out hr_1.out (by decide) _ _) (by omega)⟩, (BW_1.out.setCell (by dsimp only; omega) _).setCell (by dsimp only; omega) _⟩
theorem add_fin {g1 g2 : Bool} {xs es ys fs : List Int} {gc : Bool} {lc le : List Int} {g : Bool} {l d : List Int} (k1 : ROk g1 xs es) (k2 : ROk g2 ys fs) (hc : BOk gc lc ∧ bval gc lc = bval g1 xs * val fs + bval g2 ys * val es) (hd : Ok le ∧ val le = val es * val fs ∧ 0 < val le) (h : RatMakeIs gc lc false le g l d) : RatAddIs g1 xs es g2 ys fs g l d := by
  unfold RatMakeIs at h
  rw [hc.2, show bval false le = val le from rfl, hd.2.1] at h
  exact rIs_prop h ⟨hc.1, hd.1, fun e => by cases e⟩ ⟨k1, k2⟩
theorem mul_fin {g1 g2 : Bool} {xs es ys fs : List Int} {gc : Bool} {lc le : List Int} {g : Bool} {l d : List Int} (k1 : ROk g1 xs es) (k2 : ROk g2 ys fs) (hc : CrossIs (bval g1 xs * bval g2 ys) gc lc) (hd : Ok le ∧ val le = val es * val fs ∧ 0 < val le) (h : RatMakeIs gc lc false le g l d) : RatMulIs g1 xs es g2 ys fs g l d := by
  unfold RatMakeIs at h
  rw [hc.2.1, show bval false le = val le from rfl, hd.2.1] at h
  exact rIs_prop h ⟨hc.1, hd.1, fun e => by cases e⟩ ⟨k1, k2⟩
set_option maxHeartbeats 3200000 in
theorem impl_ratAdd0 (g1 : Bool) (A1 : Option Addr) (n1 c1 : Nat) (xs : List Int) (B1 : Option Addr) (m1 d1 : Nat) (es : List Int) (g2 : Bool) (A2 : Option Addr) (n2 c2 : Nat) (ys : List Int) (B2 : Option Addr) (m2 d2 : Nat) (fs : List Int) (w : World) (h1 : InI w A1 n1 xs) (r1 : Room A1 n1 c1) (k1 : InI w B1 m1 es) (s1 : Room B1 m1 d1) (h2 : InI w A2 n2 ys) (r2 : Room A2 n2 c2) (k2 : InI w B2 m2 fs) (s2 : Room B2 m2 d2) :
    Calls Tryz.prog 169 #[.agg #[.bool g1, .slice A1 n1 c1, .slice B1 m1 d1], .agg #[.bool g2, .slice A2 n2 c2, .slice B2 m2 d2]] w fun e w' => RatEnd (RatAddIs g1 xs es g2 ys fs) w w' e := by
  have hn1 := h1.2.1
  have hn2 := h2.2.1
  have hm1 := k1.2.1
  have hm2 := k2.2.1
  obtain ⟨W0, hW0⟩ : ∃ W, W = (((w.alloc (.cells #[.bool g1, .slice A1 n1 c1, .slice B1 m1 d1] 34)).alloc (.cells #[.bool g2, .slice A2 n2 c2, .slice B2 m2 d2] 34)).alloc (.cells #[.bool false, .slice none 0 0, .slice none 0 0] 34)) := ⟨_, rfl⟩
  have hy0_0 : Hid (Box W0 (w.heap.size) 34 #[.bool g1, .slice A1 n1 c1, .slice B1 m1 d1]) := by rw [hW0]; exact (((Box.at' (by simp)).alloc _).alloc _)
  have hy1_0 : Hid (Box W0 (w.heap.size + 1) 34 #[.bool g2, .slice A2 n2 c2, .slice B2 m2 d2]) := by rw [hW0]; exact ((Box.at' (by simp)).alloc _)
  have hs_0 : Hid (Box W0 (w.heap.size + 1 + 1) 34 #[.bool false, .slice none 0 0, .slice none 0 0]) := by rw [hW0]; exact (Box.at' (by simp))
  have BW_0 : Hid (Below w.heap.size w W0) := by rw [hW0]; exact ((((Below.refl w.heap.size w).alloc (by simp) _).alloc (by simp) _).alloc (by simp; omega) _)
  have hsz0 : w.heap.size + 1 + 1 + 1 ≤ W0.heap.size := by rw [hW0]; simp
  have HI1 := Lib.hid (h1.below BW_0.out)
  have HI2 := Lib.hid (h2.below BW_0.out)
  have HJ1 := Lib.hid (k1.below BW_0.out)
  have HJ2 := Lib.hid (k2.below BW_0.out)
  have R1 := Lib.hid r1
  have R2 := Lib.hid r2
  have S1 := Lib.hid s1
  have S2 := Lib.hid s2
  clear h1 h2 k1 k2 r1 r2 s1 s2
  go_enter Tryz.func169, Tryz.ntmps169
  go_wp2_with fail
  rw [← hW0]
  clear hW0
  refine (impl_ratOk' g1 A1 n1 c1 xs B1 m1 d1 es _ HI1.out HJ1.out).mono ?_
  rintro e wa ⟨⟨b, rfl, hi⟩, hb⟩
  have hy0_1 := Lib.hid (hy0_0.out.below hb hy0_0.out.lt)
  have hy1_1 := Lib.hid (hy1_0.out.below hb hy1_0.out.lt)
  have hs_1 := Lib.hid (hs_0.out.below hb hs_0.out.lt)
  have BW_1 := Lib.hid (BW_0.out.trans (hb.mono BW_0.out.size))
  replace HI1 := Lib.hid (HI1.out.below hb)
  replace HI2 := Lib.hid (HI2.out.below hb)
  replace HJ1 := Lib.hid (HJ1.out.below hb)
  replace HJ2 := Lib.hid (HJ2.out.below hb)
  clear hb
  have ehy00 := hy0_1.out.cell 0
  have ehy01 := hy0_1.out.cell 1
  have ehy02 := hy0_1.out.cell 2
  have ehy10 := hy1_1.out.cell 0
  have ehy11 := hy1_1.out.cell 1
  have ehy12 := hy1_1.out.cell 2
  have ehs0 := hs_1.out.cell 0
  have ehs1 := hs_1.out.cell 1
  have ehs2 := hs_1.out.cell 2
  have fhs0 := hs_1.out.free 0
  have fhs1 := hs_1.out.free 1
  have fhs2 := hs_1.out.free 2
  simp at ehy00 ehy01 ehy02 ehy10 ehy11 ehy12 ehs0 ehs1 ehs2
  cases b
  · have hno : ¬ (ROk g1 xs es ∧ ROk g2 ys fs) := fun h => by have := hi.2 h.1; cases this
    clear hi
    have HZ : Hid (RatAddIs g1 xs es g2 ys fs false [] []) := rIs_no hno
    go_wp2_with fail
    refine bodyPost_ret (v := .agg #[.bool false, .slice none 0 0, .slice none 0 0]) (by simp [results, Tryz.results169, ehs0, ehs1, ehs2, go_sem]) rfl ?_
    exact ratEnd_zero HZ.out (below_store3 BW_1.out (by omega) _ _ _)
  have K1 := Lib.hid (hi.1 rfl)
  clear hi
  go_wp2_with fail
  refine (impl_ratOk' g2 A2 n2 c2 ys B2 m2 d2 fs _ HI2.out HJ2.out).mono ?_
  rintro e wb ⟨⟨b, rfl, hi⟩, hb⟩
  have hy0_2 := Lib.hid (hy0_1.out.below hb hy0_1.out.lt)
  have hy1_2 := Lib.hid (hy1_1.out.below hb hy1_1.out.lt)
  have hs_2 := Lib.hid (hs_1.out.below hb hs_1.out.lt)
  have BW_2 := Lib.hid (BW_1.out.trans (hb.mono BW_1.out.size))
  replace HI1 := Lib.hid (HI1.out.below hb)
  replace HI2 := Lib.hid (HI2.out.below hb)
  replace HJ1 := Lib.hid (HJ1.out.below hb)
  replace HJ2 := Lib.hid (HJ2.out.below hb)
  clear hb
  clear ehy00 ehy01 ehy02 ehy10 ehy11 ehy12 ehs0 fhs0 ehs1 fhs1 ehs2 fhs2
  have ehy00 := hy0_2.out.cell 0
  have ehy01 := hy0_2.out.cell 1
  have ehy02 := hy0_2.out.cell 2
  have ehy10 := hy1_2.out.cell 0
  have ehy11 := hy1_2.out.cell 1
  have ehy12 := hy1_2.out.cell 2
  have ehs0 := hs_2.out.cell 0
  have ehs1 := hs_2.out.cell 1
  have ehs2 := hs_2.out.cell 2
  have fhs0 := hs_2.out.free 0
  have fhs1 := hs_2.out.free 1
  have fhs2 := hs_2.out.free 2
  simp at ehy00 ehy01 ehy02 ehy10 ehy11 ehy12 ehs0 ehs1 ehs2
  cases b
  · have hno : ¬ (ROk g1 xs es ∧ ROk g2 ys fs) := fun h => by have := hi.2 h.2; cases this
    clear hi
    have HZ : Hid (RatAddIs g1 xs es g2 ys fs false [] []) := rIs_no hno
    go_wp2_with fail
    refine bodyPost_ret (v := .agg #[.bool false, .slice none 0 0, .slice none 0 0]) (by simp [results, Tryz.results169, ehs0, ehs1, ehs2, go_sem]) rfl ?_
    exact ratEnd_zero HZ.out (below_store3 BW_2.out (by omega) _ _ _)
  have K2 := Lib.hid (hi.1 rfl)
  clear hi
  have hn1 : n1 ≤ 24 := by have := K1.out.2.2.2.2.1; rwa [HI1.out.1] at this
  have hn2 : n2 ≤ 24 := by have := K2.out.2.2.2.2.1; rwa [HI2.out.1] at this
  have hm1 : m1 ≤ 24 := by have := K1.out.2.2.2.2.2; rwa [HJ1.out.1] at this
  have hm2 : m2 ≤ 24 := by have := K2.out.2.2.2.2.2; rwa [HJ2.out.1] at this
  go_wp2_with fail
  clear ehy00 ehy01 ehy02 ehy10 ehy11 ehy12 ehs0 fhs0 ehs1 fhs1 ehs2 fhs2
  have hy0_3 := Lib.hid hy0_2.out.drew
  have hy1_3 := Lib.hid hy1_2.out.drew
  have hs_3 := Lib.hid hs_2.out.drew
  have BW_3 := Lib.hid BW_2.out.drew
  replace HI1 := Lib.hid HI1.out.drew
  replace HI2 := Lib.hid HI2.out.drew
  replace HJ1 := Lib.hid HJ1.out.drew
  replace HJ2 := Lib.hid HJ2.out.drew
  have cvhy00 : Hid ((#[.bool g1, .slice A1 n1 c1, .slice B1 m1 d1] : Array Value)[0]? = some (.bool g1)) := rfl
  have cvhy01 : Hid ((#[.bool g1, .slice A1 n1 c1, .slice B1 m1 d1] : Array Value)[1]? = some (.slice A1 n1 c1)) := rfl
  have cvhy02 : Hid ((#[.bool g1, .slice A1 n1 c1, .slice B1 m1 d1] : Array Value)[2]? = some (.slice B1 m1 d1)) := rfl
  have cvhy10 : Hid ((#[.bool g2, .slice A2 n2 c2, .slice B2 m2 d2] : Array Value)[0]? = some (.bool g2)) := rfl
  have cvhy11 : Hid ((#[.bool g2, .slice A2 n2 c2, .slice B2 m2 d2] : Array Value)[1]? = some (.slice A2 n2 c2)) := rfl
  have cvhy12 : Hid ((#[.bool g2, .slice A2 n2 c2, .slice B2 m2 d2] : Array Value)[2]? = some (.slice B2 m2 d2)) := rfl
  go_region_held3 (fun w' => w'.cell? ⟨w.heap.size, 0, none⟩ = some (.bool g1) ∧ w'.cell? ⟨w.heap.size, 1, none⟩ = some (.slice A1 n1 c1) ∧ w'.cell? ⟨w.heap.size, 2, none⟩ = some (.slice B1 m1 d1) ∧ w'.cell? ⟨w.heap.size + 1, 0, none⟩ = some (.bool g2) ∧ w'.cell? ⟨w.heap.size + 1, 1, none⟩ = some (.slice A2 n2 c2) ∧ w'.cell? ⟨w.heap.size + 1, 2, none⟩ = some (.slice B2 m2 d2)) (first | with_reducible exact ⟨cellS hy0_8 cvhy00, cellS hy0_8 cvhy01, cellS hy0_8 cvhy02, cellS hy1_8 cvhy10, cellS hy1_8 cvhy11, cellS hy1_8 cvhy12⟩ | with_reducible exact ⟨cellS (hFar (hFar (hFar hy0_8 (by dsimp only; omega) _) (by dsimp only; omega) _) (by dsimp only; omega) _) cvhy00, cellS (hFar (hFar (hFar hy0_8 (by dsimp only; omega) _) (by dsimp only; omega) _) (by dsimp only; omega) _) cvhy01, cellS (hFar (hFar (hFar hy0_8 (by dsimp only; omega) _) (by dsimp only; omega) _) (by dsimp only; omega) _) cvhy02, cellS (hFar (hFar (hFar hy1_8 (by dsimp only; omega) _) (by dsimp only; omega) _) (by dsimp only; omega) _) cvhy10, cellS (hFar (hFar (hFar hy1_8 (by dsimp only; omega) _) (by dsimp only; omega) _) (by dsimp only; omega) _) cvhy11, cellS (hFar (hFar (hFar hy1_8 (by dsimp only; omega) _) (by dsimp only; omega) _) (by dsimp only; omega) _) cvhy12⟩ | with_reducible exact ⟨cellS hy0_7 cvhy00, cellS hy0_7 cvhy01, cellS hy0_7 cvhy02, cellS hy1_7 cvhy10, cellS hy1_7 cvhy11, cellS hy1_7 cvhy12⟩ | with_reducible exact ⟨cellS hy0_6 cvhy00, cellS hy0_6 cvhy01, cellS hy0_6 cvhy02, cellS hy1_6 cvhy10, cellS hy1_6 cvhy11, cellS hy1_6 cvhy12⟩ | with_reducible exact ⟨cellS hy0_5 cvhy00, cellS hy0_5 cvhy01, cellS hy0_5 cvhy02, cellS hy1_5 cvhy10, cellS hy1_5 cvhy11, cellS hy1_5 cvhy12⟩ | with_reducible exact ⟨cellS hy0_4 cvhy00, cellS hy0_4 cvhy01, cellS hy0_4 cvhy02, cellS hy1_4 cvhy10, cellS hy1_4 cvhy11, cellS hy1_4 cvhy12⟩ | with_reducible exact ⟨cellS hy0_3 cvhy00, cellS hy0_3 cvhy01, cellS hy0_3 cvhy02, cellS hy1_3 cvhy10, cellS hy1_3 cvhy11, cellS hy1_3 cvhy12⟩) (first | (go_at_call 204; refine (impl_ratMake0 gc Ac nc cc lc false Ae ne ce le _ ⟨HNc.out.symm, (by omega), Reads.of_own HOc.out, limbs_bd HCc.out.1.1.1.1⟩ ⟨HNe.out.symm, (by omega), Reads.of_own HOe.out, limbs_bd HCe.out.1.1.1⟩).mono ?_; rintro e wz ⟨s, r, v, dd, u, rfl, hq, ⟨hl1, ho1⟩, ⟨hl2, ho2⟩, hap, hb⟩; have HQ := Lib.hid (add_fin K1.out K2.out HCc.out HCe.out hq); have HAP := Lib.hid hap; have hszl := BW_7.out.size; have hy0_8 := Lib.hid (hy0_7.out.below hb hy0_7.out.lt); have hy1_8 := Lib.hid (hy1_7.out.below hb hy1_7.out.lt); have hs_8 := Lib.hid (hs_7.out.below hb hs_7.out.lt); have BW_8 := Lib.hid (BW_7.out.trans (hb.mono BW_7.out.size)); clear hb; clear hq hap; obtain ⟨A9, c9, rfl⟩ := own_slice ho1; obtain ⟨B9, d9, rfl⟩ := own_slice ho2; obtain ⟨N9, hN9⟩ : ∃ N, N = r.length := ⟨_, rfl⟩; obtain ⟨M9, hM9⟩ : ∃ N, N = dd.length := ⟨_, rfl⟩; rw [← hN9] at hl1 ho1 HAP ⊢; rw [← hM9] at hl2 ho2 HAP ⊢; have HN := Lib.hid hN9.symm; have HM := Lib.hid hM9.symm; have HO := Lib.hid ho1; have HU := Lib.hid ho2; clear ho1 ho2 hN9 hM9; have ehs0 := hs_8.out.cell 0; have ehs1 := hs_8.out.cell 1; have ehs2 := hs_8.out.cell 2; have fhs0 := hs_8.out.free 0; have fhs1 := hs_8.out.free 1; have fhs2 := hs_8.out.free 2; simp at ehs0 ehs1 ehs2) | (go_at_call 206; refine (impl_denProduct g1 A1 n1 c1 xs B1 m1 d1 es g2 A2 n2 c2 ys B2 m2 d2 fs _ HJ1.out HJ2.out).mono ?_; rintro e w7 ⟨le, ve, rfl, hq, ⟨hle, ho⟩, hb⟩; have HCe := Lib.hid (dens_mk K1.out K2.out hq); have hy0_7 := Lib.hid (hy0_6.out.below hb hy0_6.out.lt); have hy1_7 := Lib.hid (hy1_6.out.below hb hy1_6.out.lt); have hs_7 := Lib.hid (hs_6.out.below hb hs_6.out.lt); have BW_7 := Lib.hid (BW_6.out.trans (hb.mono BW_6.out.size)); replace HI1 := Lib.hid (HI1.out.below hb); replace HI2 := Lib.hid (HI2.out.below hb); replace HJ1 := Lib.hid (HJ1.out.below hb); replace HJ2 := Lib.hid (HJ2.out.below hb); replace HOc := Lib.hid (own_below HOc.out hb); clear hb; obtain ⟨Ae, ce, rfl⟩ := own_slice ho; obtain ⟨ne, hne⟩ : ∃ N, N = le.length := ⟨_, rfl⟩; rw [← hne] at hle ho ⊢; have HNe := Lib.hid hne; have HOe := Lib.hid ho; clear ho hne; have hse : ne ≤ 60 := (by have := HCe.out.1.2; rwa [← HNe.out] at this); clear hq) | (go_at_call 229; refine (impl_bigIntAdd' ga Aa na ca la gb Ab nb cb lb _ ⟨HNa.out.symm, (by omega), Reads.of_own HOa.out, limbs_bd HCa.out.1.1.1.1⟩ ⟨HNb.out.symm, (by omega), Reads.of_own HOb.out, limbs_bd HCb.out.1.1.1.1⟩ (room_own HOa.out) (room_own HOb.out)).mono ?_; rintro e w6 ⟨gc, lc, vc, rfl, hq, ⟨hlc, ho⟩, hb⟩; have HCc := Lib.hid (sum_mk HCa.out HCb.out hq); have hy0_6 := Lib.hid (hy0_5.out.below hb hy0_5.out.lt); have hy1_6 := Lib.hid (hy1_5.out.below hb hy1_5.out.lt); have hs_6 := Lib.hid (hs_5.out.below hb hs_5.out.lt); have BW_6 := Lib.hid (BW_5.out.trans (hb.mono BW_5.out.size)); replace HI1 := Lib.hid (HI1.out.below hb); replace HI2 := Lib.hid (HI2.out.below hb); replace HJ1 := Lib.hid (HJ1.out.below hb); replace HJ2 := Lib.hid (HJ2.out.below hb); clear hb; obtain ⟨Ac, cc, rfl⟩ := own_slice ho; obtain ⟨nc, hnc⟩ : ∃ N, N = lc.length := ⟨_, rfl⟩; rw [← hnc] at hlc ho ⊢; have HNc := Lib.hid hnc; have HOc := Lib.hid ho; clear ho hnc; have hsc : nc ≤ 60 := (by have := HCc.out.1.1.2; rwa [← HNc.out] at this); clear hq) | (go_at_call 225; (with_reducible refine (impl_crossed g2 A2 n2 c2 ys B2 m2 d2 fs g1 A1 n1 c1 xs B1 m1 d1 es _ HI2.out R2.out HJ1.out S1.out).mono ?_); rintro e w5 ⟨gb, lb, vb, rfl, hq, ⟨hlb, ho⟩, hb⟩; have HCb := Lib.hid (cross_mk K2.out K1.out hq); have hy0_5 := Lib.hid (hy0_4.out.below hb hy0_4.out.lt); have hy1_5 := Lib.hid (hy1_4.out.below hb hy1_4.out.lt); have hs_5 := Lib.hid (hs_4.out.below hb hs_4.out.lt); have BW_5 := Lib.hid (BW_4.out.trans (hb.mono BW_4.out.size)); replace HI1 := Lib.hid (HI1.out.below hb); replace HI2 := Lib.hid (HI2.out.below hb); replace HJ1 := Lib.hid (HJ1.out.below hb); replace HJ2 := Lib.hid (HJ2.out.below hb); replace HOa := Lib.hid (own_below HOa.out hb); clear hb; obtain ⟨Ab, cb, rfl⟩ := own_slice ho; obtain ⟨nb, hnb⟩ : ∃ N, N = lb.length := ⟨_, rfl⟩; rw [← hnb] at hlb ho ⊢; have HNb := Lib.hid hnb; have HOb := Lib.hid ho; clear ho hnb; have hsb : nb ≤ 60 := (by have := HCb.out.1.1.2; rwa [← HNb.out] at this); clear hq) | (go_at_call 225; (with_reducible refine (impl_crossed g1 A1 n1 c1 xs B1 m1 d1 es g2 A2 n2 c2 ys B2 m2 d2 fs _ HI1.out R1.out HJ2.out S2.out).mono ?_); rintro e w4 ⟨ga, la, va, rfl, hq, ⟨hla, ho⟩, hb⟩; have HCa := Lib.hid (cross_mk K1.out K2.out hq); have hy0_4 := Lib.hid (hy0_3.out.below hb hy0_3.out.lt); have hy1_4 := Lib.hid (hy1_3.out.below hb hy1_3.out.lt); have hs_4 := Lib.hid (hs_3.out.below hb hs_3.out.lt); have BW_4 := Lib.hid (BW_3.out.trans (hb.mono BW_3.out.size)); replace HI1 := Lib.hid (HI1.out.below hb); replace HI2 := Lib.hid (HI2.out.below hb); replace HJ1 := Lib.hid (HJ1.out.below hb); replace HJ2 := Lib.hid (HJ2.out.below hb); clear hb; obtain ⟨Aa, ca, rfl⟩ := own_slice ho; obtain ⟨na, hna⟩ : ∃ N, N = la.length := ⟨_, rfl⟩; rw [← hna] at hla ho ⊢; have HNa := Lib.hid hna; have HOa := Lib.hid ho; clear ho hna; have hsa : na ≤ 60 := (by have := HCa.out.1.1.2; rwa [← HNa.out] at this); clear hq))
  go_wp2_with fail
  refine bodyPost_ret (v := .agg #[.bool s, .slice A9 N9 c9, .slice B9 M9 d9]) (by simp [results, Tryz.results169, ehs0, ehs1, ehs2, go_sem]) rfl ?_
  exact ratEnd_store hs_8.out (by omega) BW_8.out HQ.out HN.out HM.out (by omega) (by omega) HO.out (by omega) HU.out (by omega) HAP.out
set_option maxHeartbeats 3200000 in
theorem impl_ratMul0 (g1 : Bool) (A1 : Option Addr) (n1 c1 : Nat) (xs : List Int) (B1 : Option Addr) (m1 d1 : Nat) (es : List Int) (g2 : Bool) (A2 : Option Addr) (n2 c2 : Nat) (ys : List Int) (B2 : Option Addr) (m2 d2 : Nat) (fs : List Int) (w : World) (h1 : InI w A1 n1 xs) (r1 : Room A1 n1 c1) (k1 : InI w B1 m1 es) (s1 : Room B1 m1 d1) (h2 : InI w A2 n2 ys) (r2 : Room A2 n2 c2) (k2 : InI w B2 m2 fs) (s2 : Room B2 m2 d2) :
    Calls Tryz.prog 142 #[.agg #[.bool g1, .slice A1 n1 c1, .slice B1 m1 d1], .agg #[.bool g2, .slice A2 n2 c2, .slice B2 m2 d2]] w fun e w' => RatEnd (RatMulIs g1 xs es g2 ys fs) w w' e := by
  have hn1 := h1.2.1
  have hn2 := h2.2.1
  have hm1 := k1.2.1
  have hm2 := k2.2.1
  obtain ⟨W0, hW0⟩ : ∃ W, W = (((w.alloc (.cells #[.bool g1, .slice A1 n1 c1, .slice B1 m1 d1] 34)).alloc (.cells #[.bool g2, .slice A2 n2 c2, .slice B2 m2 d2] 34)).alloc (.cells #[.bool false, .slice none 0 0, .slice none 0 0] 34)) := ⟨_, rfl⟩
  have hy0_0 : Hid (Box W0 (w.heap.size) 34 #[.bool g1, .slice A1 n1 c1, .slice B1 m1 d1]) := by rw [hW0]; exact (((Box.at' (by simp)).alloc _).alloc _)
  have hy1_0 : Hid (Box W0 (w.heap.size + 1) 34 #[.bool g2, .slice A2 n2 c2, .slice B2 m2 d2]) := by rw [hW0]; exact ((Box.at' (by simp)).alloc _)
  have hs_0 : Hid (Box W0 (w.heap.size + 1 + 1) 34 #[.bool false, .slice none 0 0, .slice none 0 0]) := by rw [hW0]; exact (Box.at' (by simp))
  have BW_0 : Hid (Below w.heap.size w W0) := by rw [hW0]; exact ((((Below.refl w.heap.size w).alloc (by simp) _).alloc (by simp) _).alloc (by simp; omega) _)
  have hsz0 : w.heap.size + 1 + 1 + 1 ≤ W0.heap.size := by rw [hW0]; simp
  have HI1 := Lib.hid (h1.below BW_0.out)
  have HI2 := Lib.hid (h2.below BW_0.out)
  have HJ1 := Lib.hid (k1.below BW_0.out)
  have HJ2 := Lib.hid (k2.below BW_0.out)
  have R1 := Lib.hid r1
  have R2 := Lib.hid r2
  have S1 := Lib.hid s1
  have S2 := Lib.hid s2
  clear h1 h2 k1 k2 r1 r2 s1 s2
  go_enter Tryz.func142, Tryz.ntmps142
  go_wp2_with fail
  rw [← hW0]
  clear hW0
  refine (impl_ratOk' g1 A1 n1 c1 xs B1 m1 d1 es _ HI1.out HJ1.out).mono ?_
  rintro e wa ⟨⟨b, rfl, hi⟩, hb⟩
  have hy0_1 := Lib.hid (hy0_0.out.below hb hy0_0.out.lt)
  have hy1_1 := Lib.hid (hy1_0.out.below hb hy1_0.out.lt)
  have hs_1 := Lib.hid (hs_0.out.below hb hs_0.out.lt)
  have BW_1 := Lib.hid (BW_0.out.trans (hb.mono BW_0.out.size))
  replace HI1 := Lib.hid (HI1.out.below hb)
  replace HI2 := Lib.hid (HI2.out.below hb)
  replace HJ1 := Lib.hid (HJ1.out.below hb)
  replace HJ2 := Lib.hid (HJ2.out.below hb)
  clear hb
  have ehy00 := hy0_1.out.cell 0
  have ehy01 := hy0_1.out.cell 1
  have ehy02 := hy0_1.out.cell 2
  have ehy10 := hy1_1.out.cell 0
  have ehy11 := hy1_1.out.cell 1
  have ehy12 := hy1_1.out.cell 2
  have ehs0 := hs_1.out.cell 0
  have ehs1 := hs_1.out.cell 1
  have ehs2 := hs_1.out.cell 2
  have fhs0 := hs_1.out.free 0
  have fhs1 := hs_1.out.free 1
  have fhs2 := hs_1.out.free 2
  simp at ehy00 ehy01 ehy02 ehy10 ehy11 ehy12 ehs0 ehs1 ehs2
  cases b
  · have hno : ¬ (ROk g1 xs es ∧ ROk g2 ys fs) := fun h => by have := hi.2 h.1; cases this
    clear hi
    have HZ : Hid (RatMulIs g1 xs es g2 ys fs false [] []) := rIs_no hno
    go_wp2_with fail
    refine bodyPost_ret (v := .agg #[.bool false, .slice none 0 0, .slice none 0 0]) (by simp [results, Tryz.results142, ehs0, ehs1, ehs2, go_sem]) rfl ?_
    exact ratEnd_zero HZ.out (below_store3 BW_1.out (by omega) _ _ _)
  have K1 := Lib.hid (hi.1 rfl)
  clear hi
  go_wp2_with fail
  refine (impl_ratOk' g2 A2 n2 c2 ys B2 m2 d2 fs _ HI2.out HJ2.out).mono ?_
  rintro e wb ⟨⟨b, rfl, hi⟩, hb⟩
  have hy0_2 := Lib.hid (hy0_1.out.below hb hy0_1.out.lt)
  have hy1_2 := Lib.hid (hy1_1.out.below hb hy1_1.out.lt)
  have hs_2 := Lib.hid (hs_1.out.below hb hs_1.out.lt)
  have BW_2 := Lib.hid (BW_1.out.trans (hb.mono BW_1.out.size))
  replace HI1 := Lib.hid (HI1.out.below hb)
  replace HI2 := Lib.hid (HI2.out.below hb)
  replace HJ1 := Lib.hid (HJ1.out.below hb)
  replace HJ2 := Lib.hid (HJ2.out.below hb)
  clear hb
  clear ehy00 ehy01 ehy02 ehy10 ehy11 ehy12 ehs0 fhs0 ehs1 fhs1 ehs2 fhs2
  have ehy00 := hy0_2.out.cell 0
  have ehy01 := hy0_2.out.cell 1
  have ehy02 := hy0_2.out.cell 2
  have ehy10 := hy1_2.out.cell 0
  have ehy11 := hy1_2.out.cell 1
  have ehy12 := hy1_2.out.cell 2
  have ehs0 := hs_2.out.cell 0
  have ehs1 := hs_2.out.cell 1
  have ehs2 := hs_2.out.cell 2
  have fhs0 := hs_2.out.free 0
  have fhs1 := hs_2.out.free 1
  have fhs2 := hs_2.out.free 2
  simp at ehy00 ehy01 ehy02 ehy10 ehy11 ehy12 ehs0 ehs1 ehs2
  cases b
  · have hno : ¬ (ROk g1 xs es ∧ ROk g2 ys fs) := fun h => by have := hi.2 h.2; cases this
    clear hi
    have HZ : Hid (RatMulIs g1 xs es g2 ys fs false [] []) := rIs_no hno
    go_wp2_with fail
    refine bodyPost_ret (v := .agg #[.bool false, .slice none 0 0, .slice none 0 0]) (by simp [results, Tryz.results142, ehs0, ehs1, ehs2, go_sem]) rfl ?_
    exact ratEnd_zero HZ.out (below_store3 BW_2.out (by omega) _ _ _)
  have K2 := Lib.hid (hi.1 rfl)
  clear hi
  have hn1 : n1 ≤ 24 := by have := K1.out.2.2.2.2.1; rwa [HI1.out.1] at this
  have hn2 : n2 ≤ 24 := by have := K2.out.2.2.2.2.1; rwa [HI2.out.1] at this
  have hm1 : m1 ≤ 24 := by have := K1.out.2.2.2.2.2; rwa [HJ1.out.1] at this
  have hm2 : m2 ≤ 24 := by have := K2.out.2.2.2.2.2; rwa [HJ2.out.1] at this
  go_wp2_with fail
  clear ehy00 ehy01 ehy02 ehy10 ehy11 ehy12 ehs0 fhs0 ehs1 fhs1 ehs2 fhs2
  have hy0_3 := Lib.hid hy0_2.out.drew
  have hy1_3 := Lib.hid hy1_2.out.drew
  have hs_3 := Lib.hid hs_2.out.drew
  have BW_3 := Lib.hid BW_2.out.drew
  replace HI1 := Lib.hid HI1.out.drew
  replace HI2 := Lib.hid HI2.out.drew
  replace HJ1 := Lib.hid HJ1.out.drew
  replace HJ2 := Lib.hid HJ2.out.drew
  have cvhy00 : Hid ((#[.bool g1, .slice A1 n1 c1, .slice B1 m1 d1] : Array Value)[0]? = some (.bool g1)) := rfl
  have cvhy01 : Hid ((#[.bool g1, .slice A1 n1 c1, .slice B1 m1 d1] : Array Value)[1]? = some (.slice A1 n1 c1)) := rfl
  have cvhy02 : Hid ((#[.bool g1, .slice A1 n1 c1, .slice B1 m1 d1] : Array Value)[2]? = some (.slice B1 m1 d1)) := rfl
  have cvhy10 : Hid ((#[.bool g2, .slice A2 n2 c2, .slice B2 m2 d2] : Array Value)[0]? = some (.bool g2)) := rfl
  have cvhy11 : Hid ((#[.bool g2, .slice A2 n2 c2, .slice B2 m2 d2] : Array Value)[1]? = some (.slice A2 n2 c2)) := rfl
  have cvhy12 : Hid ((#[.bool g2, .slice A2 n2 c2, .slice B2 m2 d2] : Array Value)[2]? = some (.slice B2 m2 d2)) := rfl
  go_region_held3 (fun w' => w'.cell? ⟨w.heap.size, 0, none⟩ = some (.bool g1) ∧ w'.cell? ⟨w.heap.size, 1, none⟩ = some (.slice A1 n1 c1) ∧ w'.cell? ⟨w.heap.size, 2, none⟩ = some (.slice B1 m1 d1) ∧ w'.cell? ⟨w.heap.size + 1, 0, none⟩ = some (.bool g2) ∧ w'.cell? ⟨w.heap.size + 1, 1, none⟩ = some (.slice A2 n2 c2) ∧ w'.cell? ⟨w.heap.size + 1, 2, none⟩ = some (.slice B2 m2 d2)) (first | with_reducible exact ⟨cellS hy0_6 cvhy00, cellS hy0_6 cvhy01, cellS hy0_6 cvhy02, cellS hy1_6 cvhy10, cellS hy1_6 cvhy11, cellS hy1_6 cvhy12⟩ | with_reducible exact ⟨cellS (hFar (hFar (hFar hy0_6 (by dsimp only; omega) _) (by dsimp only; omega) _) (by dsimp only; omega) _) cvhy00, cellS (hFar (hFar (hFar hy0_6 (by dsimp only; omega) _) (by dsimp only; omega) _) (by dsimp only; omega) _) cvhy01, cellS (hFar (hFar (hFar hy0_6 (by dsimp only; omega) _) (by dsimp only; omega) _) (by dsimp only; omega) _) cvhy02, cellS (hFar (hFar (hFar hy1_6 (by dsimp only; omega) _) (by dsimp only; omega) _) (by dsimp only; omega) _) cvhy10, cellS (hFar (hFar (hFar hy1_6 (by dsimp only; omega) _) (by dsimp only; omega) _) (by dsimp only; omega) _) cvhy11, cellS (hFar (hFar (hFar hy1_6 (by dsimp only; omega) _) (by dsimp only; omega) _) (by dsimp only; omega) _) cvhy12⟩ | with_reducible exact ⟨cellS hy0_5 cvhy00, cellS hy0_5 cvhy01, cellS hy0_5 cvhy02, cellS hy1_5 cvhy10, cellS hy1_5 cvhy11, cellS hy1_5 cvhy12⟩ | with_reducible exact ⟨cellS hy0_4 cvhy00, cellS hy0_4 cvhy01, cellS hy0_4 cvhy02, cellS hy1_4 cvhy10, cellS hy1_4 cvhy11, cellS hy1_4 cvhy12⟩ | with_reducible exact ⟨cellS hy0_3 cvhy00, cellS hy0_3 cvhy01, cellS hy0_3 cvhy02, cellS hy1_3 cvhy10, cellS hy1_3 cvhy11, cellS hy1_3 cvhy12⟩) (first | (go_at_call 204; refine (impl_ratMake0 gc Ac nc cc lc false Ae ne ce le _ ⟨HNc.out.symm, (by omega), Reads.of_own HOc.out, limbs_bd HCc.out.1.1.1.1⟩ ⟨HNe.out.symm, (by omega), Reads.of_own HOe.out, limbs_bd HCe.out.1.1.1⟩).mono ?_; rintro e wz ⟨s, r, v, dd, u, rfl, hq, ⟨hl1, ho1⟩, ⟨hl2, ho2⟩, hap, hb⟩; have HQ := Lib.hid (mul_fin K1.out K2.out HCc.out HCe.out hq); have HAP := Lib.hid hap; have hszl := BW_5.out.size; have hy0_6 := Lib.hid (hy0_5.out.below hb hy0_5.out.lt); have hy1_6 := Lib.hid (hy1_5.out.below hb hy1_5.out.lt); have hs_6 := Lib.hid (hs_5.out.below hb hs_5.out.lt); have BW_6 := Lib.hid (BW_5.out.trans (hb.mono BW_5.out.size)); clear hb; clear hq hap; obtain ⟨A9, c9, rfl⟩ := own_slice ho1; obtain ⟨B9, d9, rfl⟩ := own_slice ho2; obtain ⟨N9, hN9⟩ : ∃ N, N = r.length := ⟨_, rfl⟩; obtain ⟨M9, hM9⟩ : ∃ N, N = dd.length := ⟨_, rfl⟩; rw [← hN9] at hl1 ho1 HAP ⊢; rw [← hM9] at hl2 ho2 HAP ⊢; have HN := Lib.hid hN9.symm; have HM := Lib.hid hM9.symm; have HO := Lib.hid ho1; have HU := Lib.hid ho2; clear ho1 ho2 hN9 hM9; have ehs0 := hs_6.out.cell 0; have ehs1 := hs_6.out.cell 1; have ehs2 := hs_6.out.cell 2; have fhs0 := hs_6.out.free 0; have fhs1 := hs_6.out.free 1; have fhs2 := hs_6.out.free 2; simp at ehs0 ehs1 ehs2) | (go_at_call 206; refine (impl_denProduct g1 A1 n1 c1 xs B1 m1 d1 es g2 A2 n2 c2 ys B2 m2 d2 fs _ HJ1.out HJ2.out).mono ?_; rintro e w5 ⟨le, ve, rfl, hq, ⟨hle, ho⟩, hb⟩; have HCe := Lib.hid (dens_mk K1.out K2.out hq); have hy0_5 := Lib.hid (hy0_4.out.below hb hy0_4.out.lt); have hy1_5 := Lib.hid (hy1_4.out.below hb hy1_4.out.lt); have hs_5 := Lib.hid (hs_4.out.below hb hs_4.out.lt); have BW_5 := Lib.hid (BW_4.out.trans (hb.mono BW_4.out.size)); replace HI1 := Lib.hid (HI1.out.below hb); replace HI2 := Lib.hid (HI2.out.below hb); replace HJ1 := Lib.hid (HJ1.out.below hb); replace HJ2 := Lib.hid (HJ2.out.below hb); replace HOc := Lib.hid (own_below HOc.out hb); clear hb; obtain ⟨Ae, ce, rfl⟩ := own_slice ho; obtain ⟨ne, hne⟩ : ∃ N, N = le.length := ⟨_, rfl⟩; rw [← hne] at hle ho ⊢; have HNe := Lib.hid hne; have HOe := Lib.hid ho; clear ho hne; have hse : ne ≤ 60 := (by have := HCe.out.1.2; rwa [← HNe.out] at this); clear hq) | (go_at_call 205; refine (impl_bigIntMul' g1 A1 n1 c1 xs g2 A2 n2 c2 ys _ HI1.out HI2.out R1.out R2.out).mono ?_; rintro e w4 ⟨gc, lc, vc, rfl, hq, ⟨hlc, ho⟩, hb⟩; have HCc := Lib.hid (nums_mk K1.out K2.out hq); have hy0_4 := Lib.hid (hy0_3.out.below hb hy0_3.out.lt); have hy1_4 := Lib.hid (hy1_3.out.below hb hy1_3.out.lt); have hs_4 := Lib.hid (hs_3.out.below hb hs_3.out.lt); have BW_4 := Lib.hid (BW_3.out.trans (hb.mono BW_3.out.size)); replace HI1 := Lib.hid (HI1.out.below hb); replace HI2 := Lib.hid (HI2.out.below hb); replace HJ1 := Lib.hid (HJ1.out.below hb); replace HJ2 := Lib.hid (HJ2.out.below hb); clear hb; obtain ⟨Ac, cc, rfl⟩ := own_slice ho; obtain ⟨nc, hnc⟩ : ∃ N, N = lc.length := ⟨_, rfl⟩; rw [← hnc] at hlc ho ⊢; have HNc := Lib.hid hnc; have HOc := Lib.hid ho; clear ho hnc; have hsc : nc ≤ 60 := (by have := HCc.out.1.1.2; rwa [← HNc.out] at this); clear hq))
  go_wp2_with fail
  refine bodyPost_ret (v := .agg #[.bool s, .slice A9 N9 c9, .slice B9 M9 d9]) (by simp [results, Tryz.results142, ehs0, ehs1, ehs2, go_sem]) rfl ?_
  exact ratEnd_store hs_6.out (by omega) BW_6.out HQ.out HN.out HM.out (by omega) (by omega) HO.out (by omega) HU.out (by omega) HAP.out
end Go.Proofs.YtegclofijaoajaaGreat
