/- Contracts of fractions: sums, by the model. -/
import Derived.Test.YtegclofijaoajaaGreatGD
import Derived.Deep.DeepCutAuto
namespace Go.Proofs.YtegclofijaoajaaGreat
set_option maxRecDepth 100000
open Go.RowKit Go.Deep

theorem okval_inR {l : List Int} {v : Int} (h : Ok l ∧ val l = v) : InR l := h.1.1.1
theorem made_crossG {g1 g2 : Bool} {xs es ys fs lp r : List Int} (k1 : GRat g1 xs es) (k2 : GRat g2 ys fs) (hp : Ok lp ∧ val lp = val xs * val fs) (hm : ∃ l, Canon l ∧ val l = val lp ∧ r = cap l) : CrossIs (bval g1 xs * val fs) (sgn g1 r) r := by
  obtain rfl := made_same hp.1 hm
  have hb := k1.nbd
  have hd := k2.db
  have hp24 := pw_pos 24
  obtain ⟨m0, m1⟩ := mul_bd24 hb.1 hb.2 (show -pw 24 < val fs by omega) hd.2
  refine ⟨sgn_bok _ hp.1, ?_, m0, m1⟩
  rw [sgn_bval _ hp.1.1, hp.2]
  cases g1 <;> simp [bval, Int.neg_mul]
theorem made_cross {g1 g2 : Bool} {xs es ys fs lp r : List Int} (k1 : ROk g1 xs es) (k2 : ROk g2 ys fs) (hp : Ok lp ∧ val lp = val xs * val fs) (hm : ∃ l, Canon l ∧ val l = val lp ∧ r = cap l) : CrossIs (bval g1 xs * val fs) (sgn g1 r) r := made_crossG (.inl k1) (.inl k2) hp hm
theorem sum_small {N M : Int} {ga gb gc : Bool} {la lb lc : List Int} (ha : CrossIs N ga la) (hb : CrossIs M gb lb) (q : BRep (bval ga la + bval gb lb) gc lc) : BOk gc lc ∧ bval gc lc = N + M := by
  have h2 := pw_double
  obtain ⟨a1, a2, a3, a4⟩ := ha
  obtain ⟨b1, b2, b3, b4⟩ := hb
  rw [a2, b2] at q
  exact bRep_small q (by omega) (by omega)
theorem whole_small {g1 g2 gc : Bool} {xs es ys fs lc : List Int} (k1 : GRat g1 xs es) (k2 : GRat g2 ys fs) (q : BRep (bval g1 xs + bval g2 ys) gc lc) : BOk gc lc ∧ bval gc lc = bval g1 xs + bval g2 ys := by
  have h1 := k1.nbd
  have h2 := k2.nbd
  have h3 : pw 24 + pw 24 ≤ pw 60 := by decide
  exact bRep_small q (by omega) (by omega)
theorem add_low_fin {g1 g2 : Bool} {xs es ys fs : List Int} {gc : Bool} {lc le : List Int} {g : Bool} {l d : List Int} (k1 : GRat g1 xs es) (k2 : GRat g2 ys fs) (hc : BOk gc lc ∧ bval gc lc = bval g1 xs * val fs + bval g2 ys * val es) (hd : Ok le ∧ val le = val es * val fs) (h : RIs True (bval gc lc) (val le) g l d) : RatAddIs g1 xs es g2 ys fs g l d := by
  rw [hc.2, hd.2] at h
  exact gr_fin h (k1.two k2)
theorem GRat.whole {g : Bool} {l : List Int} (h : GRat g l [1]) : ROk g l [1] := by
  rcases h with h | ⟨_, _, h⟩
  · exact h
  · cases h
theorem add_wholeG {g1 g2 : Bool} {l1 d1 l2 d2 : List Int} {N : Int} {g : Bool} {l d : List Int} (k1 : GRat g1 l1 d1) (k2 : GRat g2 l2 d2) (e1 : d1 = [1]) (e2 : d2 = [1]) (hN : N = bval g1 l1 + bval g2 l2) (h : RIs True N 1 g l d) : RatAddIs g1 l1 d1 g2 l2 d2 g l d := by
  subst e1 e2
  exact add_whole k1.whole k2.whole rfl rfl hN h
theorem one_ok : Ok [1] := ⟨one_canon, by simp⟩
theorem lit_one (w : World) {b : Nat} (hb : b = w.heap.size) : InI (w.alloc (.cells #[.int .i64 1] 3)) (some ⟨b, 0, none⟩) 1 [1] := by
  subst hb
  exact ⟨rfl, by omega, .inr ⟨w.heap.size, 0, rfl, by simp, cells_new w [.int .i64 1] 3⟩, limbs_bd (InR.one (by omega) (by omega))⟩
theorem lit_room (b : Nat) : Room (some (⟨b, 0, none⟩ : Addr)) 1 1 := ⟨Nat.le_refl _, fun h => by cases h⟩
set_option maxRecDepth 100000 in
set_option maxHeartbeats 3200000 in
theorem spec_l04AddG (g1 : Bool) (A1 : Option Addr) (n1 c1 : Nat) (xs : List Int) (B1 : Option Addr) (m1 d1 : Nat) (es : List Int) (g2 : Bool) (A2 : Option Addr) (n2 c2 : Nat) (ys : List Int) (B2 : Option Addr) (m2 d2 : Nat) (fs : List Int) (w : World) (h1 : InI w A1 n1 xs) (r1 : Room A1 n1 c1) (k1 : InI w B1 m1 es) (s1 : Room B1 m1 d1) (h2 : InI w A2 n2 ys) (r2 : Room A2 n2 c2) (k2 : InI w B2 m2 fs) (s2 : Room B2 m2 d2)(q1 : GRat g1 xs es) (q2 : GRat g2 ys fs) :
    Calls Tryz.prog 87 #[.agg #[.bool g1, .slice A1 n1 c1, .slice B1 m1 d1], .agg #[.bool g2, .slice A2 n2 c2, .slice B2 m2 d2]] w fun e w' => RatEnd (RatAddIs g1 xs es g2 ys fs) w w' e := by
  have hn1 := h1.2.1
  have hn2 := h2.2.1
  have hm1 := k1.2.1
  have hm2 := k2.2.1
  obtain ⟨W0, hW0⟩ : ∃ W, W = (((w.alloc (.cells #[.bool g1, .slice A1 n1 c1, .slice B1 m1 d1] 34)).alloc (.cells #[.bool g2, .slice A2 n2 c2, .slice B2 m2 d2] 34)).alloc (.cells #[.bool false, .slice none 0 0, .slice none 0 0] 34)) := ⟨_, rfl⟩
  have hy0_0 : Hid (Box W0 (w.heap.size) 34 #[.bool g1, .slice A1 n1 c1, .slice B1 m1 d1]) := by rw [hW0]; exact (((Box.at' (by simp)).alloc _).alloc _)
  have hy1_0 : Hid (Box W0 (w.heap.size + 1) 34 #[.bool g2, .slice A2 n2 c2, .slice B2 m2 d2]) := by rw [hW0]; exact ((Box.at' (by simp)).alloc _)
  have hs_0 : Hid (Box W0 (w.heap.size + 1 + 1) 34 #[.bool false, .slice none 0 0, .slice none 0 0]) := by rw [hW0]; exact (Box.at' (by simp))
  have BW_0 : Hid (Below w.heap.size w W0) := by rw [hW0]; exact ((((Below.refl w.heap.size w).alloc (by simp) _).alloc (by simp) _).alloc (by simp; omega) _)
  have hsz0 : w.heap.size + 1 + 1 + 1 ≤ W0.heap.size := by rw [hW0]; simp
  have HI1 := Lib.hid (h1.below BW_0.out)
  have HI2 := Lib.hid (h2.below BW_0.out)
  have HJ1 := Lib.hid (k1.below BW_0.out)
  have HJ2 := Lib.hid (k2.below BW_0.out)
  have R1 := Lib.hid r1
  have R2 := Lib.hid r2
  have S1 := Lib.hid s1
  have S2 := Lib.hid s2
  have HH1 := Lib.hid h1
  have HH2 := Lib.hid h2
  have HK1 := Lib.hid k1
  have HK2 := Lib.hid k2
  clear h1 h2 k1 k2 r1 r2 s1 s2
  go_enter Tryz.func87, Tryz.ntmps87
  go_wp2_with fail
  rw [← hW0]
  clear hW0
  have K1 := Lib.hid q1
  have K2 := Lib.hid q2
  clear q1 q2
  have hn1 : n1 ≤ 24 := by have := K1.out.short.1; rwa [HI1.out.1] at this
  have hn2 : n2 ≤ 24 := by have := K2.out.short.1; rwa [HI2.out.1] at this
  have hm1 : m1 ≤ 24 := by have := K1.out.short.2; rwa [HJ1.out.1] at this
  have hm2 : m2 ≤ 24 := by have := K2.out.short.2; rwa [HJ2.out.1] at this
  obtain ⟨b1, hb1⟩ : ∃ q, decide (es = [1]) = q := ⟨_, rfl⟩
  obtain ⟨b2, hb2⟩ : ∃ q, decide (fs = [1]) = q := ⟨_, rfl⟩
  have HB1 := Lib.hid hb1
  have HB2 := Lib.hid hb2
  clear hb1 hb2
  refine (spec_one B1 m1 d1 es b1 _ HB1.out HJ1.out.1 (by omega) HJ1.out.2.2.1).mono ?_
  rintro e wa ⟨rfl, rfl⟩
  have ehy00 := hy0_0.out.cell 0
  have ehy01 := hy0_0.out.cell 1
  have ehy02 := hy0_0.out.cell 2
  have ehy10 := hy1_0.out.cell 0
  have ehy11 := hy1_0.out.cell 1
  have ehy12 := hy1_0.out.cell 2
  simp at ehy00 ehy01 ehy02 ehy10 ehy11 ehy12
  by_cases hone : b1 = true ∧ b2 = true
  · obtain ⟨rfl, rfl⟩ := hone
    go_wp2_with fail
    refine (spec_one B2 m2 d2 fs true _ HB2.out HJ2.out.1 (by omega) HJ2.out.2.2.1).mono ?_
    rintro e wb ⟨rfl, rfl⟩
    go_wp2_with fail
    clear ehy00 ehy01 ehy02 ehy10 ehy11 ehy12
    refine (spec_bigAdd g1 A1 n1 c1 xs g2 A2 n2 c2 ys _ HI1.out HI2.out K1.out.bok K2.out.bok).mono ?_
    rintro e wc ⟨gc, lc, vc, rfl, hq, ⟨hlc, ho⟩, hb⟩
    have HCc := Lib.hid (whole_small K1.out K2.out hq)
    have hs_1 := Lib.hid (hs_0.out.below hb hs_0.out.lt)
    have BW_1 := Lib.hid (BW_0.out.trans (hb.mono BW_0.out.size))
    clear hb
    obtain ⟨Ac, cc, rfl⟩ := own_slice ho
    obtain ⟨nc, hnc⟩ : ∃ N, N = lc.length := ⟨_, rfl⟩
    rw [← hnc] at hlc ho ⊢
    have HNc := Lib.hid hnc
    have HOc := Lib.hid ho
    clear ho hnc
    have hsc : nc ≤ 60 := by have := HCc.out.1.1.2; rwa [← HNc.out] at this
    clear hq
    go_wp2_with fail
    obtain ⟨W2, hW2⟩ : ∃ W, W = wc.alloc (.cells #[.bool gc, .slice Ac nc cc] 32) := ⟨_, rfl⟩
    have hs_2 : Hid (Box W2 (w.heap.size + 1 + 1) 34 #[.bool false, .slice none 0 0, .slice none 0 0]) := by rw [hW2]; exact hs_1.out.alloc _
    have BW_2 : Hid (Below w.heap.size w W2) := by rw [hW2]; exact BW_1.out.alloc BW_1.out.size _
    have HOc2 : Hid (W2.ownsRow W0.heap.size 3 1 (.slice Ac nc cc) nc (lc.map (.int .i64))) := by rw [hW2]; exact HOc.out.alloc _
    have hsz2 : wc.heap.size + 1 = W2.heap.size := by rw [hW2]; simp
    rw [← hW2]
    clear hW2
    have hs_3 := Lib.hid (hs_2.out.alloc (.cells #[.int .i64 1] 3))
    have BW_3 := Lib.hid (BW_2.out.alloc BW_2.out.size (.cells #[.int .i64 1] 3))
    have HOc3 := Lib.hid (HOc2.out.alloc (.cells #[.int .i64 1] 3))
    have HCI : Hid (InI (W2.alloc (.cells #[.int .i64 1] 3)) Ac nc lc) := ⟨HNc.out.symm, by omega, Reads.of_own HOc3.out, limbs_bd HCc.out.1.1.1.1⟩
    refine (spec_low gc Ac nc cc lc (some ⟨wc.heap.size + 1, 0, none⟩) 1 1 [1] _ HCI.out (room_own HOc3.out) (lit_one W2 hsz2) (lit_room _) HCc.out.1.1 one_ok).mono ?_
    rintro e wz ⟨s, r, v, dd, u, rfl, hq, ⟨hl1, ho1⟩, ⟨hl2, ho2⟩, hap, hb⟩
    have HQ : Hid (RatAddIs g1 xs es g2 ys fs s r dd) := add_wholeG K1.out K2.out (of_decide_eq_true HB1.out) (of_decide_eq_true HB2.out) HCc.out.2 hq
    have HAP := Lib.hid hap
    have hszl := BW_3.out.size
    have hs_4 := Lib.hid (hs_3.out.below hb hs_3.out.lt)
    have BW_4 := Lib.hid (BW_3.out.trans (hb.mono BW_3.out.size))
    clear hb
    clear hq hap
    obtain ⟨A9, c9, rfl⟩ := own_slice ho1
    obtain ⟨B9, d9, rfl⟩ := own_slice ho2
    obtain ⟨N9, hN9⟩ : ∃ N, N = r.length := ⟨_, rfl⟩
    obtain ⟨M9, hM9⟩ : ∃ N, N = dd.length := ⟨_, rfl⟩
    rw [← hN9] at hl1 ho1 HAP ⊢
    rw [← hM9] at hl2 ho2 HAP ⊢
    have HN := Lib.hid hN9.symm
    have HM := Lib.hid hM9.symm
    have HO := Lib.hid ho1
    have HU := Lib.hid ho2
    clear ho1 ho2 hN9 hM9
    have ehs0 := hs_4.out.cell 0
    have ehs1 := hs_4.out.cell 1
    have ehs2 := hs_4.out.cell 2
    have fhs0 := hs_4.out.free 0
    have fhs1 := hs_4.out.free 1
    have fhs2 := hs_4.out.free 2
    simp at ehs0 ehs1 ehs2
    go_wp2_with fail
    refine bodyPost_ret (v := .agg #[.bool s, .slice A9 N9 c9, .slice B9 M9 d9]) (by simp [results, Tryz.results87, ehs0, ehs1, ehs2, go_sem]) rfl ?_
    exact ratEnd_store hs_4.out (by omega) BW_4.out HQ.out HN.out HM.out (by omega) (by omega) HO.out (by omega) HU.out (by omega) HAP.out
  have sz_0 : W0.heap.size ≤ W0.heap.size := Nat.le_refl _
  have hcase : b1 = false ∨ (b1 = true ∧ b2 = false) := by cases b1 <;> cases b2 <;> simp at hone ⊢
  clear hone
  rcases hcase with rfl | ⟨rfl, rfl⟩
  · skip
    clear ehy00 ehy01 ehy02 ehy10 ehy11 ehy12
    have ehy00 := hy0_0.out.cell 0
    have ehy01 := hy0_0.out.cell 1
    have ehy02 := hy0_0.out.cell 2
    have ehy10 := hy1_0.out.cell 0
    have ehy11 := hy1_0.out.cell 1
    have ehy12 := hy1_0.out.cell 2
    simp at ehy00 ehy01 ehy02 ehy10 ehy11 ehy12
    clear ehy00 ehy01 ehy02 ehy10 ehy11 ehy12
    go_upto_region 4 with fail
    go_cut [6] (fun s6 wx => ∃ (gb : Nat) (s0 : Bool) (l0 : List Int) (A0 : Option Addr) (n0 c0 : Nat), s6 = .pointer (some ⟨gb, 0, none⟩) ∧ W0.heap.size ≤ gb ∧ Hid (CrossIs (bval g1 xs * val fs) s0 l0) ∧ Hid (l0.length = n0) ∧ n0 ≤ 60 ∧ Hid (wx.ownsRow w.heap.size 3 1 (.slice A0 n0 c0) n0 (l0.map (.int .i64))) ∧ Hid (Box wx gb 32 #[.bool s0, .slice A0 n0 c0]) ∧ Hid (Below w.heap.size w wx) ∧ W0.heap.size ≤ wx.heap.size ∧ Hid (Box wx (w.heap.size) 34 #[.bool g1, .slice A1 n1 c1, .slice B1 m1 d1]) ∧ Hid (Box wx (w.heap.size + 1) 34 #[.bool g2, .slice A2 n2 c2, .slice B2 m2 d2]) ∧ Hid (Box wx (w.heap.size + 1 + 1) 34 #[.bool false, .slice none 0 0, .slice none 0 0]))
    case first =>
      have hy0_1 := Lib.hid hy0_0.out.drew
      have hy1_1 := Lib.hid hy1_0.out.drew
      have hs_1 := Lib.hid hs_0.out.drew
      have BW_1 := Lib.hid BW_0.out.drew
      have sy_1 : W0.heap.size ≤ W0.drew.heap.size := Nat.le_refl _
      have cvhy00 : Hid ((#[.bool g1, .slice A1 n1 c1, .slice B1 m1 d1] : Array Value)[0]? = some (.bool g1)) := rfl
      have cvhy01 : Hid ((#[.bool g1, .slice A1 n1 c1, .slice B1 m1 d1] : Array Value)[1]? = some (.slice A1 n1 c1)) := rfl
      have cvhy12 : Hid ((#[.bool g2, .slice A2 n2 c2, .slice B2 m2 d2] : Array Value)[2]? = some (.slice B2 m2 d2)) := rfl
      go_region_held3 (fun w' => w'.cell? ⟨w.heap.size, 0, none⟩ = some (.bool g1) ∧ w'.cell? ⟨w.heap.size, 1, none⟩ = some (.slice A1 n1 c1) ∧ w'.cell? ⟨w.heap.size + 1, 2, none⟩ = some (.slice B2 m2 d2)) (first | with_reducible exact ⟨cellS hy0_3 cvhy00, cellS hy0_3 cvhy01, cellS hy1_3 cvhy12⟩ | with_reducible exact ⟨cellS (hAlloc hy0_3 _) cvhy00, cellS (hAlloc hy0_3 _) cvhy01, cellS (hAlloc hy1_3 _) cvhy12⟩ | with_reducible exact ⟨cellS (hFar (hFar hy0_3 (by have := hy0_0.out.lt; dsimp only; omega) _) (by have := hy0_0.out.lt; dsimp only; omega) _) cvhy00, cellS (hFar (hFar hy0_3 (by have := hy0_0.out.lt; dsimp only; omega) _) (by have := hy0_0.out.lt; dsimp only; omega) _) cvhy01, cellS (hFar (hFar hy1_3 (by have := hy1_0.out.lt; dsimp only; omega) _) (by have := hy1_0.out.lt; dsimp only; omega) _) cvhy12⟩ | with_reducible exact ⟨cellS hy0_2 cvhy00, cellS hy0_2 cvhy01, cellS hy1_2 cvhy12⟩ | with_reducible exact ⟨cellS (hAlloc hy0_2 _) cvhy00, cellS (hAlloc hy0_2 _) cvhy01, cellS (hAlloc hy1_2 _) cvhy12⟩ | with_reducible exact ⟨cellS hy0_1 cvhy00, cellS hy0_1 cvhy01, cellS hy1_1 cvhy12⟩ | with_reducible exact ⟨cellS (hAlloc hy0_1 _) cvhy00, cellS (hAlloc hy0_1 _) cvhy01, cellS (hAlloc hy1_1 _) cvhy12⟩ | with_reducible exact ⟨cellS (hDrew (hAlloc hy0_0 _)) cvhy00, cellS (hDrew (hAlloc hy0_0 _)) cvhy01, cellS (hDrew (hAlloc hy1_0 _)) cvhy12⟩) (first | (go_at_call 160; first | ((with_reducible refine (spec_make g1 Ap np cp lp _ HNp.out.symm (by omega) (room_own HOp.out) (Reads.of_own HOp.out) (okval_inR HCp.out)).mono ?_); rintro e w3 ⟨la, va, rfl, hm, ⟨hla, ho⟩, hb⟩; have hy0_3 := Lib.hid (hy0_2.out.below hb hy0_2.out.lt); have hy1_3 := Lib.hid (hy1_2.out.below hb hy1_2.out.lt); have hs_3 := Lib.hid (hs_2.out.below hb hs_2.out.lt); have BW_3 := Lib.hid (BW_2.out.trans (hb.mono BW_2.out.size)); replace HOp := Lib.hid (own_below HOp.out hb); (try (have NN_3 := Lib.hid (NN_2.out.below hb NN_2.out.lt))); have sy_3 : W0.heap.size ≤ w3.heap.size := Nat.le_trans sy_2 (Nat.le_trans (by simp) hb.size); obtain ⟨sa, hsx⟩ : ∃ s, s = sgn g1 la := ⟨_, rfl⟩; have HCa : Hid (CrossIs (bval g1 xs * val fs) sa la) := (by rw [hsx]; exact made_crossG K1.out K2.out HCp.out hm); rw [← hsx]; obtain ⟨Aa, ca, rfl⟩ := own_slice ho; obtain ⟨na, hN⟩ : ∃ N, N = la.length := ⟨_, rfl⟩; rw [← hN] at ho ⊢; have HNa := Lib.hid hN.symm; have HOa := Lib.hid ho; have hsa : na ≤ 60 := (by have := HCa.out.1.1.2; rwa [← hN] at this); clear hsx hm hla ho hN hb; (try (have eN0 := NN_3.out.cell 0; have eN1 := NN_3.out.cell 1; simp at eN0 eN1; have fN0 := NN_3.out.free 0; have fN1 := NN_3.out.free 1))) | (replace hy0_2 := Lib.hid (hy0_2.out.alloc (.cells #[.bool false, .slice none 0 0] 32)); replace hy1_2 := Lib.hid (hy1_2.out.alloc (.cells #[.bool false, .slice none 0 0] 32)); replace hs_2 := Lib.hid (hs_2.out.alloc (.cells #[.bool false, .slice none 0 0] 32)); replace BW_2 := Lib.hid (BW_2.out.alloc BW_2.out.size (.cells #[.bool false, .slice none 0 0] 32)); replace HOp := Lib.hid (HOp.out.alloc (.cells #[.bool false, .slice none 0 0] 32)); have NN_2 := Lib.hid (Box.new w2 32 #[.bool false, .slice none 0 0]); have szn : W0.heap.size ≤ w2.heap.size := Nat.le_trans sz_0 sy_2; (with_reducible refine (spec_make g1 Ap np cp lp _ HNp.out.symm (by omega) (room_own HOp.out) (Reads.of_own HOp.out) (okval_inR HCp.out)).mono ?_); rintro e w3 ⟨la, va, rfl, hm, ⟨hla, ho⟩, hb⟩; have hy0_3 := Lib.hid (hy0_2.out.below hb hy0_2.out.lt); have hy1_3 := Lib.hid (hy1_2.out.below hb hy1_2.out.lt); have hs_3 := Lib.hid (hs_2.out.below hb hs_2.out.lt); have BW_3 := Lib.hid (BW_2.out.trans (hb.mono BW_2.out.size)); replace HOp := Lib.hid (own_below HOp.out hb); (try (have NN_3 := Lib.hid (NN_2.out.below hb NN_2.out.lt))); have sy_3 : W0.heap.size ≤ w3.heap.size := Nat.le_trans sy_2 (Nat.le_trans (by simp) hb.size); obtain ⟨sa, hsx⟩ : ∃ s, s = sgn g1 la := ⟨_, rfl⟩; have HCa : Hid (CrossIs (bval g1 xs * val fs) sa la) := (by rw [hsx]; exact made_crossG K1.out K2.out HCp.out hm); rw [← hsx]; obtain ⟨Aa, ca, rfl⟩ := own_slice ho; obtain ⟨na, hN⟩ : ∃ N, N = la.length := ⟨_, rfl⟩; rw [← hN] at ho ⊢; have HNa := Lib.hid hN.symm; have HOa := Lib.hid ho; have hsa : na ≤ 60 := (by have := HCa.out.1.1.2; rwa [← hN] at this); clear hsx hm hla ho hN hb; (try (have eN0 := NN_3.out.cell 0; have eN1 := NN_3.out.cell 1; simp at eN0 eN1; have fN0 := NN_3.out.free 0; have fN1 := NN_3.out.free 1)))) | (go_at_call 161; first | ((with_reducible refine (spec_mul A1 n1 c1 xs B2 m2 d2 fs _ (HH1.out.below BW_1.out).canon (HK2.out.below BW_1.out).canon K1.out.nr K2.out.dr).mono ?_); rintro e w2 ⟨lp, Ap, cp, rfl, hcan, hv, hlp, ho, hb⟩; have hy0_2 := Lib.hid (hy0_1.out.below hb hy0_1.out.lt); have hy1_2 := Lib.hid (hy1_1.out.below hb hy1_1.out.lt); have hs_2 := Lib.hid (hs_1.out.below hb hs_1.out.lt); have BW_2 := Lib.hid (BW_1.out.trans (hb.mono BW_1.out.size)); (try (have NN_2 := Lib.hid (NN_1.out.below hb NN_1.out.lt))); have sy_2 : W0.heap.size ≤ w2.heap.size := Nat.le_trans sy_1 (Nat.le_trans (by simp) hb.size); have HCp := Lib.hid (prod_ok hcan hv K1.out.nb K2.out.db); obtain ⟨np, hN⟩ : ∃ N, N = lp.length := ⟨_, rfl⟩; rw [← hN] at hlp ho ⊢; have HNp := Lib.hid hN; have HOp := Lib.hid ho; have hsp : np ≤ 60 := (by have := HCp.out.1.2; rwa [← hN] at this); clear hcan hv ho hN hb) | (replace hy0_1 := Lib.hid (hy0_0.out.alloc (.cells #[.bool false, .slice none 0 0] 32)).drew; replace hy1_1 := Lib.hid (hy1_0.out.alloc (.cells #[.bool false, .slice none 0 0] 32)).drew; replace hs_1 := Lib.hid (hs_0.out.alloc (.cells #[.bool false, .slice none 0 0] 32)).drew; replace BW_1 := Lib.hid (BW_0.out.alloc BW_0.out.size (.cells #[.bool false, .slice none 0 0] 32)).drew; have NN_1 := Lib.hid (Box.new W0 32 #[.bool false, .slice none 0 0]).drew; have szn : W0.heap.size ≤ W0.heap.size := sz_0; replace sy_1 : W0.heap.size ≤ (W0.alloc (.cells #[.bool false, .slice none 0 0] 32)).drew.heap.size := (by show W0.heap.size ≤ (W0.alloc _).heap.size; simp); (with_reducible refine (spec_mul A1 n1 c1 xs B2 m2 d2 fs _ (HH1.out.below BW_1.out).canon (HK2.out.below BW_1.out).canon K1.out.nr K2.out.dr).mono ?_); rintro e w2 ⟨lp, Ap, cp, rfl, hcan, hv, hlp, ho, hb⟩; have hy0_2 := Lib.hid (hy0_1.out.below hb hy0_1.out.lt); have hy1_2 := Lib.hid (hy1_1.out.below hb hy1_1.out.lt); have hs_2 := Lib.hid (hs_1.out.below hb hs_1.out.lt); have BW_2 := Lib.hid (BW_1.out.trans (hb.mono BW_1.out.size)); (try (have NN_2 := Lib.hid (NN_1.out.below hb NN_1.out.lt))); have sy_2 : W0.heap.size ≤ w2.heap.size := Nat.le_trans sy_1 (Nat.le_trans (by simp) hb.size); have HCp := Lib.hid (prod_ok hcan hv K1.out.nb K2.out.db); obtain ⟨np, hN⟩ : ∃ N, N = lp.length := ⟨_, rfl⟩; rw [← hN] at hlp ho ⊢; have HNp := Lib.hid hN; have HOp := Lib.hid ho; have hsp : np ≤ 60 := (by have := HCp.out.1.2; rwa [← hN] at this); clear hcan hv ho hN hb)))
      all_goals (go_wp2_with fail; go_meet; first | exact ⟨_, sa, la, _, _, _, rfl, (by first | exact szn | omega | (simp; omega)), HCa, HNa, hsa, own_base (HOa.out.alloc _) (by first | omega | (simp; omega)), Box.new _ _ _, BW_3.out.alloc BW_3.out.size _, (by simp; omega), hy0_3.out.alloc _, hy1_3.out.alloc _, hs_3.out.alloc _⟩ | exact ⟨_, sa, la, _, _, _, rfl, (by first | exact szn | omega | (simp; omega)), HCa, HNa, hsa, own_base (own_box (own_box HOa.out NN_3.out 0 _ (by decide)) (NN_3.out.set_ 0 _) 1 _ (by decide)) (by first | omega | (simp; omega)), (NN_3.out.set_ 0 _).set_ 1 _, (BW_3.out.setCell (by dsimp only; omega) _).setCell (by dsimp only; omega) _, (by simp; omega), ((hy0_3.out.far (by have := hy0_0.out.lt; dsimp only; omega) _).far (by have := hy0_0.out.lt; dsimp only; omega) _), ((hy1_3.out.far (by have := hy1_0.out.lt; dsimp only; omega) _).far (by have := hy1_0.out.lt; dsimp only; omega) _), ((hs_3.out.far (by have := hs_0.out.lt; dsimp only; omega) _).far (by have := hs_0.out.lt; dsimp only; omega) _)⟩)
    obtain ⟨ga, sa, la, Aa, na, ca, rfl, hgba, HCa, HNa, hsa, HOa_1, hxa_1, BW_1, sz_1, hy0_1, hy1_1, hs_1⟩ := hcut
    obtain ⟨wqa, rfl⟩ : ∃ q, q = wc := ⟨_, rfl⟩
    go_upto_region 5 with fail
    go_cut [7] (fun s7 wx => ∃ (gb : Nat) (s0 : Bool) (l0 : List Int) (A0 : Option Addr) (n0 c0 : Nat), s7 = .pointer (some ⟨gb, 0, none⟩) ∧ W0.heap.size ≤ gb ∧ Hid (CrossIs (bval g2 ys * val es) s0 l0) ∧ Hid (l0.length = n0) ∧ n0 ≤ 60 ∧ Hid (wx.ownsRow w.heap.size 3 1 (.slice A0 n0 c0) n0 (l0.map (.int .i64))) ∧ Hid (Box wx gb 32 #[.bool s0, .slice A0 n0 c0]) ∧ Hid (Below w.heap.size w wx) ∧ W0.heap.size ≤ wx.heap.size ∧ Hid (Box wx (w.heap.size) 34 #[.bool g1, .slice A1 n1 c1, .slice B1 m1 d1]) ∧ Hid (Box wx (w.heap.size + 1) 34 #[.bool g2, .slice A2 n2 c2, .slice B2 m2 d2]) ∧ Hid (Box wx (w.heap.size + 1 + 1) 34 #[.bool false, .slice none 0 0, .slice none 0 0]) ∧ Hid (Box wx (ga) 32 #[.bool sa, .slice Aa na ca]) ∧ Hid (wx.ownsRow w.heap.size 3 1 (.slice Aa na ca) na (la.map (.int .i64))))
    case first =>
      have hy0_2 := Lib.hid hy0_1.out.drew
      have hy1_2 := Lib.hid hy1_1.out.drew
      have hs_2 := Lib.hid hs_1.out.drew
      have hxa_2 := Lib.hid hxa_1.out.drew
      have BW_2 := Lib.hid BW_1.out.drew
      have HOa_2 := Lib.hid (own_drew HOa_1.out)
      have sy_2 : wqa.heap.size ≤ wqa.drew.heap.size := Nat.le_refl _
      have cvhy10 : Hid ((#[.bool g2, .slice A2 n2 c2, .slice B2 m2 d2] : Array Value)[0]? = some (.bool g2)) := rfl
      have cvhy11 : Hid ((#[.bool g2, .slice A2 n2 c2, .slice B2 m2 d2] : Array Value)[1]? = some (.slice A2 n2 c2)) := rfl
      have cvhy02 : Hid ((#[.bool g1, .slice A1 n1 c1, .slice B1 m1 d1] : Array Value)[2]? = some (.slice B1 m1 d1)) := rfl
      go_region_held3 (fun w' => w'.cell? ⟨w.heap.size + 1, 0, none⟩ = some (.bool g2) ∧ w'.cell? ⟨w.heap.size + 1, 1, none⟩ = some (.slice A2 n2 c2) ∧ w'.cell? ⟨w.heap.size, 2, none⟩ = some (.slice B1 m1 d1)) (first | with_reducible exact ⟨cellS hy1_4 cvhy10, cellS hy1_4 cvhy11, cellS hy0_4 cvhy02⟩ | with_reducible exact ⟨cellS (hAlloc hy1_4 _) cvhy10, cellS (hAlloc hy1_4 _) cvhy11, cellS (hAlloc hy0_4 _) cvhy02⟩ | with_reducible exact ⟨cellS (hFar (hFar hy1_4 (by have := hy1_1.out.lt; dsimp only; omega) _) (by have := hy1_1.out.lt; dsimp only; omega) _) cvhy10, cellS (hFar (hFar hy1_4 (by have := hy1_1.out.lt; dsimp only; omega) _) (by have := hy1_1.out.lt; dsimp only; omega) _) cvhy11, cellS (hFar (hFar hy0_4 (by have := hy0_1.out.lt; dsimp only; omega) _) (by have := hy0_1.out.lt; dsimp only; omega) _) cvhy02⟩ | with_reducible exact ⟨cellS hy1_3 cvhy10, cellS hy1_3 cvhy11, cellS hy0_3 cvhy02⟩ | with_reducible exact ⟨cellS (hAlloc hy1_3 _) cvhy10, cellS (hAlloc hy1_3 _) cvhy11, cellS (hAlloc hy0_3 _) cvhy02⟩ | with_reducible exact ⟨cellS hy1_2 cvhy10, cellS hy1_2 cvhy11, cellS hy0_2 cvhy02⟩ | with_reducible exact ⟨cellS (hAlloc hy1_2 _) cvhy10, cellS (hAlloc hy1_2 _) cvhy11, cellS (hAlloc hy0_2 _) cvhy02⟩ | with_reducible exact ⟨cellS (hDrew (hAlloc hy1_1 _)) cvhy10, cellS (hDrew (hAlloc hy1_1 _)) cvhy11, cellS (hDrew (hAlloc hy0_1 _)) cvhy02⟩) (first | (go_at_call 160; first | ((with_reducible refine (spec_make g2 Ap np cp lp _ HNp.out.symm (by omega) (room_own HOp.out) (Reads.of_own HOp.out) (okval_inR HCp.out)).mono ?_); rintro e w4 ⟨lb, vb, rfl, hm, ⟨hlb, ho⟩, hb⟩; have hy0_4 := Lib.hid (hy0_3.out.below hb hy0_3.out.lt); have hy1_4 := Lib.hid (hy1_3.out.below hb hy1_3.out.lt); have hs_4 := Lib.hid (hs_3.out.below hb hs_3.out.lt); have hxa_4 := Lib.hid (hxa_3.out.below hb hxa_3.out.lt); have BW_4 := Lib.hid (BW_3.out.trans (hb.mono BW_3.out.size)); have HOa_4 := Lib.hid (own_below HOa_3.out hb); replace HOp := Lib.hid (own_below HOp.out hb); (try (have NN_4 := Lib.hid (NN_3.out.below hb NN_3.out.lt))); have sy_4 : wqa.heap.size ≤ w4.heap.size := Nat.le_trans sy_3 (Nat.le_trans (by simp) hb.size); obtain ⟨sb, hsx⟩ : ∃ s, s = sgn g2 lb := ⟨_, rfl⟩; have HCb : Hid (CrossIs (bval g2 ys * val es) sb lb) := (by rw [hsx]; exact made_crossG K2.out K1.out HCp.out hm); rw [← hsx]; obtain ⟨Ab, cb, rfl⟩ := own_slice ho; obtain ⟨nb, hN⟩ : ∃ N, N = lb.length := ⟨_, rfl⟩; rw [← hN] at ho ⊢; have HNb := Lib.hid hN.symm; have HOb := Lib.hid ho; have hsb : nb ≤ 60 := (by have := HCb.out.1.1.2; rwa [← hN] at this); clear hsx hm hlb ho hN hb; (try (have eN0 := NN_4.out.cell 0; have eN1 := NN_4.out.cell 1; simp at eN0 eN1; have fN0 := NN_4.out.free 0; have fN1 := NN_4.out.free 1))) | (replace hy0_3 := Lib.hid (hy0_3.out.alloc (.cells #[.bool false, .slice none 0 0] 32)); replace hy1_3 := Lib.hid (hy1_3.out.alloc (.cells #[.bool false, .slice none 0 0] 32)); replace hs_3 := Lib.hid (hs_3.out.alloc (.cells #[.bool false, .slice none 0 0] 32)); replace hxa_3 := Lib.hid (hxa_3.out.alloc (.cells #[.bool false, .slice none 0 0] 32)); replace BW_3 := Lib.hid (BW_3.out.alloc BW_3.out.size (.cells #[.bool false, .slice none 0 0] 32)); replace HOa_3 := Lib.hid (HOa_3.out.alloc (.cells #[.bool false, .slice none 0 0] 32)); replace HOp := Lib.hid (HOp.out.alloc (.cells #[.bool false, .slice none 0 0] 32)); have NN_3 := Lib.hid (Box.new w3 32 #[.bool false, .slice none 0 0]); have szn : W0.heap.size ≤ w3.heap.size := Nat.le_trans sz_1 sy_3; (with_reducible refine (spec_make g2 Ap np cp lp _ HNp.out.symm (by omega) (room_own HOp.out) (Reads.of_own HOp.out) (okval_inR HCp.out)).mono ?_); rintro e w4 ⟨lb, vb, rfl, hm, ⟨hlb, ho⟩, hb⟩; have hy0_4 := Lib.hid (hy0_3.out.below hb hy0_3.out.lt); have hy1_4 := Lib.hid (hy1_3.out.below hb hy1_3.out.lt); have hs_4 := Lib.hid (hs_3.out.below hb hs_3.out.lt); have hxa_4 := Lib.hid (hxa_3.out.below hb hxa_3.out.lt); have BW_4 := Lib.hid (BW_3.out.trans (hb.mono BW_3.out.size)); have HOa_4 := Lib.hid (own_below HOa_3.out hb); replace HOp := Lib.hid (own_below HOp.out hb); (try (have NN_4 := Lib.hid (NN_3.out.below hb NN_3.out.lt))); have sy_4 : wqa.heap.size ≤ w4.heap.size := Nat.le_trans sy_3 (Nat.le_trans (by simp) hb.size); obtain ⟨sb, hsx⟩ : ∃ s, s = sgn g2 lb := ⟨_, rfl⟩; have HCb : Hid (CrossIs (bval g2 ys * val es) sb lb) := (by rw [hsx]; exact made_crossG K2.out K1.out HCp.out hm); rw [← hsx]; obtain ⟨Ab, cb, rfl⟩ := own_slice ho; obtain ⟨nb, hN⟩ : ∃ N, N = lb.length := ⟨_, rfl⟩; rw [← hN] at ho ⊢; have HNb := Lib.hid hN.symm; have HOb := Lib.hid ho; have hsb : nb ≤ 60 := (by have := HCb.out.1.1.2; rwa [← hN] at this); clear hsx hm hlb ho hN hb; (try (have eN0 := NN_4.out.cell 0; have eN1 := NN_4.out.cell 1; simp at eN0 eN1; have fN0 := NN_4.out.free 0; have fN1 := NN_4.out.free 1)))) | (go_at_call 161; first | ((with_reducible refine (spec_mul A2 n2 c2 ys B1 m1 d1 es _ (HH2.out.below BW_2.out).canon (HK1.out.below BW_2.out).canon K2.out.nr K1.out.dr).mono ?_); rintro e w3 ⟨lp, Ap, cp, rfl, hcan, hv, hlp, ho, hb⟩; have hy0_3 := Lib.hid (hy0_2.out.below hb hy0_2.out.lt); have hy1_3 := Lib.hid (hy1_2.out.below hb hy1_2.out.lt); have hs_3 := Lib.hid (hs_2.out.below hb hs_2.out.lt); have hxa_3 := Lib.hid (hxa_2.out.below hb hxa_2.out.lt); have BW_3 := Lib.hid (BW_2.out.trans (hb.mono BW_2.out.size)); have HOa_3 := Lib.hid (own_below HOa_2.out hb); (try (have NN_3 := Lib.hid (NN_2.out.below hb NN_2.out.lt))); have sy_3 : wqa.heap.size ≤ w3.heap.size := Nat.le_trans sy_2 (Nat.le_trans (by simp) hb.size); have HCp := Lib.hid (prod_ok hcan hv K2.out.nb K1.out.db); obtain ⟨np, hN⟩ : ∃ N, N = lp.length := ⟨_, rfl⟩; rw [← hN] at hlp ho ⊢; have HNp := Lib.hid hN; have HOp := Lib.hid ho; have hsp : np ≤ 60 := (by have := HCp.out.1.2; rwa [← hN] at this); clear hcan hv ho hN hb) | (replace hy0_2 := Lib.hid (hy0_1.out.alloc (.cells #[.bool false, .slice none 0 0] 32)).drew; replace hy1_2 := Lib.hid (hy1_1.out.alloc (.cells #[.bool false, .slice none 0 0] 32)).drew; replace hs_2 := Lib.hid (hs_1.out.alloc (.cells #[.bool false, .slice none 0 0] 32)).drew; replace hxa_2 := Lib.hid (hxa_1.out.alloc (.cells #[.bool false, .slice none 0 0] 32)).drew; replace BW_2 := Lib.hid (BW_1.out.alloc BW_1.out.size (.cells #[.bool false, .slice none 0 0] 32)).drew; replace HOa_2 := Lib.hid (own_drew (HOa_1.out.alloc (.cells #[.bool false, .slice none 0 0] 32))); have NN_2 := Lib.hid (Box.new wqa 32 #[.bool false, .slice none 0 0]).drew; have szn : W0.heap.size ≤ wqa.heap.size := sz_1; replace sy_2 : wqa.heap.size ≤ (wqa.alloc (.cells #[.bool false, .slice none 0 0] 32)).drew.heap.size := (by show wqa.heap.size ≤ (wqa.alloc _).heap.size; simp); (with_reducible refine (spec_mul A2 n2 c2 ys B1 m1 d1 es _ (HH2.out.below BW_2.out).canon (HK1.out.below BW_2.out).canon K2.out.nr K1.out.dr).mono ?_); rintro e w3 ⟨lp, Ap, cp, rfl, hcan, hv, hlp, ho, hb⟩; have hy0_3 := Lib.hid (hy0_2.out.below hb hy0_2.out.lt); have hy1_3 := Lib.hid (hy1_2.out.below hb hy1_2.out.lt); have hs_3 := Lib.hid (hs_2.out.below hb hs_2.out.lt); have hxa_3 := Lib.hid (hxa_2.out.below hb hxa_2.out.lt); have BW_3 := Lib.hid (BW_2.out.trans (hb.mono BW_2.out.size)); have HOa_3 := Lib.hid (own_below HOa_2.out hb); (try (have NN_3 := Lib.hid (NN_2.out.below hb NN_2.out.lt))); have sy_3 : wqa.heap.size ≤ w3.heap.size := Nat.le_trans sy_2 (Nat.le_trans (by simp) hb.size); have HCp := Lib.hid (prod_ok hcan hv K2.out.nb K1.out.db); obtain ⟨np, hN⟩ : ∃ N, N = lp.length := ⟨_, rfl⟩; rw [← hN] at hlp ho ⊢; have HNp := Lib.hid hN; have HOp := Lib.hid ho; have hsp : np ≤ 60 := (by have := HCp.out.1.2; rwa [← hN] at this); clear hcan hv ho hN hb)))
      all_goals (go_wp2_with fail; go_meet; first | exact ⟨_, sb, lb, _, _, _, rfl, (by first | exact szn | omega | (simp; omega)), HCb, HNb, hsb, own_base (HOb.out.alloc _) (by first | omega | (simp; omega)), Box.new _ _ _, BW_4.out.alloc BW_4.out.size _, (by simp; omega), hy0_4.out.alloc _, hy1_4.out.alloc _, hs_4.out.alloc _, hxa_4.out.alloc _, HOa_4.out.alloc _⟩ | exact ⟨_, sb, lb, _, _, _, rfl, (by first | exact szn | omega | (simp; omega)), HCb, HNb, hsb, own_base (own_box (own_box HOb.out NN_4.out 0 _ (by decide)) (NN_4.out.set_ 0 _) 1 _ (by decide)) (by first | omega | (simp; omega)), (NN_4.out.set_ 0 _).set_ 1 _, (BW_4.out.setCell (by dsimp only; omega) _).setCell (by dsimp only; omega) _, (by simp; omega), ((hy0_4.out.far (by have := hy0_1.out.lt; dsimp only; omega) _).far (by have := hy0_1.out.lt; dsimp only; omega) _), ((hy1_4.out.far (by have := hy1_1.out.lt; dsimp only; omega) _).far (by have := hy1_1.out.lt; dsimp only; omega) _), ((hs_4.out.far (by have := hs_1.out.lt; dsimp only; omega) _).far (by have := hs_1.out.lt; dsimp only; omega) _), ((hxa_4.out.far (by have := hxa_1.out.lt; dsimp only; omega) _).far (by have := hxa_1.out.lt; dsimp only; omega) _), (own_box (own_box HOa_4.out NN_4.out 0 _ (by decide)) (NN_4.out.set_ 0 _) 1 _ (by decide))⟩)
    obtain ⟨gb, sb, lb, Ab, nb, cb, rfl, hgbb, HCb, HNb, hsb, HOb_2, hxb_2, BW_2, sz_2, hy0_2, hy1_2, hs_2, hxa_2, HOa_2⟩ := hcut
    obtain ⟨wqb, rfl⟩ : ∃ q, q = wc := ⟨_, rfl⟩
    have eha0 := hxa_2.out.cell 0
    have eha1 := hxa_2.out.cell 1
    have ehb0 := hxb_2.out.cell 0
    have ehb1 := hxb_2.out.cell 1
    simp at eha0 eha1 ehb0 ehb1
    go_wp2_with fail
    clear eha0 eha1 ehb0 ehb1
    refine (spec_bigAdd sa Aa na ca la sb Ab nb cb lb _ ⟨HNa.out, by omega, Reads.of_own HOa_2.out, limbs_bd HCa.out.1.1.1.1⟩ ⟨HNb.out, by omega, Reads.of_own HOb_2.out, limbs_bd HCb.out.1.1.1.1⟩ HCa.out.1 HCb.out.1).mono ?_
    rintro e wt ⟨gc, lc, vc, rfl, hq, ⟨hlc, ho⟩, hb⟩
    have HCc := Lib.hid (sum_small HCa.out HCb.out hq)
    have szt : W0.heap.size ≤ wt.heap.size := Nat.le_trans sz_2 hb.size
    have hy0_3 := Lib.hid (hy0_2.out.below hb hy0_2.out.lt)
    have hy1_3 := Lib.hid (hy1_2.out.below hb hy1_2.out.lt)
    have hs_3 := Lib.hid (hs_2.out.below hb hs_2.out.lt)
    have BW_3 := Lib.hid (BW_2.out.trans (hb.mono BW_2.out.size))
    clear hb
    obtain ⟨Ac, cc, rfl⟩ := own_slice ho
    obtain ⟨nc, hnc⟩ : ∃ N, N = lc.length := ⟨_, rfl⟩
    rw [← hnc] at hlc ho ⊢
    have HNc := Lib.hid hnc
    have HOc := Lib.hid ho
    clear ho hnc
    have hsc : nc ≤ 60 := by have := HCc.out.1.1.2; rwa [← HNc.out] at this
    clear hq
    go_wp2_with fail
    obtain ⟨W4, hW4⟩ : ∃ W, W = wt.alloc (.cells #[.bool gc, .slice Ac nc cc] 32) := ⟨_, rfl⟩
    have hxc_4 : Hid (Box W4 wt.heap.size 32 #[.bool gc, .slice Ac nc cc]) := by rw [hW4]; exact Box.new _ _ _
    have hy0_4 : Hid (Box W4 (w.heap.size) 34 #[.bool g1, .slice A1 n1 c1, .slice B1 m1 d1]) := by rw [hW4]; exact hy0_3.out.alloc _
    have hy1_4 : Hid (Box W4 (w.heap.size + 1) 34 #[.bool g2, .slice A2 n2 c2, .slice B2 m2 d2]) := by rw [hW4]; exact hy1_3.out.alloc _
    have hs_4 : Hid (Box W4 (w.heap.size + 1 + 1) 34 #[.bool false, .slice none 0 0, .slice none 0 0]) := by rw [hW4]; exact hs_3.out.alloc _
    have BW_4 : Hid (Below w.heap.size w W4) := by rw [hW4]; exact BW_3.out.alloc BW_3.out.size _
    have HOc4 : Hid (W4.ownsRow wqb.heap.size 3 1 (.slice Ac nc cc) nc (lc.map (.int .i64))) := by rw [hW4]; exact HOc.out.alloc _
    have HOc := HOc4
    rw [← hW4]
    clear hW4
    have hxc_5 := Lib.hid hxc_4.out.drew
    have hy0_5 := Lib.hid hy0_4.out.drew
    have hy1_5 := Lib.hid hy1_4.out.drew
    have hs_5 := Lib.hid hs_4.out.drew
    have BW_5 := Lib.hid BW_4.out.drew
    replace HOc := Lib.hid (own_drew HOc.out)
    have cvhxc0 : Hid ((#[.bool gc, .slice Ac nc cc] : Array Value)[0]? = some (.bool gc)) := rfl
    have cvhxc1 : Hid ((#[.bool gc, .slice Ac nc cc] : Array Value)[1]? = some (.slice Ac nc cc)) := rfl
    have cvhy02 : Hid ((#[.bool g1, .slice A1 n1 c1, .slice B1 m1 d1] : Array Value)[2]? = some (.slice B1 m1 d1)) := rfl
    have cvhy12 : Hid ((#[.bool g2, .slice A2 n2 c2, .slice B2 m2 d2] : Array Value)[2]? = some (.slice B2 m2 d2)) := rfl
    go_region_held3 (fun w' => w'.cell? ⟨wt.heap.size, 0, none⟩ = some (.bool gc) ∧ w'.cell? ⟨wt.heap.size, 1, none⟩ = some (.slice Ac nc cc) ∧ w'.cell? ⟨w.heap.size, 2, none⟩ = some (.slice B1 m1 d1) ∧ w'.cell? ⟨w.heap.size + 1, 2, none⟩ = some (.slice B2 m2 d2)) (first | with_reducible exact ⟨cellS hxc_7 cvhxc0, cellS hxc_7 cvhxc1, cellS hy0_7 cvhy02, cellS hy1_7 cvhy12⟩ | with_reducible exact ⟨cellS (hFar (hFar (hFar hxc_7 (by dsimp only; omega) _) (by dsimp only; omega) _) (by dsimp only; omega) _) cvhxc0, cellS (hFar (hFar (hFar hxc_7 (by dsimp only; omega) _) (by dsimp only; omega) _) (by dsimp only; omega) _) cvhxc1, cellS (hFar (hFar (hFar hy0_7 (by dsimp only; omega) _) (by dsimp only; omega) _) (by dsimp only; omega) _) cvhy02, cellS (hFar (hFar (hFar hy1_7 (by dsimp only; omega) _) (by dsimp only; omega) _) (by dsimp only; omega) _) cvhy12⟩ | with_reducible exact ⟨cellS hxc_6 cvhxc0, cellS hxc_6 cvhxc1, cellS hy0_6 cvhy02, cellS hy1_6 cvhy12⟩ | with_reducible exact ⟨cellS hxc_5 cvhxc0, cellS hxc_5 cvhxc1, cellS hy0_5 cvhy02, cellS hy1_5 cvhy12⟩) (first | (go_at_call 159; refine (spec_low gc Ac nc cc lc Ae ne ce le _ ⟨HNc.out.symm, (by omega), Reads.of_own HOc.out, limbs_bd HCc.out.1.1.1.1⟩ (room_own HOc.out) ⟨HNe.out.symm, (by omega), Reads.of_own HOe.out, limbs_bd HCe.out.1.1.1⟩ (room_own HOe.out) HCc.out.1.1 HCe.out.1).mono ?_; rintro e wz ⟨s, r, v, dd, u, rfl, hq, ⟨hl1, ho1⟩, ⟨hl2, ho2⟩, hap, hb⟩; have HQ := Lib.hid (add_low_fin K1.out K2.out HCc.out HCe.out hq); have HAP := Lib.hid hap; have hszl := BW_6.out.size; have hy0_7 := Lib.hid (hy0_6.out.below hb hy0_6.out.lt); have hy1_7 := Lib.hid (hy1_6.out.below hb hy1_6.out.lt); have hs_7 := Lib.hid (hs_6.out.below hb hs_6.out.lt); have hxc_7 := Lib.hid (hxc_6.out.below hb hxc_6.out.lt); have BW_7 := Lib.hid (BW_6.out.trans (hb.mono BW_6.out.size)); clear hb; clear hq hap; obtain ⟨A9, c9, rfl⟩ := own_slice ho1; obtain ⟨B9, d9, rfl⟩ := own_slice ho2; obtain ⟨N9, hN9⟩ : ∃ N, N = r.length := ⟨_, rfl⟩; obtain ⟨M9, hM9⟩ : ∃ N, N = dd.length := ⟨_, rfl⟩; rw [← hN9] at hl1 ho1 HAP ⊢; rw [← hM9] at hl2 ho2 HAP ⊢; have HN := Lib.hid hN9.symm; have HM := Lib.hid hM9.symm; have HO := Lib.hid ho1; have HU := Lib.hid ho2; clear ho1 ho2 hN9 hM9; have ehs0 := hs_7.out.cell 0; have ehs1 := hs_7.out.cell 1; have ehs2 := hs_7.out.cell 2; have fhs0 := hs_7.out.free 0; have fhs1 := hs_7.out.free 1; have fhs2 := hs_7.out.free 2; simp at ehs0 ehs1 ehs2) | (go_at_call 161; (with_reducible refine (spec_mul B1 m1 d1 es B2 m2 d2 fs _ (HK1.out.below BW_5.out).canon (HK2.out.below BW_5.out).canon K1.out.dr K2.out.dr).mono ?_); rintro e w6 ⟨le, Ae, ce, rfl, hcan, hv, hle, ho, hb⟩; have HCe := Lib.hid (prod_ok hcan hv K1.out.db K2.out.db); have hy0_6 := Lib.hid (hy0_5.out.below hb hy0_5.out.lt); have hy1_6 := Lib.hid (hy1_5.out.below hb hy1_5.out.lt); have hs_6 := Lib.hid (hs_5.out.below hb hs_5.out.lt); have hxc_6 := Lib.hid (hxc_5.out.below hb hxc_5.out.lt); have BW_6 := Lib.hid (BW_5.out.trans (hb.mono BW_5.out.size)); replace HOc := Lib.hid (own_below HOc.out hb); clear hb; obtain ⟨ne, hN⟩ : ∃ N, N = le.length := ⟨_, rfl⟩; rw [← hN] at hle ho ⊢; have HNe := Lib.hid hN; have HOe := Lib.hid ho; have hse : ne ≤ 60 := (by have := HCe.out.1.2; rwa [← hN] at this); clear hcan hv ho hN))
    go_wp2_with fail
    refine bodyPost_ret (v := .agg #[.bool s, .slice A9 N9 c9, .slice B9 M9 d9]) (by simp [results, Tryz.results87, ehs0, ehs1, ehs2, go_sem]) rfl ?_
    exact ratEnd_store hs_7.out (by omega) BW_7.out HQ.out HN.out HM.out (by omega) (by omega) HO.out (by omega) HU.out (by omega) HAP.out
  · go_wp2_with fail
    refine (spec_one B2 m2 d2 fs false _ HB2.out HJ2.out.1 (by omega) HJ2.out.2.2.1).mono ?_
    rintro e wb ⟨rfl, rfl⟩
    clear ehy00 ehy01 ehy02 ehy10 ehy11 ehy12
    go_upto_region 4 with fail
    go_cut [6] (fun s6 wx => ∃ (gb : Nat) (s0 : Bool) (l0 : List Int) (A0 : Option Addr) (n0 c0 : Nat), s6 = .pointer (some ⟨gb, 0, none⟩) ∧ W0.heap.size ≤ gb ∧ Hid (CrossIs (bval g1 xs * val fs) s0 l0) ∧ Hid (l0.length = n0) ∧ n0 ≤ 60 ∧ Hid (wx.ownsRow w.heap.size 3 1 (.slice A0 n0 c0) n0 (l0.map (.int .i64))) ∧ Hid (Box wx gb 32 #[.bool s0, .slice A0 n0 c0]) ∧ Hid (Below w.heap.size w wx) ∧ W0.heap.size ≤ wx.heap.size ∧ Hid (Box wx (w.heap.size) 34 #[.bool g1, .slice A1 n1 c1, .slice B1 m1 d1]) ∧ Hid (Box wx (w.heap.size + 1) 34 #[.bool g2, .slice A2 n2 c2, .slice B2 m2 d2]) ∧ Hid (Box wx (w.heap.size + 1 + 1) 34 #[.bool false, .slice none 0 0, .slice none 0 0]))
    case first =>
      have hy0_1 := Lib.hid hy0_0.out.drew
      have hy1_1 := Lib.hid hy1_0.out.drew
      have hs_1 := Lib.hid hs_0.out.drew
      have BW_1 := Lib.hid BW_0.out.drew
      have sy_1 : W0.heap.size ≤ W0.drew.heap.size := Nat.le_refl _
      have cvhy00 : Hid ((#[.bool g1, .slice A1 n1 c1, .slice B1 m1 d1] : Array Value)[0]? = some (.bool g1)) := rfl
      have cvhy01 : Hid ((#[.bool g1, .slice A1 n1 c1, .slice B1 m1 d1] : Array Value)[1]? = some (.slice A1 n1 c1)) := rfl
      have cvhy12 : Hid ((#[.bool g2, .slice A2 n2 c2, .slice B2 m2 d2] : Array Value)[2]? = some (.slice B2 m2 d2)) := rfl
      go_region_held3 (fun w' => w'.cell? ⟨w.heap.size, 0, none⟩ = some (.bool g1) ∧ w'.cell? ⟨w.heap.size, 1, none⟩ = some (.slice A1 n1 c1) ∧ w'.cell? ⟨w.heap.size + 1, 2, none⟩ = some (.slice B2 m2 d2)) (first | with_reducible exact ⟨cellS hy0_3 cvhy00, cellS hy0_3 cvhy01, cellS hy1_3 cvhy12⟩ | with_reducible exact ⟨cellS (hAlloc hy0_3 _) cvhy00, cellS (hAlloc hy0_3 _) cvhy01, cellS (hAlloc hy1_3 _) cvhy12⟩ | with_reducible exact ⟨cellS (hFar (hFar hy0_3 (by have := hy0_0.out.lt; dsimp only; omega) _) (by have := hy0_0.out.lt; dsimp only; omega) _) cvhy00, cellS (hFar (hFar hy0_3 (by have := hy0_0.out.lt; dsimp only; omega) _) (by have := hy0_0.out.lt; dsimp only; omega) _) cvhy01, cellS (hFar (hFar hy1_3 (by have := hy1_0.out.lt; dsimp only; omega) _) (by have := hy1_0.out.lt; dsimp only; omega) _) cvhy12⟩ | with_reducible exact ⟨cellS hy0_2 cvhy00, cellS hy0_2 cvhy01, cellS hy1_2 cvhy12⟩ | with_reducible exact ⟨cellS (hAlloc hy0_2 _) cvhy00, cellS (hAlloc hy0_2 _) cvhy01, cellS (hAlloc hy1_2 _) cvhy12⟩ | with_reducible exact ⟨cellS hy0_1 cvhy00, cellS hy0_1 cvhy01, cellS hy1_1 cvhy12⟩ | with_reducible exact ⟨cellS (hAlloc hy0_1 _) cvhy00, cellS (hAlloc hy0_1 _) cvhy01, cellS (hAlloc hy1_1 _) cvhy12⟩ | with_reducible exact ⟨cellS (hDrew (hAlloc hy0_0 _)) cvhy00, cellS (hDrew (hAlloc hy0_0 _)) cvhy01, cellS (hDrew (hAlloc hy1_0 _)) cvhy12⟩) (first | (go_at_call 160; first | ((with_reducible refine (spec_make g1 Ap np cp lp _ HNp.out.symm (by omega) (room_own HOp.out) (Reads.of_own HOp.out) (okval_inR HCp.out)).mono ?_); rintro e w3 ⟨la, va, rfl, hm, ⟨hla, ho⟩, hb⟩; have hy0_3 := Lib.hid (hy0_2.out.below hb hy0_2.out.lt); have hy1_3 := Lib.hid (hy1_2.out.below hb hy1_2.out.lt); have hs_3 := Lib.hid (hs_2.out.below hb hs_2.out.lt); have BW_3 := Lib.hid (BW_2.out.trans (hb.mono BW_2.out.size)); replace HOp := Lib.hid (own_below HOp.out hb); (try (have NN_3 := Lib.hid (NN_2.out.below hb NN_2.out.lt))); have sy_3 : W0.heap.size ≤ w3.heap.size := Nat.le_trans sy_2 (Nat.le_trans (by simp) hb.size); obtain ⟨sa, hsx⟩ : ∃ s, s = sgn g1 la := ⟨_, rfl⟩; have HCa : Hid (CrossIs (bval g1 xs * val fs) sa la) := (by rw [hsx]; exact made_crossG K1.out K2.out HCp.out hm); rw [← hsx]; obtain ⟨Aa, ca, rfl⟩ := own_slice ho; obtain ⟨na, hN⟩ : ∃ N, N = la.length := ⟨_, rfl⟩; rw [← hN] at ho ⊢; have HNa := Lib.hid hN.symm; have HOa := Lib.hid ho; have hsa : na ≤ 60 := (by have := HCa.out.1.1.2; rwa [← hN] at this); clear hsx hm hla ho hN hb; (try (have eN0 := NN_3.out.cell 0; have eN1 := NN_3.out.cell 1; simp at eN0 eN1; have fN0 := NN_3.out.free 0; have fN1 := NN_3.out.free 1))) | (replace hy0_2 := Lib.hid (hy0_2.out.alloc (.cells #[.bool false, .slice none 0 0] 32)); replace hy1_2 := Lib.hid (hy1_2.out.alloc (.cells #[.bool false, .slice none 0 0] 32)); replace hs_2 := Lib.hid (hs_2.out.alloc (.cells #[.bool false, .slice none 0 0] 32)); replace BW_2 := Lib.hid (BW_2.out.alloc BW_2.out.size (.cells #[.bool false, .slice none 0 0] 32)); replace HOp := Lib.hid (HOp.out.alloc (.cells #[.bool false, .slice none 0 0] 32)); have NN_2 := Lib.hid (Box.new w2 32 #[.bool false, .slice none 0 0]); have szn : W0.heap.size ≤ w2.heap.size := Nat.le_trans sz_0 sy_2; (with_reducible refine (spec_make g1 Ap np cp lp _ HNp.out.symm (by omega) (room_own HOp.out) (Reads.of_own HOp.out) (okval_inR HCp.out)).mono ?_); rintro e w3 ⟨la, va, rfl, hm, ⟨hla, ho⟩, hb⟩; have hy0_3 := Lib.hid (hy0_2.out.below hb hy0_2.out.lt); have hy1_3 := Lib.hid (hy1_2.out.below hb hy1_2.out.lt); have hs_3 := Lib.hid (hs_2.out.below hb hs_2.out.lt); have BW_3 := Lib.hid (BW_2.out.trans (hb.mono BW_2.out.size)); replace HOp := Lib.hid (own_below HOp.out hb); (try (have NN_3 := Lib.hid (NN_2.out.below hb NN_2.out.lt))); have sy_3 : W0.heap.size ≤ w3.heap.size := Nat.le_trans sy_2 (Nat.le_trans (by simp) hb.size); obtain ⟨sa, hsx⟩ : ∃ s, s = sgn g1 la := ⟨_, rfl⟩; have HCa : Hid (CrossIs (bval g1 xs * val fs) sa la) := (by rw [hsx]; exact made_crossG K1.out K2.out HCp.out hm); rw [← hsx]; obtain ⟨Aa, ca, rfl⟩ := own_slice ho; obtain ⟨na, hN⟩ : ∃ N, N = la.length := ⟨_, rfl⟩; rw [← hN] at ho ⊢; have HNa := Lib.hid hN.symm; have HOa := Lib.hid ho; have hsa : na ≤ 60 := (by have := HCa.out.1.1.2; rwa [← hN] at this); clear hsx hm hla ho hN hb; (try (have eN0 := NN_3.out.cell 0; have eN1 := NN_3.out.cell 1; simp at eN0 eN1; have fN0 := NN_3.out.free 0; have fN1 := NN_3.out.free 1)))) | (go_at_call 161; first | ((with_reducible refine (spec_mul A1 n1 c1 xs B2 m2 d2 fs _ (HH1.out.below BW_1.out).canon (HK2.out.below BW_1.out).canon K1.out.nr K2.out.dr).mono ?_); rintro e w2 ⟨lp, Ap, cp, rfl, hcan, hv, hlp, ho, hb⟩; have hy0_2 := Lib.hid (hy0_1.out.below hb hy0_1.out.lt); have hy1_2 := Lib.hid (hy1_1.out.below hb hy1_1.out.lt); have hs_2 := Lib.hid (hs_1.out.below hb hs_1.out.lt); have BW_2 := Lib.hid (BW_1.out.trans (hb.mono BW_1.out.size)); (try (have NN_2 := Lib.hid (NN_1.out.below hb NN_1.out.lt))); have sy_2 : W0.heap.size ≤ w2.heap.size := Nat.le_trans sy_1 (Nat.le_trans (by simp) hb.size); have HCp := Lib.hid (prod_ok hcan hv K1.out.nb K2.out.db); obtain ⟨np, hN⟩ : ∃ N, N = lp.length := ⟨_, rfl⟩; rw [← hN] at hlp ho ⊢; have HNp := Lib.hid hN; have HOp := Lib.hid ho; have hsp : np ≤ 60 := (by have := HCp.out.1.2; rwa [← hN] at this); clear hcan hv ho hN hb) | (replace hy0_1 := Lib.hid (hy0_0.out.alloc (.cells #[.bool false, .slice none 0 0] 32)).drew; replace hy1_1 := Lib.hid (hy1_0.out.alloc (.cells #[.bool false, .slice none 0 0] 32)).drew; replace hs_1 := Lib.hid (hs_0.out.alloc (.cells #[.bool false, .slice none 0 0] 32)).drew; replace BW_1 := Lib.hid (BW_0.out.alloc BW_0.out.size (.cells #[.bool false, .slice none 0 0] 32)).drew; have NN_1 := Lib.hid (Box.new W0 32 #[.bool false, .slice none 0 0]).drew; have szn : W0.heap.size ≤ W0.heap.size := sz_0; replace sy_1 : W0.heap.size ≤ (W0.alloc (.cells #[.bool false, .slice none 0 0] 32)).drew.heap.size := (by show W0.heap.size ≤ (W0.alloc _).heap.size; simp); (with_reducible refine (spec_mul A1 n1 c1 xs B2 m2 d2 fs _ (HH1.out.below BW_1.out).canon (HK2.out.below BW_1.out).canon K1.out.nr K2.out.dr).mono ?_); rintro e w2 ⟨lp, Ap, cp, rfl, hcan, hv, hlp, ho, hb⟩; have hy0_2 := Lib.hid (hy0_1.out.below hb hy0_1.out.lt); have hy1_2 := Lib.hid (hy1_1.out.below hb hy1_1.out.lt); have hs_2 := Lib.hid (hs_1.out.below hb hs_1.out.lt); have BW_2 := Lib.hid (BW_1.out.trans (hb.mono BW_1.out.size)); (try (have NN_2 := Lib.hid (NN_1.out.below hb NN_1.out.lt))); have sy_2 : W0.heap.size ≤ w2.heap.size := Nat.le_trans sy_1 (Nat.le_trans (by simp) hb.size); have HCp := Lib.hid (prod_ok hcan hv K1.out.nb K2.out.db); obtain ⟨np, hN⟩ : ∃ N, N = lp.length := ⟨_, rfl⟩; rw [← hN] at hlp ho ⊢; have HNp := Lib.hid hN; have HOp := Lib.hid ho; have hsp : np ≤ 60 := (by have := HCp.out.1.2; rwa [← hN] at this); clear hcan hv ho hN hb)))
      all_goals (go_wp2_with fail; go_meet; first | exact ⟨_, sa, la, _, _, _, rfl, (by first | exact szn | omega | (simp; omega)), HCa, HNa, hsa, own_base (HOa.out.alloc _) (by first | omega | (simp; omega)), Box.new _ _ _, BW_3.out.alloc BW_3.out.size _, (by simp; omega), hy0_3.out.alloc _, hy1_3.out.alloc _, hs_3.out.alloc _⟩ | exact ⟨_, sa, la, _, _, _, rfl, (by first | exact szn | omega | (simp; omega)), HCa, HNa, hsa, own_base (own_box (own_box HOa.out NN_3.out 0 _ (by decide)) (NN_3.out.set_ 0 _) 1 _ (by decide)) (by first | omega | (simp; omega)), (NN_3.out.set_ 0 _).set_ 1 _, (BW_3.out.setCell (by dsimp only; omega) _).setCell (by dsimp only; omega) _, (by simp; omega), ((hy0_3.out.far (by have := hy0_0.out.lt; dsimp only; omega) _).far (by have := hy0_0.out.lt; dsimp only; omega) _), ((hy1_3.out.far (by have := hy1_0.out.lt; dsimp only; omega) _).far (by have := hy1_0.out.lt; dsimp only; omega) _), ((hs_3.out.far (by have := hs_0.out.lt; dsimp only; omega) _).far (by have := hs_0.out.lt; dsimp only; omega) _)⟩)
    obtain ⟨ga, sa, la, Aa, na, ca, rfl, hgba, HCa, HNa, hsa, HOa_1, hxa_1, BW_1, sz_1, hy0_1, hy1_1, hs_1⟩ := hcut
    obtain ⟨wqa, rfl⟩ : ∃ q, q = wc := ⟨_, rfl⟩
    go_upto_region 5 with fail
    go_cut [7] (fun s7 wx => ∃ (gb : Nat) (s0 : Bool) (l0 : List Int) (A0 : Option Addr) (n0 c0 : Nat), s7 = .pointer (some ⟨gb, 0, none⟩) ∧ W0.heap.size ≤ gb ∧ Hid (CrossIs (bval g2 ys * val es) s0 l0) ∧ Hid (l0.length = n0) ∧ n0 ≤ 60 ∧ Hid (wx.ownsRow w.heap.size 3 1 (.slice A0 n0 c0) n0 (l0.map (.int .i64))) ∧ Hid (Box wx gb 32 #[.bool s0, .slice A0 n0 c0]) ∧ Hid (Below w.heap.size w wx) ∧ W0.heap.size ≤ wx.heap.size ∧ Hid (Box wx (w.heap.size) 34 #[.bool g1, .slice A1 n1 c1, .slice B1 m1 d1]) ∧ Hid (Box wx (w.heap.size + 1) 34 #[.bool g2, .slice A2 n2 c2, .slice B2 m2 d2]) ∧ Hid (Box wx (w.heap.size + 1 + 1) 34 #[.bool false, .slice none 0 0, .slice none 0 0]) ∧ Hid (Box wx (ga) 32 #[.bool sa, .slice Aa na ca]) ∧ Hid (wx.ownsRow w.heap.size 3 1 (.slice Aa na ca) na (la.map (.int .i64))))
    case first =>
      have hy0_2 := Lib.hid hy0_1.out.drew
      have hy1_2 := Lib.hid hy1_1.out.drew
      have hs_2 := Lib.hid hs_1.out.drew
      have hxa_2 := Lib.hid hxa_1.out.drew
      have BW_2 := Lib.hid BW_1.out.drew
      have HOa_2 := Lib.hid (own_drew HOa_1.out)
      have sy_2 : wqa.heap.size ≤ wqa.drew.heap.size := Nat.le_refl _
      have cvhy10 : Hid ((#[.bool g2, .slice A2 n2 c2, .slice B2 m2 d2] : Array Value)[0]? = some (.bool g2)) := rfl
      have cvhy11 : Hid ((#[.bool g2, .slice A2 n2 c2, .slice B2 m2 d2] : Array Value)[1]? = some (.slice A2 n2 c2)) := rfl
      have cvhy02 : Hid ((#[.bool g1, .slice A1 n1 c1, .slice B1 m1 d1] : Array Value)[2]? = some (.slice B1 m1 d1)) := rfl
      go_region_held3 (fun w' => w'.cell? ⟨w.heap.size + 1, 0, none⟩ = some (.bool g2) ∧ w'.cell? ⟨w.heap.size + 1, 1, none⟩ = some (.slice A2 n2 c2) ∧ w'.cell? ⟨w.heap.size, 2, none⟩ = some (.slice B1 m1 d1)) (first | with_reducible exact ⟨cellS hy1_4 cvhy10, cellS hy1_4 cvhy11, cellS hy0_4 cvhy02⟩ | with_reducible exact ⟨cellS (hAlloc hy1_4 _) cvhy10, cellS (hAlloc hy1_4 _) cvhy11, cellS (hAlloc hy0_4 _) cvhy02⟩ | with_reducible exact ⟨cellS (hFar (hFar hy1_4 (by have := hy1_1.out.lt; dsimp only; omega) _) (by have := hy1_1.out.lt; dsimp only; omega) _) cvhy10, cellS (hFar (hFar hy1_4 (by have := hy1_1.out.lt; dsimp only; omega) _) (by have := hy1_1.out.lt; dsimp only; omega) _) cvhy11, cellS (hFar (hFar hy0_4 (by have := hy0_1.out.lt; dsimp only; omega) _) (by have := hy0_1.out.lt; dsimp only; omega) _) cvhy02⟩ | with_reducible exact ⟨cellS hy1_3 cvhy10, cellS hy1_3 cvhy11, cellS hy0_3 cvhy02⟩ | with_reducible exact ⟨cellS (hAlloc hy1_3 _) cvhy10, cellS (hAlloc hy1_3 _) cvhy11, cellS (hAlloc hy0_3 _) cvhy02⟩ | with_reducible exact ⟨cellS hy1_2 cvhy10, cellS hy1_2 cvhy11, cellS hy0_2 cvhy02⟩ | with_reducible exact ⟨cellS (hAlloc hy1_2 _) cvhy10, cellS (hAlloc hy1_2 _) cvhy11, cellS (hAlloc hy0_2 _) cvhy02⟩ | with_reducible exact ⟨cellS (hDrew (hAlloc hy1_1 _)) cvhy10, cellS (hDrew (hAlloc hy1_1 _)) cvhy11, cellS (hDrew (hAlloc hy0_1 _)) cvhy02⟩) (first | (go_at_call 160; first | ((with_reducible refine (spec_make g2 Ap np cp lp _ HNp.out.symm (by omega) (room_own HOp.out) (Reads.of_own HOp.out) (okval_inR HCp.out)).mono ?_); rintro e w4 ⟨lb, vb, rfl, hm, ⟨hlb, ho⟩, hb⟩; have hy0_4 := Lib.hid (hy0_3.out.below hb hy0_3.out.lt); have hy1_4 := Lib.hid (hy1_3.out.below hb hy1_3.out.lt); have hs_4 := Lib.hid (hs_3.out.below hb hs_3.out.lt); have hxa_4 := Lib.hid (hxa_3.out.below hb hxa_3.out.lt); have BW_4 := Lib.hid (BW_3.out.trans (hb.mono BW_3.out.size)); have HOa_4 := Lib.hid (own_below HOa_3.out hb); replace HOp := Lib.hid (own_below HOp.out hb); (try (have NN_4 := Lib.hid (NN_3.out.below hb NN_3.out.lt))); have sy_4 : wqa.heap.size ≤ w4.heap.size := Nat.le_trans sy_3 (Nat.le_trans (by simp) hb.size); obtain ⟨sb, hsx⟩ : ∃ s, s = sgn g2 lb := ⟨_, rfl⟩; have HCb : Hid (CrossIs (bval g2 ys * val es) sb lb) := (by rw [hsx]; exact made_crossG K2.out K1.out HCp.out hm); rw [← hsx]; obtain ⟨Ab, cb, rfl⟩ := own_slice ho; obtain ⟨nb, hN⟩ : ∃ N, N = lb.length := ⟨_, rfl⟩; rw [← hN] at ho ⊢; have HNb := Lib.hid hN.symm; have HOb := Lib.hid ho; have hsb : nb ≤ 60 := (by have := HCb.out.1.1.2; rwa [← hN] at this); clear hsx hm hlb ho hN hb; (try (have eN0 := NN_4.out.cell 0; have eN1 := NN_4.out.cell 1; simp at eN0 eN1; have fN0 := NN_4.out.free 0; have fN1 := NN_4.out.free 1))) | (replace hy0_3 := Lib.hid (hy0_3.out.alloc (.cells #[.bool false, .slice none 0 0] 32)); replace hy1_3 := Lib.hid (hy1_3.out.alloc (.cells #[.bool false, .slice none 0 0] 32)); replace hs_3 := Lib.hid (hs_3.out.alloc (.cells #[.bool false, .slice none 0 0] 32)); replace hxa_3 := Lib.hid (hxa_3.out.alloc (.cells #[.bool false, .slice none 0 0] 32)); replace BW_3 := Lib.hid (BW_3.out.alloc BW_3.out.size (.cells #[.bool false, .slice none 0 0] 32)); replace HOa_3 := Lib.hid (HOa_3.out.alloc (.cells #[.bool false, .slice none 0 0] 32)); replace HOp := Lib.hid (HOp.out.alloc (.cells #[.bool false, .slice none 0 0] 32)); have NN_3 := Lib.hid (Box.new w3 32 #[.bool false, .slice none 0 0]); have szn : W0.heap.size ≤ w3.heap.size := Nat.le_trans sz_1 sy_3; (with_reducible refine (spec_make g2 Ap np cp lp _ HNp.out.symm (by omega) (room_own HOp.out) (Reads.of_own HOp.out) (okval_inR HCp.out)).mono ?_); rintro e w4 ⟨lb, vb, rfl, hm, ⟨hlb, ho⟩, hb⟩; have hy0_4 := Lib.hid (hy0_3.out.below hb hy0_3.out.lt); have hy1_4 := Lib.hid (hy1_3.out.below hb hy1_3.out.lt); have hs_4 := Lib.hid (hs_3.out.below hb hs_3.out.lt); have hxa_4 := Lib.hid (hxa_3.out.below hb hxa_3.out.lt); have BW_4 := Lib.hid (BW_3.out.trans (hb.mono BW_3.out.size)); have HOa_4 := Lib.hid (own_below HOa_3.out hb); replace HOp := Lib.hid (own_below HOp.out hb); (try (have NN_4 := Lib.hid (NN_3.out.below hb NN_3.out.lt))); have sy_4 : wqa.heap.size ≤ w4.heap.size := Nat.le_trans sy_3 (Nat.le_trans (by simp) hb.size); obtain ⟨sb, hsx⟩ : ∃ s, s = sgn g2 lb := ⟨_, rfl⟩; have HCb : Hid (CrossIs (bval g2 ys * val es) sb lb) := (by rw [hsx]; exact made_crossG K2.out K1.out HCp.out hm); rw [← hsx]; obtain ⟨Ab, cb, rfl⟩ := own_slice ho; obtain ⟨nb, hN⟩ : ∃ N, N = lb.length := ⟨_, rfl⟩; rw [← hN] at ho ⊢; have HNb := Lib.hid hN.symm; have HOb := Lib.hid ho; have hsb : nb ≤ 60 := (by have := HCb.out.1.1.2; rwa [← hN] at this); clear hsx hm hlb ho hN hb; (try (have eN0 := NN_4.out.cell 0; have eN1 := NN_4.out.cell 1; simp at eN0 eN1; have fN0 := NN_4.out.free 0; have fN1 := NN_4.out.free 1)))) | (go_at_call 161; first | ((with_reducible refine (spec_mul A2 n2 c2 ys B1 m1 d1 es _ (HH2.out.below BW_2.out).canon (HK1.out.below BW_2.out).canon K2.out.nr K1.out.dr).mono ?_); rintro e w3 ⟨lp, Ap, cp, rfl, hcan, hv, hlp, ho, hb⟩; have hy0_3 := Lib.hid (hy0_2.out.below hb hy0_2.out.lt); have hy1_3 := Lib.hid (hy1_2.out.below hb hy1_2.out.lt); have hs_3 := Lib.hid (hs_2.out.below hb hs_2.out.lt); have hxa_3 := Lib.hid (hxa_2.out.below hb hxa_2.out.lt); have BW_3 := Lib.hid (BW_2.out.trans (hb.mono BW_2.out.size)); have HOa_3 := Lib.hid (own_below HOa_2.out hb); (try (have NN_3 := Lib.hid (NN_2.out.below hb NN_2.out.lt))); have sy_3 : wqa.heap.size ≤ w3.heap.size := Nat.le_trans sy_2 (Nat.le_trans (by simp) hb.size); have HCp := Lib.hid (prod_ok hcan hv K2.out.nb K1.out.db); obtain ⟨np, hN⟩ : ∃ N, N = lp.length := ⟨_, rfl⟩; rw [← hN] at hlp ho ⊢; have HNp := Lib.hid hN; have HOp := Lib.hid ho; have hsp : np ≤ 60 := (by have := HCp.out.1.2; rwa [← hN] at this); clear hcan hv ho hN hb) | (replace hy0_2 := Lib.hid (hy0_1.out.alloc (.cells #[.bool false, .slice none 0 0] 32)).drew; replace hy1_2 := Lib.hid (hy1_1.out.alloc (.cells #[.bool false, .slice none 0 0] 32)).drew; replace hs_2 := Lib.hid (hs_1.out.alloc (.cells #[.bool false, .slice none 0 0] 32)).drew; replace hxa_2 := Lib.hid (hxa_1.out.alloc (.cells #[.bool false, .slice none 0 0] 32)).drew; replace BW_2 := Lib.hid (BW_1.out.alloc BW_1.out.size (.cells #[.bool false, .slice none 0 0] 32)).drew; replace HOa_2 := Lib.hid (own_drew (HOa_1.out.alloc (.cells #[.bool false, .slice none 0 0] 32))); have NN_2 := Lib.hid (Box.new wqa 32 #[.bool false, .slice none 0 0]).drew; have szn : W0.heap.size ≤ wqa.heap.size := sz_1; replace sy_2 : wqa.heap.size ≤ (wqa.alloc (.cells #[.bool false, .slice none 0 0] 32)).drew.heap.size := (by show wqa.heap.size ≤ (wqa.alloc _).heap.size; simp); (with_reducible refine (spec_mul A2 n2 c2 ys B1 m1 d1 es _ (HH2.out.below BW_2.out).canon (HK1.out.below BW_2.out).canon K2.out.nr K1.out.dr).mono ?_); rintro e w3 ⟨lp, Ap, cp, rfl, hcan, hv, hlp, ho, hb⟩; have hy0_3 := Lib.hid (hy0_2.out.below hb hy0_2.out.lt); have hy1_3 := Lib.hid (hy1_2.out.below hb hy1_2.out.lt); have hs_3 := Lib.hid (hs_2.out.below hb hs_2.out.lt); have hxa_3 := Lib.hid (hxa_2.out.below hb hxa_2.out.lt); have BW_3 := Lib.hid (BW_2.out.trans (hb.mono BW_2.out.size)); have HOa_3 := Lib.hid (own_below HOa_2.out hb); (try (have NN_3 := Lib.hid (NN_2.out.below hb NN_2.out.lt))); have sy_3 : wqa.heap.size ≤ w3.heap.size := Nat.le_trans sy_2 (Nat.le_trans (by simp) hb.size); have HCp := Lib.hid (prod_ok hcan hv K2.out.nb K1.out.db); obtain ⟨np, hN⟩ : ∃ N, N = lp.length := ⟨_, rfl⟩; rw [← hN] at hlp ho ⊢; have HNp := Lib.hid hN; have HOp := Lib.hid ho; have hsp : np ≤ 60 := (by have := HCp.out.1.2; rwa [← hN] at this); clear hcan hv ho hN hb)))
      all_goals (go_wp2_with fail; go_meet; first | exact ⟨_, sb, lb, _, _, _, rfl, (by first | exact szn | omega | (simp; omega)), HCb, HNb, hsb, own_base (HOb.out.alloc _) (by first | omega | (simp; omega)), Box.new _ _ _, BW_4.out.alloc BW_4.out.size _, (by simp; omega), hy0_4.out.alloc _, hy1_4.out.alloc _, hs_4.out.alloc _, hxa_4.out.alloc _, HOa_4.out.alloc _⟩ | exact ⟨_, sb, lb, _, _, _, rfl, (by first | exact szn | omega | (simp; omega)), HCb, HNb, hsb, own_base (own_box (own_box HOb.out NN_4.out 0 _ (by decide)) (NN_4.out.set_ 0 _) 1 _ (by decide)) (by first | omega | (simp; omega)), (NN_4.out.set_ 0 _).set_ 1 _, (BW_4.out.setCell (by dsimp only; omega) _).setCell (by dsimp only; omega) _, (by simp; omega), ((hy0_4.out.far (by have := hy0_1.out.lt; dsimp only; omega) _).far (by have := hy0_1.out.lt; dsimp only; omega) _), ((hy1_4.out.far (by have := hy1_1.out.lt; dsimp only; omega) _).far (by have := hy1_1.out.lt; dsimp only; omega) _), ((hs_4.out.far (by have := hs_1.out.lt; dsimp only; omega) _).far (by have := hs_1.out.lt; dsimp only; omega) _), ((hxa_4.out.far (by have := hxa_1.out.lt; dsimp only; omega) _).far (by have := hxa_1.out.lt; dsimp only; omega) _), (own_box (own_box HOa_4.out NN_4.out 0 _ (by decide)) (NN_4.out.set_ 0 _) 1 _ (by decide))⟩)
    obtain ⟨gb, sb, lb, Ab, nb, cb, rfl, hgbb, HCb, HNb, hsb, HOb_2, hxb_2, BW_2, sz_2, hy0_2, hy1_2, hs_2, hxa_2, HOa_2⟩ := hcut
    obtain ⟨wqb, rfl⟩ : ∃ q, q = wc := ⟨_, rfl⟩
    have eha0 := hxa_2.out.cell 0
    have eha1 := hxa_2.out.cell 1
    have ehb0 := hxb_2.out.cell 0
    have ehb1 := hxb_2.out.cell 1
    simp at eha0 eha1 ehb0 ehb1
    go_wp2_with fail
    clear eha0 eha1 ehb0 ehb1
    refine (spec_bigAdd sa Aa na ca la sb Ab nb cb lb _ ⟨HNa.out, by omega, Reads.of_own HOa_2.out, limbs_bd HCa.out.1.1.1.1⟩ ⟨HNb.out, by omega, Reads.of_own HOb_2.out, limbs_bd HCb.out.1.1.1.1⟩ HCa.out.1 HCb.out.1).mono ?_
    rintro e wt ⟨gc, lc, vc, rfl, hq, ⟨hlc, ho⟩, hb⟩
    have HCc := Lib.hid (sum_small HCa.out HCb.out hq)
    have szt : W0.heap.size ≤ wt.heap.size := Nat.le_trans sz_2 hb.size
    have hy0_3 := Lib.hid (hy0_2.out.below hb hy0_2.out.lt)
    have hy1_3 := Lib.hid (hy1_2.out.below hb hy1_2.out.lt)
    have hs_3 := Lib.hid (hs_2.out.below hb hs_2.out.lt)
    have BW_3 := Lib.hid (BW_2.out.trans (hb.mono BW_2.out.size))
    clear hb
    obtain ⟨Ac, cc, rfl⟩ := own_slice ho
    obtain ⟨nc, hnc⟩ : ∃ N, N = lc.length := ⟨_, rfl⟩
    rw [← hnc] at hlc ho ⊢
    have HNc := Lib.hid hnc
    have HOc := Lib.hid ho
    clear ho hnc
    have hsc : nc ≤ 60 := by have := HCc.out.1.1.2; rwa [← HNc.out] at this
    clear hq
    go_wp2_with fail
    obtain ⟨W4, hW4⟩ : ∃ W, W = wt.alloc (.cells #[.bool gc, .slice Ac nc cc] 32) := ⟨_, rfl⟩
    have hxc_4 : Hid (Box W4 wt.heap.size 32 #[.bool gc, .slice Ac nc cc]) := by rw [hW4]; exact Box.new _ _ _
    have hy0_4 : Hid (Box W4 (w.heap.size) 34 #[.bool g1, .slice A1 n1 c1, .slice B1 m1 d1]) := by rw [hW4]; exact hy0_3.out.alloc _
    have hy1_4 : Hid (Box W4 (w.heap.size + 1) 34 #[.bool g2, .slice A2 n2 c2, .slice B2 m2 d2]) := by rw [hW4]; exact hy1_3.out.alloc _
    have hs_4 : Hid (Box W4 (w.heap.size + 1 + 1) 34 #[.bool false, .slice none 0 0, .slice none 0 0]) := by rw [hW4]; exact hs_3.out.alloc _
    have BW_4 : Hid (Below w.heap.size w W4) := by rw [hW4]; exact BW_3.out.alloc BW_3.out.size _
    have HOc4 : Hid (W4.ownsRow wqb.heap.size 3 1 (.slice Ac nc cc) nc (lc.map (.int .i64))) := by rw [hW4]; exact HOc.out.alloc _
    have HOc := HOc4
    rw [← hW4]
    clear hW4
    have hxc_5 := Lib.hid hxc_4.out.drew
    have hy0_5 := Lib.hid hy0_4.out.drew
    have hy1_5 := Lib.hid hy1_4.out.drew
    have hs_5 := Lib.hid hs_4.out.drew
    have BW_5 := Lib.hid BW_4.out.drew
    replace HOc := Lib.hid (own_drew HOc.out)
    have cvhxc0 : Hid ((#[.bool gc, .slice Ac nc cc] : Array Value)[0]? = some (.bool gc)) := rfl
    have cvhxc1 : Hid ((#[.bool gc, .slice Ac nc cc] : Array Value)[1]? = some (.slice Ac nc cc)) := rfl
    have cvhy02 : Hid ((#[.bool g1, .slice A1 n1 c1, .slice B1 m1 d1] : Array Value)[2]? = some (.slice B1 m1 d1)) := rfl
    have cvhy12 : Hid ((#[.bool g2, .slice A2 n2 c2, .slice B2 m2 d2] : Array Value)[2]? = some (.slice B2 m2 d2)) := rfl
    go_region_held3 (fun w' => w'.cell? ⟨wt.heap.size, 0, none⟩ = some (.bool gc) ∧ w'.cell? ⟨wt.heap.size, 1, none⟩ = some (.slice Ac nc cc) ∧ w'.cell? ⟨w.heap.size, 2, none⟩ = some (.slice B1 m1 d1) ∧ w'.cell? ⟨w.heap.size + 1, 2, none⟩ = some (.slice B2 m2 d2)) (first | with_reducible exact ⟨cellS hxc_7 cvhxc0, cellS hxc_7 cvhxc1, cellS hy0_7 cvhy02, cellS hy1_7 cvhy12⟩ | with_reducible exact ⟨cellS (hFar (hFar (hFar hxc_7 (by dsimp only; omega) _) (by dsimp only; omega) _) (by dsimp only; omega) _) cvhxc0, cellS (hFar (hFar (hFar hxc_7 (by dsimp only; omega) _) (by dsimp only; omega) _) (by dsimp only; omega) _) cvhxc1, cellS (hFar (hFar (hFar hy0_7 (by dsimp only; omega) _) (by dsimp only; omega) _) (by dsimp only; omega) _) cvhy02, cellS (hFar (hFar (hFar hy1_7 (by dsimp only; omega) _) (by dsimp only; omega) _) (by dsimp only; omega) _) cvhy12⟩ | with_reducible exact ⟨cellS hxc_6 cvhxc0, cellS hxc_6 cvhxc1, cellS hy0_6 cvhy02, cellS hy1_6 cvhy12⟩ | with_reducible exact ⟨cellS hxc_5 cvhxc0, cellS hxc_5 cvhxc1, cellS hy0_5 cvhy02, cellS hy1_5 cvhy12⟩) (first | (go_at_call 159; refine (spec_low gc Ac nc cc lc Ae ne ce le _ ⟨HNc.out.symm, (by omega), Reads.of_own HOc.out, limbs_bd HCc.out.1.1.1.1⟩ (room_own HOc.out) ⟨HNe.out.symm, (by omega), Reads.of_own HOe.out, limbs_bd HCe.out.1.1.1⟩ (room_own HOe.out) HCc.out.1.1 HCe.out.1).mono ?_; rintro e wz ⟨s, r, v, dd, u, rfl, hq, ⟨hl1, ho1⟩, ⟨hl2, ho2⟩, hap, hb⟩; have HQ := Lib.hid (add_low_fin K1.out K2.out HCc.out HCe.out hq); have HAP := Lib.hid hap; have hszl := BW_6.out.size; have hy0_7 := Lib.hid (hy0_6.out.below hb hy0_6.out.lt); have hy1_7 := Lib.hid (hy1_6.out.below hb hy1_6.out.lt); have hs_7 := Lib.hid (hs_6.out.below hb hs_6.out.lt); have hxc_7 := Lib.hid (hxc_6.out.below hb hxc_6.out.lt); have BW_7 := Lib.hid (BW_6.out.trans (hb.mono BW_6.out.size)); clear hb; clear hq hap; obtain ⟨A9, c9, rfl⟩ := own_slice ho1; obtain ⟨B9, d9, rfl⟩ := own_slice ho2; obtain ⟨N9, hN9⟩ : ∃ N, N = r.length := ⟨_, rfl⟩; obtain ⟨M9, hM9⟩ : ∃ N, N = dd.length := ⟨_, rfl⟩; rw [← hN9] at hl1 ho1 HAP ⊢; rw [← hM9] at hl2 ho2 HAP ⊢; have HN := Lib.hid hN9.symm; have HM := Lib.hid hM9.symm; have HO := Lib.hid ho1; have HU := Lib.hid ho2; clear ho1 ho2 hN9 hM9; have ehs0 := hs_7.out.cell 0; have ehs1 := hs_7.out.cell 1; have ehs2 := hs_7.out.cell 2; have fhs0 := hs_7.out.free 0; have fhs1 := hs_7.out.free 1; have fhs2 := hs_7.out.free 2; simp at ehs0 ehs1 ehs2) | (go_at_call 161; (with_reducible refine (spec_mul B1 m1 d1 es B2 m2 d2 fs _ (HK1.out.below BW_5.out).canon (HK2.out.below BW_5.out).canon K1.out.dr K2.out.dr).mono ?_); rintro e w6 ⟨le, Ae, ce, rfl, hcan, hv, hle, ho, hb⟩; have HCe := Lib.hid (prod_ok hcan hv K1.out.db K2.out.db); have hy0_6 := Lib.hid (hy0_5.out.below hb hy0_5.out.lt); have hy1_6 := Lib.hid (hy1_5.out.below hb hy1_5.out.lt); have hs_6 := Lib.hid (hs_5.out.below hb hs_5.out.lt); have hxc_6 := Lib.hid (hxc_5.out.below hb hxc_5.out.lt); have BW_6 := Lib.hid (BW_5.out.trans (hb.mono BW_5.out.size)); replace HOc := Lib.hid (own_below HOc.out hb); clear hb; obtain ⟨ne, hN⟩ : ∃ N, N = le.length := ⟨_, rfl⟩; rw [← hN] at hle ho ⊢; have HNe := Lib.hid hN; have HOe := Lib.hid ho; have hse : ne ≤ 60 := (by have := HCe.out.1.2; rwa [← hN] at this); clear hcan hv ho hN))
    go_wp2_with fail
    refine bodyPost_ret (v := .agg #[.bool s, .slice A9 N9 c9, .slice B9 M9 d9]) (by simp [results, Tryz.results87, ehs0, ehs1, ehs2, go_sem]) rfl ?_
    exact ratEnd_store hs_7.out (by omega) BW_7.out HQ.out HN.out HM.out (by omega) (by omega) HO.out (by omega) HU.out (by omega) HAP.out
theorem spec_l04Add (g1 : Bool) (A1 : Option Addr) (n1 c1 : Nat) (xs : List Int) (B1 : Option Addr) (m1 d1 : Nat) (es : List Int) (g2 : Bool) (A2 : Option Addr) (n2 c2 : Nat) (ys : List Int) (B2 : Option Addr) (m2 d2 : Nat) (fs : List Int) (w : World)
    (h1 : InI w A1 n1 xs) (r1 : Room A1 n1 c1) (k1 : InI w B1 m1 es) (s1 : Room B1 m1 d1) (h2 : InI w A2 n2 ys) (r2 : Room A2 n2 c2) (k2 : InI w B2 m2 fs) (s2 : Room B2 m2 d2) (q1 : ROk g1 xs es) (q2 : ROk g2 ys fs) :
    Calls Tryz.prog 87 #[.agg #[.bool g1, .slice A1 n1 c1, .slice B1 m1 d1], .agg #[.bool g2, .slice A2 n2 c2, .slice B2 m2 d2]] w fun e w' => RatEnd (RatAddIs g1 xs es g2 ys fs) w w' e :=
  spec_l04AddG g1 A1 n1 c1 xs B1 m1 d1 es g2 A2 n2 c2 ys B2 m2 d2 fs w h1 r1 k1 s1 h2 r2 k2 s2 (.inl q1) (.inl q2)
end Go.Proofs.YtegclofijaoajaaGreat
