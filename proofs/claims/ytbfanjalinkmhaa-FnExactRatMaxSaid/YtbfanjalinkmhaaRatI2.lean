/- Contracts of fractions: sums, differences, products, quotients, by the program. -/
import Derived.Test.YtbfanjalinkmhaaRatI
namespace Go.Proofs.Ytbfanjalinkmhaa
set_option maxRecDepth 100000
open Go.RowKit

set_option maxHeartbeats 1600000 in
theorem impl_crossed (g1 : Bool) (A1 : Option Addr) (n1 c1 : Nat) (xs : List Int) (B1 : Option Addr) (m1 d1 : Nat) (_es : List Int) (g2 : Bool) (A2 : Option Addr) (n2 c2 : Nat) (_ys : List Int) (B2 : Option Addr) (m2 d2 : Nat) (fs : List Int) (w : World)
    (h1 : InI w A1 n1 xs) (r1 : Room A1 n1 c1) (k2 : InI w B2 m2 fs) (s2 : Room B2 m2 d2) :
    Calls Try.prog 79 #[.agg #[.bool g1, .slice A1 n1 c1, .slice B1 m1 d1], .agg #[.bool g2, .slice A2 n2 c2, .slice B2 m2 d2]] w fun e w' => BigEnd (BigIntMulIs g1 xs false fs) w w' e := by
  obtain ⟨W0, hW0⟩ : ∃ W, W = (((w.alloc (.cells #[.bool g1, .slice A1 n1 c1, .slice B1 m1 d1] 31)).alloc (.cells #[.bool g2, .slice A2 n2 c2, .slice B2 m2 d2] 31)).alloc (.cells #[.bool false, .slice none 0 0] 29)) := ⟨_, rfl⟩
  have hy0_0 : Hid (Box W0 (w.heap.size) 31 #[.bool g1, .slice A1 n1 c1, .slice B1 m1 d1]) := by rw [hW0]; exact (((Box.at' (by simp)).alloc _).alloc _)
  have hy1_0 : Hid (Box W0 (w.heap.size + 1) 31 #[.bool g2, .slice A2 n2 c2, .slice B2 m2 d2]) := by rw [hW0]; exact ((Box.at' (by simp)).alloc _)
  have hr_0 : Hid (Box W0 (w.heap.size + 1 + 1) 29 #[.bool false, .slice none 0 0]) := by rw [hW0]; exact (Box.at' (by simp))
  have BW_0 : Hid (Below w.heap.size w W0) := by rw [hW0]; exact ((((Below.refl w.heap.size w).alloc (by simp) _).alloc (by simp) _).alloc (by simp; omega) _)
  have hsz0 : w.heap.size + 1 + 1 + 1 ≤ W0.heap.size := by rw [hW0]; simp
  have HI1 := Lib.hid (h1.below BW_0.out)
  have HJ2 := Lib.hid (k2.below BW_0.out)
  have R1 := Lib.hid r1
  have S2 := Lib.hid s2
  clear h1 r1 k2 s2
  go_enter Try.func79, Try.ntmps79
  go_wp2_with fail
  rw [← hW0]
  clear hW0
  refine (impl_bigIntMul' g1 A1 n1 c1 xs false B2 m2 d2 fs _ HI1.out HJ2.out R1.out S2.out).mono ?_
  rintro e w2 ⟨s0, r, v, rfl, hq, ⟨hl, ho⟩, hb⟩
  have HQ0 := Lib.hid hq
  clear hq
  obtain ⟨N, hN⟩ : ∃ N, N = r.length := ⟨_, rfl⟩
  rw [← hN] at hl ho
  obtain ⟨A1, c1, rfl⟩ := own_slice ho
  obtain ⟨e0, e1, f0, f1, hfn⟩ := tail_facts (g := w.heap.size + 1 + 1) (hr_0.out) hb (BW_0.out) (by omega) ho
  simp at e0 e1
  have HQ := Lib.hid (HQ0.out)
  obtain ⟨s, hs⟩ : ∃ s, s = s0 := ⟨_, rfl⟩
  rw [← hs] at HQ ⊢
  have HO := Lib.hid (hfn (.bool s) (.slice A1 N c1))
  have HN := Lib.hid hN
  have HL := Lib.hid hl
  clear hs ho hb hN hfn hl
  go_wp2_with fail
  refine bodyPost_ret (v := .agg #[.bool s, .slice A1 N c1]) (by simp [results, Try.results79, e0, e1, go_sem]) rfl ?_
  exact ⟨s, r, _, rfl, HQ.out, ⟨by rw [← HN.out]; exact HL.out, by rw [← HN.out]; exact HO.out.1⟩, HO.out.2⟩
def DenEnd (es fs : List Int) (w w' : World) (e : Ending) : Prop := ∃ r v, e = .returned (.agg #[.bool false, v]) ∧ NatMulIs es fs r ∧ ResI w w' v r ∧ Below w.heap.size w w'
set_option maxHeartbeats 1600000 in
theorem impl_denProduct (g1 : Bool) (A1 : Option Addr) (n1 c1 : Nat) (_xs : List Int) (B1 : Option Addr) (m1 d1 : Nat) (es : List Int) (g2 : Bool) (A2 : Option Addr) (n2 c2 : Nat) (_ys : List Int) (B2 : Option Addr) (m2 d2 : Nat) (fs : List Int) (w : World)
    (k1 : InI w B1 m1 es) (k2 : InI w B2 m2 fs) :
    Calls Try.prog 80 #[.agg #[.bool g1, .slice A1 n1 c1, .slice B1 m1 d1], .agg #[.bool g2, .slice A2 n2 c2, .slice B2 m2 d2]] w fun e w' => DenEnd es fs w w' e := by
  obtain ⟨W0, hW0⟩ : ∃ W, W = (((w.alloc (.cells #[.bool g1, .slice A1 n1 c1, .slice B1 m1 d1] 31)).alloc (.cells #[.bool g2, .slice A2 n2 c2, .slice B2 m2 d2] 31)).alloc (.cells #[.bool false, .slice none 0 0] 29)) := ⟨_, rfl⟩
  have hy0_0 : Hid (Box W0 (w.heap.size) 31 #[.bool g1, .slice A1 n1 c1, .slice B1 m1 d1]) := by rw [hW0]; exact (((Box.at' (by simp)).alloc _).alloc _)
  have hy1_0 : Hid (Box W0 (w.heap.size + 1) 31 #[.bool g2, .slice A2 n2 c2, .slice B2 m2 d2]) := by rw [hW0]; exact ((Box.at' (by simp)).alloc _)
  have hr_0 : Hid (Box W0 (w.heap.size + 1 + 1) 29 #[.bool false, .slice none 0 0]) := by rw [hW0]; exact (Box.at' (by simp))
  have BW_0 : Hid (Below w.heap.size w W0) := by rw [hW0]; exact ((((Below.refl w.heap.size w).alloc (by simp) _).alloc (by simp) _).alloc (by simp; omega) _)
  have hsz0 : w.heap.size + 1 + 1 + 1 ≤ W0.heap.size := by rw [hW0]; simp
  have HJ1 := Lib.hid (k1.below BW_0.out)
  have HJ2 := Lib.hid (k2.below BW_0.out)
  clear k1 k2
  go_enter Try.func80, Try.ntmps80
  go_wp2_with fail
  rw [← hW0]
  clear hW0
  refine (impl_natMul B1 m1 d1 es B2 m2 d2 fs _ HJ1.out HJ2.out).mono ?_
  rintro e w2 ⟨r, v, rfl, hq, ⟨hl, ho⟩, hb⟩
  obtain ⟨A9, c9, rfl⟩ := own_slice ho
  have hr_1 := Lib.hid (hr_0.out.below hb hr_0.out.lt)
  have BW_1 := Lib.hid (BW_0.out.trans (hb.mono BW_0.out.size))
  obtain ⟨N, hN⟩ : ∃ N, N = r.length := ⟨_, rfl⟩
  rw [← hN] at hl ho ⊢
  have HO := Lib.hid ho
  have HN := Lib.hid hN
  have HQ := Lib.hid hq
  have HL := Lib.hid hl
  clear hq ho hb hN hl
  have ehr0 := hr_1.out.cell 0
  have ehr1 := hr_1.out.cell 1
  have fhr0 := hr_1.out.free 0
  have fhr1 := hr_1.out.free 1
  simp at ehr0 ehr1
  go_wp2_with fail
  refine bodyPost_ret (v := .agg #[.bool false, .slice A9 N c9]) (by simp [results, Try.results80, ehr0, ehr1, go_sem]) rfl ?_
  exact ⟨r, _, rfl, HQ.out, ⟨by rw [← HN.out]; exact HL.out, by rw [← HN.out]; exact own_base (own_store2 HO.out hr_1.out (by decide) _ _) (by omega)⟩, (BW_1.out.setCell (by dsimp only; omega) _).setCell (by dsimp only; omega) _⟩
theorem add_fin {g1 g2 : Bool} {xs es ys fs : List Int} {gc : Bool} {lc le : List Int} {g : Bool} {l d : List Int} (k1 : ROk g1 xs es) (k2 : ROk g2 ys fs) (hc : BOk gc lc ∧ bval gc lc = bval g1 xs * val fs + bval g2 ys * val es) (hd : Ok le ∧ val le = val es * val fs ∧ 0 < val le) (h : RatMakeIs gc lc false le g l d) : RatAddIs g1 xs es g2 ys fs g l d := by
  unfold RatMakeIs at h
  rw [hc.2, show bval false le = val le from rfl, hd.2.1] at h
  exact rIs_prop h ⟨hc.1, hd.1, fun e => by cases e⟩ ⟨k1, k2⟩
theorem sub_fin {g1 g2 : Bool} {xs es ys fs : List Int} {gc : Bool} {lc le : List Int} {g : Bool} {l d : List Int} (k1 : ROk g1 xs es) (k2 : ROk g2 ys fs) (hc : BOk gc lc ∧ bval gc lc = bval g1 xs * val fs - bval g2 ys * val es) (hd : Ok le ∧ val le = val es * val fs ∧ 0 < val le) (h : RatMakeIs gc lc false le g l d) : RatSubIs g1 xs es g2 ys fs g l d := by
  unfold RatMakeIs at h
  rw [hc.2, show bval false le = val le from rfl, hd.2.1] at h
  exact rIs_prop h ⟨hc.1, hd.1, fun e => by cases e⟩ ⟨k1, k2⟩
theorem mul_fin {g1 g2 : Bool} {xs es ys fs : List Int} {gc : Bool} {lc le : List Int} {g : Bool} {l d : List Int} (k1 : ROk g1 xs es) (k2 : ROk g2 ys fs) (hc : CrossIs (bval g1 xs * bval g2 ys) gc lc) (hd : Ok le ∧ val le = val es * val fs ∧ 0 < val le) (h : RatMakeIs gc lc false le g l d) : RatMulIs g1 xs es g2 ys fs g l d := by
  unfold RatMakeIs at h
  rw [hc.2.1, show bval false le = val le from rfl, hd.2.1] at h
  exact rIs_prop h ⟨hc.1, hd.1, fun e => by cases e⟩ ⟨k1, k2⟩
theorem div_fin {g1 g2 : Bool} {xs es ys fs : List Int} {ga gb : Bool} {la lb : List Int} {g : Bool} {l d : List Int} (k1 : ROk g1 xs es) (k2 : ROk g2 ys fs) (ha : CrossIs (bval g1 xs * val fs) ga la) (hb : CrossIs (bval g2 ys * val es) gb lb) (h : RatMakeIs ga la gb lb g l d) : RatDivIs g1 xs es g2 ys fs g l d := by
  unfold RatMakeIs at h
  rw [ha.2.1, hb.2.1] at h
  exact rIs_prop h ⟨ha.1, hb.1⟩ ⟨k1, k2⟩
set_option maxHeartbeats 3200000 in
theorem impl_ratAdd0 (g1 : Bool) (A1 : Option Addr) (n1 c1 : Nat) (xs : List Int) (B1 : Option Addr) (m1 d1 : Nat) (es : List Int) (g2 : Bool) (A2 : Option Addr) (n2 c2 : Nat) (ys : List Int) (B2 : Option Addr) (m2 d2 : Nat) (fs : List Int) (w : World) (h1 : InI w A1 n1 xs) (r1 : Room A1 n1 c1) (k1 : InI w B1 m1 es) (s1 : Room B1 m1 d1) (h2 : InI w A2 n2 ys) (r2 : Room A2 n2 c2) (k2 : InI w B2 m2 fs) (s2 : Room B2 m2 d2) :
    Calls Try.prog 36 #[.agg #[.bool g1, .slice A1 n1 c1, .slice B1 m1 d1], .agg #[.bool g2, .slice A2 n2 c2, .slice B2 m2 d2]] w fun e w' => RatEnd (RatAddIs g1 xs es g2 ys fs) w w' e := by
  have hn1 := h1.2.1
  have hn2 := h2.2.1
  have hm1 := k1.2.1
  have hm2 := k2.2.1
  obtain ⟨W0, hW0⟩ : ∃ W, W = (((w.alloc (.cells #[.bool g1, .slice A1 n1 c1, .slice B1 m1 d1] 31)).alloc (.cells #[.bool g2, .slice A2 n2 c2, .slice B2 m2 d2] 31)).alloc (.cells #[.bool false, .slice none 0 0, .slice none 0 0] 31)) := ⟨_, rfl⟩
  have hy0_0 : Hid (Box W0 (w.heap.size) 31 #[.bool g1, .slice A1 n1 c1, .slice B1 m1 d1]) := by rw [hW0]; exact (((Box.at' (by simp)).alloc _).alloc _)
  have hy1_0 : Hid (Box W0 (w.heap.size + 1) 31 #[.bool g2, .slice A2 n2 c2, .slice B2 m2 d2]) := by rw [hW0]; exact ((Box.at' (by simp)).alloc _)
  have hs_0 : Hid (Box W0 (w.heap.size + 1 + 1) 31 #[.bool false, .slice none 0 0, .slice none 0 0]) := by rw [hW0]; exact (Box.at' (by simp))
  have BW_0 : Hid (Below w.heap.size w W0) := by rw [hW0]; exact ((((Below.refl w.heap.size w).alloc (by simp) _).alloc (by simp) _).alloc (by simp; omega) _)
  have hsz0 : w.heap.size + 1 + 1 + 1 ≤ W0.heap.size := by rw [hW0]; simp
  have HI1 := Lib.hid (h1.below BW_0.out)
  have HI2 := Lib.hid (h2.below BW_0.out)
  have HJ1 := Lib.hid (k1.below BW_0.out)
  have HJ2 := Lib.hid (k2.below BW_0.out)
  have R1 := Lib.hid r1
  have R2 := Lib.hid r2
  have S1 := Lib.hid s1
  have S2 := Lib.hid s2
  clear h1 h2 k1 k2 r1 r2 s1 s2
  go_enter Try.func36, Try.ntmps36
  go_wp2_with fail
  rw [← hW0]
  clear hW0
  refine (impl_ratOk' g1 A1 n1 c1 xs B1 m1 d1 es _ HI1.out HJ1.out).mono ?_
  rintro e wa ⟨⟨b, rfl, hi⟩, hb⟩
  have hy0_1 := Lib.hid (hy0_0.out.below hb hy0_0.out.lt)
  have hy1_1 := Lib.hid (hy1_0.out.below hb hy1_0.out.lt)
  have hs_1 := Lib.hid (hs_0.out.below hb hs_0.out.lt)
  have BW_1 := Lib.hid (BW_0.out.trans (hb.mono BW_0.out.size))
  replace HI1 := Lib.hid (HI1.out.below hb)
  replace HI2 := Lib.hid (HI2.out.below hb)
  replace HJ1 := Lib.hid (HJ1.out.below hb)
  replace HJ2 := Lib.hid (HJ2.out.below hb)
  clear hb
  have ehy00 := hy0_1.out.cell 0
  have ehy01 := hy0_1.out.cell 1
  have ehy02 := hy0_1.out.cell 2
  have ehy10 := hy1_1.out.cell 0
  have ehy11 := hy1_1.out.cell 1
  have ehy12 := hy1_1.out.cell 2
  have ehs0 := hs_1.out.cell 0
  have ehs1 := hs_1.out.cell 1
  have ehs2 := hs_1.out.cell 2
  have fhs0 := hs_1.out.free 0
  have fhs1 := hs_1.out.free 1
  have fhs2 := hs_1.out.free 2
  simp at ehy00 ehy01 ehy02 ehy10 ehy11 ehy12 ehs0 ehs1 ehs2
  cases b
  · have hno : ¬ (ROk g1 xs es ∧ ROk g2 ys fs) := fun h => by have := hi.2 h.1; cases this
    clear hi
    have HZ : Hid (RatAddIs g1 xs es g2 ys fs false [] []) := rIs_no hno
    go_wp2_with fail
    refine bodyPost_ret (v := .agg #[.bool false, .slice none 0 0, .slice none 0 0]) (by simp [results, Try.results36, ehs0, ehs1, ehs2, go_sem]) rfl ?_
    exact ratEnd_zero HZ.out (below_store3 BW_1.out (by omega) _ _ _)
  have K1 := Lib.hid (hi.1 rfl)
  clear hi
  go_wp2_with fail
  refine (impl_ratOk' g2 A2 n2 c2 ys B2 m2 d2 fs _ HI2.out HJ2.out).mono ?_
  rintro e wb ⟨⟨b, rfl, hi⟩, hb⟩
  have hy0_2 := Lib.hid (hy0_1.out.below hb hy0_1.out.lt)
  have hy1_2 := Lib.hid (hy1_1.out.below hb hy1_1.out.lt)
  have hs_2 := Lib.hid (hs_1.out.below hb hs_1.out.lt)
  have BW_2 := Lib.hid (BW_1.out.trans (hb.mono BW_1.out.size))
  replace HI1 := Lib.hid (HI1.out.below hb)
  replace HI2 := Lib.hid (HI2.out.below hb)
  replace HJ1 := Lib.hid (HJ1.out.below hb)
  replace HJ2 := Lib.hid (HJ2.out.below hb)
  clear hb
  clear ehy00 ehy01 ehy02 ehy10 ehy11 ehy12 ehs0 fhs0 ehs1 fhs1 ehs2 fhs2
  have ehy00 := hy0_2.out.cell 0
  have ehy01 := hy0_2.out.cell 1
  have ehy02 := hy0_2.out.cell 2
  have ehy10 := hy1_2.out.cell 0
  have ehy11 := hy1_2.out.cell 1
  have ehy12 := hy1_2.out.cell 2
  have ehs0 := hs_2.out.cell 0
  have ehs1 := hs_2.out.cell 1
  have ehs2 := hs_2.out.cell 2
  have fhs0 := hs_2.out.free 0
  have fhs1 := hs_2.out.free 1
  have fhs2 := hs_2.out.free 2
  simp at ehy00 ehy01 ehy02 ehy10 ehy11 ehy12 ehs0 ehs1 ehs2
  cases b
  · have hno : ¬ (ROk g1 xs es ∧ ROk g2 ys fs) := fun h => by have := hi.2 h.2; cases this
    clear hi
    have HZ : Hid (RatAddIs g1 xs es g2 ys fs false [] []) := rIs_no hno
    go_wp2_with fail
    refine bodyPost_ret (v := .agg #[.bool false, .slice none 0 0, .slice none 0 0]) (by simp [results, Try.results36, ehs0, ehs1, ehs2, go_sem]) rfl ?_
    exact ratEnd_zero HZ.out (below_store3 BW_2.out (by omega) _ _ _)
  have K2 := Lib.hid (hi.1 rfl)
  clear hi
  have hn1 : n1 ≤ 24 := by have := K1.out.2.2.2.2.1; rwa [HI1.out.1] at this
  have hn2 : n2 ≤ 24 := by have := K2.out.2.2.2.2.1; rwa [HI2.out.1] at this
  have hm1 : m1 ≤ 24 := by have := K1.out.2.2.2.2.2; rwa [HJ1.out.1] at this
  have hm2 : m2 ≤ 24 := by have := K2.out.2.2.2.2.2; rwa [HJ2.out.1] at this
  go_wp2_with fail
  clear ehy00 ehy01 ehy02 ehy10 ehy11 ehy12 ehs0 fhs0 ehs1 fhs1 ehs2 fhs2
  have hy0_3 := Lib.hid hy0_2.out.drew
  have hy1_3 := Lib.hid hy1_2.out.drew
  have hs_3 := Lib.hid hs_2.out.drew
  have BW_3 := Lib.hid BW_2.out.drew
  replace HI1 := Lib.hid HI1.out.drew
  replace HI2 := Lib.hid HI2.out.drew
  replace HJ1 := Lib.hid HJ1.out.drew
  replace HJ2 := Lib.hid HJ2.out.drew
  have cvhy00 : Hid ((#[.bool g1, .slice A1 n1 c1, .slice B1 m1 d1] : Array Value)[0]? = some (.bool g1)) := rfl
  have cvhy01 : Hid ((#[.bool g1, .slice A1 n1 c1, .slice B1 m1 d1] : Array Value)[1]? = some (.slice A1 n1 c1)) := rfl
  have cvhy02 : Hid ((#[.bool g1, .slice A1 n1 c1, .slice B1 m1 d1] : Array Value)[2]? = some (.slice B1 m1 d1)) := rfl
  have cvhy10 : Hid ((#[.bool g2, .slice A2 n2 c2, .slice B2 m2 d2] : Array Value)[0]? = some (.bool g2)) := rfl
  have cvhy11 : Hid ((#[.bool g2, .slice A2 n2 c2, .slice B2 m2 d2] : Array Value)[1]? = some (.slice A2 n2 c2)) := rfl
  have cvhy12 : Hid ((#[.bool g2, .slice A2 n2 c2, .slice B2 m2 d2] : Array Value)[2]? = some (.slice B2 m2 d2)) := rfl
  go_region_held3 (fun w' => w'.cell? ⟨w.heap.size, 0, none⟩ = some (.bool g1) ∧ w'.cell? ⟨w.heap.size, 1, none⟩ = some (.slice A1 n1 c1) ∧ w'.cell? ⟨w.heap.size, 2, none⟩ = some (.slice B1 m1 d1) ∧ w'.cell? ⟨w.heap.size + 1, 0, none⟩ = some (.bool g2) ∧ w'.cell? ⟨w.heap.size + 1, 1, none⟩ = some (.slice A2 n2 c2) ∧ w'.cell? ⟨w.heap.size + 1, 2, none⟩ = some (.slice B2 m2 d2)) (first | with_reducible exact ⟨cellS hy0_8 cvhy00, cellS hy0_8 cvhy01, cellS hy0_8 cvhy02, cellS hy1_8 cvhy10, cellS hy1_8 cvhy11, cellS hy1_8 cvhy12⟩ | with_reducible exact ⟨cellS (hFar (hFar (hFar hy0_8 (by dsimp only; omega) _) (by dsimp only; omega) _) (by dsimp only; omega) _) cvhy00, cellS (hFar (hFar (hFar hy0_8 (by dsimp only; omega) _) (by dsimp only; omega) _) (by dsimp only; omega) _) cvhy01, cellS (hFar (hFar (hFar hy0_8 (by dsimp only; omega) _) (by dsimp only; omega) _) (by dsimp only; omega) _) cvhy02, cellS (hFar (hFar (hFar hy1_8 (by dsimp only; omega) _) (by dsimp only; omega) _) (by dsimp only; omega) _) cvhy10, cellS (hFar (hFar (hFar hy1_8 (by dsimp only; omega) _) (by dsimp only; omega) _) (by dsimp only; omega) _) cvhy11, cellS (hFar (hFar (hFar hy1_8 (by dsimp only; omega) _) (by dsimp only; omega) _) (by dsimp only; omega) _) cvhy12⟩ | with_reducible exact ⟨cellS hy0_7 cvhy00, cellS hy0_7 cvhy01, cellS hy0_7 cvhy02, cellS hy1_7 cvhy10, cellS hy1_7 cvhy11, cellS hy1_7 cvhy12⟩ | with_reducible exact ⟨cellS hy0_6 cvhy00, cellS hy0_6 cvhy01, cellS hy0_6 cvhy02, cellS hy1_6 cvhy10, cellS hy1_6 cvhy11, cellS hy1_6 cvhy12⟩ | with_reducible exact ⟨cellS hy0_5 cvhy00, cellS hy0_5 cvhy01, cellS hy0_5 cvhy02, cellS hy1_5 cvhy10, cellS hy1_5 cvhy11, cellS hy1_5 cvhy12⟩ | with_reducible exact ⟨cellS hy0_4 cvhy00, cellS hy0_4 cvhy01, cellS hy0_4 cvhy02, cellS hy1_4 cvhy10, cellS hy1_4 cvhy11, cellS hy1_4 cvhy12⟩ | with_reducible exact ⟨cellS hy0_3 cvhy00, cellS hy0_3 cvhy01, cellS hy0_3 cvhy02, cellS hy1_3 cvhy10, cellS hy1_3 cvhy11, cellS hy1_3 cvhy12⟩) (first | (go_at_call 26; refine (impl_ratMake0 gc Ac nc cc lc false Ae ne ce le _ ⟨HNc.out.symm, (by omega), Reads.of_own HOc.out, limbs_bd HCc.out.1.1.1.1⟩ ⟨HNe.out.symm, (by omega), Reads.of_own HOe.out, limbs_bd HCe.out.1.1.1⟩).mono ?_; rintro e wz ⟨s, r, v, dd, u, rfl, hq, ⟨hl1, ho1⟩, ⟨hl2, ho2⟩, hap, hb⟩; have HQ := Lib.hid (add_fin K1.out K2.out HCc.out HCe.out hq); have HAP := Lib.hid hap; have hszl := BW_7.out.size; have hy0_8 := Lib.hid (hy0_7.out.below hb hy0_7.out.lt); have hy1_8 := Lib.hid (hy1_7.out.below hb hy1_7.out.lt); have hs_8 := Lib.hid (hs_7.out.below hb hs_7.out.lt); have BW_8 := Lib.hid (BW_7.out.trans (hb.mono BW_7.out.size)); clear hb; clear hq hap; obtain ⟨A9, c9, rfl⟩ := own_slice ho1; obtain ⟨B9, d9, rfl⟩ := own_slice ho2; obtain ⟨N9, hN9⟩ : ∃ N, N = r.length := ⟨_, rfl⟩; obtain ⟨M9, hM9⟩ : ∃ N, N = dd.length := ⟨_, rfl⟩; rw [← hN9] at hl1 ho1 HAP ⊢; rw [← hM9] at hl2 ho2 HAP ⊢; have HN := Lib.hid hN9.symm; have HM := Lib.hid hM9.symm; have HO := Lib.hid ho1; have HU := Lib.hid ho2; clear ho1 ho2 hN9 hM9; have ehs0 := hs_8.out.cell 0; have ehs1 := hs_8.out.cell 1; have ehs2 := hs_8.out.cell 2; have fhs0 := hs_8.out.free 0; have fhs1 := hs_8.out.free 1; have fhs2 := hs_8.out.free 2; simp at ehs0 ehs1 ehs2) | (go_at_call 80; refine (impl_denProduct g1 A1 n1 c1 xs B1 m1 d1 es g2 A2 n2 c2 ys B2 m2 d2 fs _ HJ1.out HJ2.out).mono ?_; rintro e w7 ⟨le, ve, rfl, hq, ⟨hle, ho⟩, hb⟩; have HCe := Lib.hid (dens_mk K1.out K2.out hq); have hy0_7 := Lib.hid (hy0_6.out.below hb hy0_6.out.lt); have hy1_7 := Lib.hid (hy1_6.out.below hb hy1_6.out.lt); have hs_7 := Lib.hid (hs_6.out.below hb hs_6.out.lt); have BW_7 := Lib.hid (BW_6.out.trans (hb.mono BW_6.out.size)); replace HI1 := Lib.hid (HI1.out.below hb); replace HI2 := Lib.hid (HI2.out.below hb); replace HJ1 := Lib.hid (HJ1.out.below hb); replace HJ2 := Lib.hid (HJ2.out.below hb); replace HOc := Lib.hid (own_below HOc.out hb); clear hb; obtain ⟨Ae, ce, rfl⟩ := own_slice ho; obtain ⟨ne, hne⟩ : ∃ N, N = le.length := ⟨_, rfl⟩; rw [← hne] at hle ho ⊢; have HNe := Lib.hid hne; have HOe := Lib.hid ho; clear ho hne; have hse : ne ≤ 60 := (by have := HCe.out.1.2; rwa [← HNe.out] at this); clear hq) | (go_at_call 78; refine (impl_bigIntAdd' ga Aa na ca la gb Ab nb cb lb _ ⟨HNa.out.symm, (by omega), Reads.of_own HOa.out, limbs_bd HCa.out.1.1.1.1⟩ ⟨HNb.out.symm, (by omega), Reads.of_own HOb.out, limbs_bd HCb.out.1.1.1.1⟩ (room_own HOa.out) (room_own HOb.out)).mono ?_; rintro e w6 ⟨gc, lc, vc, rfl, hq, ⟨hlc, ho⟩, hb⟩; have HCc := Lib.hid (sum_mk HCa.out HCb.out hq); have hy0_6 := Lib.hid (hy0_5.out.below hb hy0_5.out.lt); have hy1_6 := Lib.hid (hy1_5.out.below hb hy1_5.out.lt); have hs_6 := Lib.hid (hs_5.out.below hb hs_5.out.lt); have BW_6 := Lib.hid (BW_5.out.trans (hb.mono BW_5.out.size)); replace HI1 := Lib.hid (HI1.out.below hb); replace HI2 := Lib.hid (HI2.out.below hb); replace HJ1 := Lib.hid (HJ1.out.below hb); replace HJ2 := Lib.hid (HJ2.out.below hb); clear hb; obtain ⟨Ac, cc, rfl⟩ := own_slice ho; obtain ⟨nc, hnc⟩ : ∃ N, N = lc.length := ⟨_, rfl⟩; rw [← hnc] at hlc ho ⊢; have HNc := Lib.hid hnc; have HOc := Lib.hid ho; clear ho hnc; have hsc : nc ≤ 60 := (by have := HCc.out.1.1.2; rwa [← HNc.out] at this); clear hq) | (go_at_call 79; (with_reducible refine (impl_crossed g2 A2 n2 c2 ys B2 m2 d2 fs g1 A1 n1 c1 xs B1 m1 d1 es _ HI2.out R2.out HJ1.out S1.out).mono ?_); rintro e w5 ⟨gb, lb, vb, rfl, hq, ⟨hlb, ho⟩, hb⟩; have HCb := Lib.hid (cross_mk K2.out K1.out hq); have hy0_5 := Lib.hid (hy0_4.out.below hb hy0_4.out.lt); have hy1_5 := Lib.hid (hy1_4.out.below hb hy1_4.out.lt); have hs_5 := Lib.hid (hs_4.out.below hb hs_4.out.lt); have BW_5 := Lib.hid (BW_4.out.trans (hb.mono BW_4.out.size)); replace HI1 := Lib.hid (HI1.out.below hb); replace HI2 := Lib.hid (HI2.out.below hb); replace HJ1 := Lib.hid (HJ1.out.below hb); replace HJ2 := Lib.hid (HJ2.out.below hb); replace HOa := Lib.hid (own_below HOa.out hb); clear hb; obtain ⟨Ab, cb, rfl⟩ := own_slice ho; obtain ⟨nb, hnb⟩ : ∃ N, N = lb.length := ⟨_, rfl⟩; rw [← hnb] at hlb ho ⊢; have HNb := Lib.hid hnb; have HOb := Lib.hid ho; clear ho hnb; have hsb : nb ≤ 60 := (by have := HCb.out.1.1.2; rwa [← HNb.out] at this); clear hq) | (go_at_call 79; (with_reducible refine (impl_crossed g1 A1 n1 c1 xs B1 m1 d1 es g2 A2 n2 c2 ys B2 m2 d2 fs _ HI1.out R1.out HJ2.out S2.out).mono ?_); rintro e w4 ⟨ga, la, va, rfl, hq, ⟨hla, ho⟩, hb⟩; have HCa := Lib.hid (cross_mk K1.out K2.out hq); have hy0_4 := Lib.hid (hy0_3.out.below hb hy0_3.out.lt); have hy1_4 := Lib.hid (hy1_3.out.below hb hy1_3.out.lt); have hs_4 := Lib.hid (hs_3.out.below hb hs_3.out.lt); have BW_4 := Lib.hid (BW_3.out.trans (hb.mono BW_3.out.size)); replace HI1 := Lib.hid (HI1.out.below hb); replace HI2 := Lib.hid (HI2.out.below hb); replace HJ1 := Lib.hid (HJ1.out.below hb); replace HJ2 := Lib.hid (HJ2.out.below hb); clear hb; obtain ⟨Aa, ca, rfl⟩ := own_slice ho; obtain ⟨na, hna⟩ : ∃ N, N = la.length := ⟨_, rfl⟩; rw [← hna] at hla ho ⊢; have HNa := Lib.hid hna; have HOa := Lib.hid ho; clear ho hna; have hsa : na ≤ 60 := (by have := HCa.out.1.1.2; rwa [← HNa.out] at this); clear hq))
  go_wp2_with fail
  refine bodyPost_ret (v := .agg #[.bool s, .slice A9 N9 c9, .slice B9 M9 d9]) (by simp [results, Try.results36, ehs0, ehs1, ehs2, go_sem]) rfl ?_
  exact ratEnd_store hs_8.out (by omega) BW_8.out HQ.out HN.out HM.out (by omega) (by omega) HO.out (by omega) HU.out (by omega) HAP.out
theorem impl_ratAdd (g1 : Bool) (A1 : Option Addr) (n1 c1 : Nat) (xs : List Int) (B1 : Option Addr) (m1 d1 : Nat) (es : List Int) (g2 : Bool) (A2 : Option Addr) (n2 c2 : Nat) (ys : List Int) (B2 : Option Addr) (m2 d2 : Nat) (fs : List Int) (w : World) (h1 : InI w A1 n1 xs) (r1 : Room A1 n1 c1) (k1 : InI w B1 m1 es) (s1 : Room B1 m1 d1) (h2 : InI w A2 n2 ys) (r2 : Room A2 n2 c2) (k2 : InI w B2 m2 fs) (s2 : Room B2 m2 d2) :
    Calls Try.prog 36 #[.agg #[.bool g1, .slice A1 n1 c1, .slice B1 m1 d1], .agg #[.bool g2, .slice A2 n2 c2, .slice B2 m2 d2]] w fun e w' => ∃ g r v d u, e = .returned (.agg #[.bool g, v, u]) ∧ RatAddIs g1 xs es g2 ys fs g r d ∧ ResI w w' v r ∧ ResI w w' u d ∧ Apart u v ∧ Below w.heap.size w w' :=
  (impl_ratAdd0 g1 A1 n1 c1 xs B1 m1 d1 es g2 A2 n2 c2 ys B2 m2 d2 fs w h1 r1 k1 s1 h2 r2 k2 s2).mono fun _ _ h => h
set_option maxHeartbeats 3200000 in
theorem impl_ratSub0 (g1 : Bool) (A1 : Option Addr) (n1 c1 : Nat) (xs : List Int) (B1 : Option Addr) (m1 d1 : Nat) (es : List Int) (g2 : Bool) (A2 : Option Addr) (n2 c2 : Nat) (ys : List Int) (B2 : Option Addr) (m2 d2 : Nat) (fs : List Int) (w : World) (h1 : InI w A1 n1 xs) (r1 : Room A1 n1 c1) (k1 : InI w B1 m1 es) (s1 : Room B1 m1 d1) (h2 : InI w A2 n2 ys) (r2 : Room A2 n2 c2) (k2 : InI w B2 m2 fs) (s2 : Room B2 m2 d2) :
    Calls Try.prog 40 #[.agg #[.bool g1, .slice A1 n1 c1, .slice B1 m1 d1], .agg #[.bool g2, .slice A2 n2 c2, .slice B2 m2 d2]] w fun e w' => RatEnd (RatSubIs g1 xs es g2 ys fs) w w' e := by
  have hn1 := h1.2.1
  have hn2 := h2.2.1
  have hm1 := k1.2.1
  have hm2 := k2.2.1
  obtain ⟨W0, hW0⟩ : ∃ W, W = (((w.alloc (.cells #[.bool g1, .slice A1 n1 c1, .slice B1 m1 d1] 31)).alloc (.cells #[.bool g2, .slice A2 n2 c2, .slice B2 m2 d2] 31)).alloc (.cells #[.bool false, .slice none 0 0, .slice none 0 0] 31)) := ⟨_, rfl⟩
  have hy0_0 : Hid (Box W0 (w.heap.size) 31 #[.bool g1, .slice A1 n1 c1, .slice B1 m1 d1]) := by rw [hW0]; exact (((Box.at' (by simp)).alloc _).alloc _)
  have hy1_0 : Hid (Box W0 (w.heap.size + 1) 31 #[.bool g2, .slice A2 n2 c2, .slice B2 m2 d2]) := by rw [hW0]; exact ((Box.at' (by simp)).alloc _)
  have hs_0 : Hid (Box W0 (w.heap.size + 1 + 1) 31 #[.bool false, .slice none 0 0, .slice none 0 0]) := by rw [hW0]; exact (Box.at' (by simp))
  have BW_0 : Hid (Below w.heap.size w W0) := by rw [hW0]; exact ((((Below.refl w.heap.size w).alloc (by simp) _).alloc (by simp) _).alloc (by simp; omega) _)
  have hsz0 : w.heap.size + 1 + 1 + 1 ≤ W0.heap.size := by rw [hW0]; simp
  have HI1 := Lib.hid (h1.below BW_0.out)
  have HI2 := Lib.hid (h2.below BW_0.out)
  have HJ1 := Lib.hid (k1.below BW_0.out)
  have HJ2 := Lib.hid (k2.below BW_0.out)
  have R1 := Lib.hid r1
  have R2 := Lib.hid r2
  have S1 := Lib.hid s1
  have S2 := Lib.hid s2
  clear h1 h2 k1 k2 r1 r2 s1 s2
  go_enter Try.func40, Try.ntmps40
  go_wp2_with fail
  rw [← hW0]
  clear hW0
  refine (impl_ratOk' g1 A1 n1 c1 xs B1 m1 d1 es _ HI1.out HJ1.out).mono ?_
  rintro e wa ⟨⟨b, rfl, hi⟩, hb⟩
  have hy0_1 := Lib.hid (hy0_0.out.below hb hy0_0.out.lt)
  have hy1_1 := Lib.hid (hy1_0.out.below hb hy1_0.out.lt)
  have hs_1 := Lib.hid (hs_0.out.below hb hs_0.out.lt)
  have BW_1 := Lib.hid (BW_0.out.trans (hb.mono BW_0.out.size))
  replace HI1 := Lib.hid (HI1.out.below hb)
  replace HI2 := Lib.hid (HI2.out.below hb)
  replace HJ1 := Lib.hid (HJ1.out.below hb)
  replace HJ2 := Lib.hid (HJ2.out.below hb)
  clear hb
  have ehy00 := hy0_1.out.cell 0
  have ehy01 := hy0_1.out.cell 1
  have ehy02 := hy0_1.out.cell 2
  have ehy10 := hy1_1.out.cell 0
  have ehy11 := hy1_1.out.cell 1
  have ehy12 := hy1_1.out.cell 2
  have ehs0 := hs_1.out.cell 0
  have ehs1 := hs_1.out.cell 1
  have ehs2 := hs_1.out.cell 2
  have fhs0 := hs_1.out.free 0
  have fhs1 := hs_1.out.free 1
  have fhs2 := hs_1.out.free 2
  simp at ehy00 ehy01 ehy02 ehy10 ehy11 ehy12 ehs0 ehs1 ehs2
  cases b
  · have hno : ¬ (ROk g1 xs es ∧ ROk g2 ys fs) := fun h => by have := hi.2 h.1; cases this
    clear hi
    have HZ : Hid (RatSubIs g1 xs es g2 ys fs false [] []) := rIs_no hno
    go_wp2_with fail
    refine bodyPost_ret (v := .agg #[.bool false, .slice none 0 0, .slice none 0 0]) (by simp [results, Try.results40, ehs0, ehs1, ehs2, go_sem]) rfl ?_
    exact ratEnd_zero HZ.out (below_store3 BW_1.out (by omega) _ _ _)
  have K1 := Lib.hid (hi.1 rfl)
  clear hi
  go_wp2_with fail
  refine (impl_ratOk' g2 A2 n2 c2 ys B2 m2 d2 fs _ HI2.out HJ2.out).mono ?_
  rintro e wb ⟨⟨b, rfl, hi⟩, hb⟩
  have hy0_2 := Lib.hid (hy0_1.out.below hb hy0_1.out.lt)
  have hy1_2 := Lib.hid (hy1_1.out.below hb hy1_1.out.lt)
  have hs_2 := Lib.hid (hs_1.out.below hb hs_1.out.lt)
  have BW_2 := Lib.hid (BW_1.out.trans (hb.mono BW_1.out.size))
  replace HI1 := Lib.hid (HI1.out.below hb)
  replace HI2 := Lib.hid (HI2.out.below hb)
  replace HJ1 := Lib.hid (HJ1.out.below hb)
  replace HJ2 := Lib.hid (HJ2.out.below hb)
  clear hb
  clear ehy00 ehy01 ehy02 ehy10 ehy11 ehy12 ehs0 fhs0 ehs1 fhs1 ehs2 fhs2
  have ehy00 := hy0_2.out.cell 0
  have ehy01 := hy0_2.out.cell 1
  have ehy02 := hy0_2.out.cell 2
  have ehy10 := hy1_2.out.cell 0
  have ehy11 := hy1_2.out.cell 1
  have ehy12 := hy1_2.out.cell 2
  have ehs0 := hs_2.out.cell 0
  have ehs1 := hs_2.out.cell 1
  have ehs2 := hs_2.out.cell 2
  have fhs0 := hs_2.out.free 0
  have fhs1 := hs_2.out.free 1
  have fhs2 := hs_2.out.free 2
  simp at ehy00 ehy01 ehy02 ehy10 ehy11 ehy12 ehs0 ehs1 ehs2
  cases b
  · have hno : ¬ (ROk g1 xs es ∧ ROk g2 ys fs) := fun h => by have := hi.2 h.2; cases this
    clear hi
    have HZ : Hid (RatSubIs g1 xs es g2 ys fs false [] []) := rIs_no hno
    go_wp2_with fail
    refine bodyPost_ret (v := .agg #[.bool false, .slice none 0 0, .slice none 0 0]) (by simp [results, Try.results40, ehs0, ehs1, ehs2, go_sem]) rfl ?_
    exact ratEnd_zero HZ.out (below_store3 BW_2.out (by omega) _ _ _)
  have K2 := Lib.hid (hi.1 rfl)
  clear hi
  have hn1 : n1 ≤ 24 := by have := K1.out.2.2.2.2.1; rwa [HI1.out.1] at this
  have hn2 : n2 ≤ 24 := by have := K2.out.2.2.2.2.1; rwa [HI2.out.1] at this
  have hm1 : m1 ≤ 24 := by have := K1.out.2.2.2.2.2; rwa [HJ1.out.1] at this
  have hm2 : m2 ≤ 24 := by have := K2.out.2.2.2.2.2; rwa [HJ2.out.1] at this
  go_wp2_with fail
  clear ehy00 ehy01 ehy02 ehy10 ehy11 ehy12 ehs0 fhs0 ehs1 fhs1 ehs2 fhs2
  have hy0_3 := Lib.hid hy0_2.out.drew
  have hy1_3 := Lib.hid hy1_2.out.drew
  have hs_3 := Lib.hid hs_2.out.drew
  have BW_3 := Lib.hid BW_2.out.drew
  replace HI1 := Lib.hid HI1.out.drew
  replace HI2 := Lib.hid HI2.out.drew
  replace HJ1 := Lib.hid HJ1.out.drew
  replace HJ2 := Lib.hid HJ2.out.drew
  have cvhy00 : Hid ((#[.bool g1, .slice A1 n1 c1, .slice B1 m1 d1] : Array Value)[0]? = some (.bool g1)) := rfl
  have cvhy01 : Hid ((#[.bool g1, .slice A1 n1 c1, .slice B1 m1 d1] : Array Value)[1]? = some (.slice A1 n1 c1)) := rfl
  have cvhy02 : Hid ((#[.bool g1, .slice A1 n1 c1, .slice B1 m1 d1] : Array Value)[2]? = some (.slice B1 m1 d1)) := rfl
  have cvhy10 : Hid ((#[.bool g2, .slice A2 n2 c2, .slice B2 m2 d2] : Array Value)[0]? = some (.bool g2)) := rfl
  have cvhy11 : Hid ((#[.bool g2, .slice A2 n2 c2, .slice B2 m2 d2] : Array Value)[1]? = some (.slice A2 n2 c2)) := rfl
  have cvhy12 : Hid ((#[.bool g2, .slice A2 n2 c2, .slice B2 m2 d2] : Array Value)[2]? = some (.slice B2 m2 d2)) := rfl
  go_region_held3 (fun w' => w'.cell? ⟨w.heap.size, 0, none⟩ = some (.bool g1) ∧ w'.cell? ⟨w.heap.size, 1, none⟩ = some (.slice A1 n1 c1) ∧ w'.cell? ⟨w.heap.size, 2, none⟩ = some (.slice B1 m1 d1) ∧ w'.cell? ⟨w.heap.size + 1, 0, none⟩ = some (.bool g2) ∧ w'.cell? ⟨w.heap.size + 1, 1, none⟩ = some (.slice A2 n2 c2) ∧ w'.cell? ⟨w.heap.size + 1, 2, none⟩ = some (.slice B2 m2 d2)) (first | with_reducible exact ⟨cellS hy0_8 cvhy00, cellS hy0_8 cvhy01, cellS hy0_8 cvhy02, cellS hy1_8 cvhy10, cellS hy1_8 cvhy11, cellS hy1_8 cvhy12⟩ | with_reducible exact ⟨cellS (hFar (hFar (hFar hy0_8 (by dsimp only; omega) _) (by dsimp only; omega) _) (by dsimp only; omega) _) cvhy00, cellS (hFar (hFar (hFar hy0_8 (by dsimp only; omega) _) (by dsimp only; omega) _) (by dsimp only; omega) _) cvhy01, cellS (hFar (hFar (hFar hy0_8 (by dsimp only; omega) _) (by dsimp only; omega) _) (by dsimp only; omega) _) cvhy02, cellS (hFar (hFar (hFar hy1_8 (by dsimp only; omega) _) (by dsimp only; omega) _) (by dsimp only; omega) _) cvhy10, cellS (hFar (hFar (hFar hy1_8 (by dsimp only; omega) _) (by dsimp only; omega) _) (by dsimp only; omega) _) cvhy11, cellS (hFar (hFar (hFar hy1_8 (by dsimp only; omega) _) (by dsimp only; omega) _) (by dsimp only; omega) _) cvhy12⟩ | with_reducible exact ⟨cellS hy0_7 cvhy00, cellS hy0_7 cvhy01, cellS hy0_7 cvhy02, cellS hy1_7 cvhy10, cellS hy1_7 cvhy11, cellS hy1_7 cvhy12⟩ | with_reducible exact ⟨cellS hy0_6 cvhy00, cellS hy0_6 cvhy01, cellS hy0_6 cvhy02, cellS hy1_6 cvhy10, cellS hy1_6 cvhy11, cellS hy1_6 cvhy12⟩ | with_reducible exact ⟨cellS hy0_5 cvhy00, cellS hy0_5 cvhy01, cellS hy0_5 cvhy02, cellS hy1_5 cvhy10, cellS hy1_5 cvhy11, cellS hy1_5 cvhy12⟩ | with_reducible exact ⟨cellS hy0_4 cvhy00, cellS hy0_4 cvhy01, cellS hy0_4 cvhy02, cellS hy1_4 cvhy10, cellS hy1_4 cvhy11, cellS hy1_4 cvhy12⟩ | with_reducible exact ⟨cellS hy0_3 cvhy00, cellS hy0_3 cvhy01, cellS hy0_3 cvhy02, cellS hy1_3 cvhy10, cellS hy1_3 cvhy11, cellS hy1_3 cvhy12⟩) (first | (go_at_call 26; refine (impl_ratMake0 gc Ac nc cc lc false Ae ne ce le _ ⟨HNc.out.symm, (by omega), Reads.of_own HOc.out, limbs_bd HCc.out.1.1.1.1⟩ ⟨HNe.out.symm, (by omega), Reads.of_own HOe.out, limbs_bd HCe.out.1.1.1⟩).mono ?_; rintro e wz ⟨s, r, v, dd, u, rfl, hq, ⟨hl1, ho1⟩, ⟨hl2, ho2⟩, hap, hb⟩; have HQ := Lib.hid (sub_fin K1.out K2.out HCc.out HCe.out hq); have HAP := Lib.hid hap; have hszl := BW_7.out.size; have hy0_8 := Lib.hid (hy0_7.out.below hb hy0_7.out.lt); have hy1_8 := Lib.hid (hy1_7.out.below hb hy1_7.out.lt); have hs_8 := Lib.hid (hs_7.out.below hb hs_7.out.lt); have BW_8 := Lib.hid (BW_7.out.trans (hb.mono BW_7.out.size)); clear hb; clear hq hap; obtain ⟨A9, c9, rfl⟩ := own_slice ho1; obtain ⟨B9, d9, rfl⟩ := own_slice ho2; obtain ⟨N9, hN9⟩ : ∃ N, N = r.length := ⟨_, rfl⟩; obtain ⟨M9, hM9⟩ : ∃ N, N = dd.length := ⟨_, rfl⟩; rw [← hN9] at hl1 ho1 HAP ⊢; rw [← hM9] at hl2 ho2 HAP ⊢; have HN := Lib.hid hN9.symm; have HM := Lib.hid hM9.symm; have HO := Lib.hid ho1; have HU := Lib.hid ho2; clear ho1 ho2 hN9 hM9; have ehs0 := hs_8.out.cell 0; have ehs1 := hs_8.out.cell 1; have ehs2 := hs_8.out.cell 2; have fhs0 := hs_8.out.free 0; have fhs1 := hs_8.out.free 1; have fhs2 := hs_8.out.free 2; simp at ehs0 ehs1 ehs2) | (go_at_call 80; refine (impl_denProduct g1 A1 n1 c1 xs B1 m1 d1 es g2 A2 n2 c2 ys B2 m2 d2 fs _ HJ1.out HJ2.out).mono ?_; rintro e w7 ⟨le, ve, rfl, hq, ⟨hle, ho⟩, hb⟩; have HCe := Lib.hid (dens_mk K1.out K2.out hq); have hy0_7 := Lib.hid (hy0_6.out.below hb hy0_6.out.lt); have hy1_7 := Lib.hid (hy1_6.out.below hb hy1_6.out.lt); have hs_7 := Lib.hid (hs_6.out.below hb hs_6.out.lt); have BW_7 := Lib.hid (BW_6.out.trans (hb.mono BW_6.out.size)); replace HI1 := Lib.hid (HI1.out.below hb); replace HI2 := Lib.hid (HI2.out.below hb); replace HJ1 := Lib.hid (HJ1.out.below hb); replace HJ2 := Lib.hid (HJ2.out.below hb); replace HOc := Lib.hid (own_below HOc.out hb); clear hb; obtain ⟨Ae, ce, rfl⟩ := own_slice ho; obtain ⟨ne, hne⟩ : ∃ N, N = le.length := ⟨_, rfl⟩; rw [← hne] at hle ho ⊢; have HNe := Lib.hid hne; have HOe := Lib.hid ho; clear ho hne; have hse : ne ≤ 60 := (by have := HCe.out.1.2; rwa [← HNe.out] at this); clear hq) | (go_at_call 84; refine (impl_bigIntSub' ga Aa na ca la gb Ab nb cb lb _ ⟨HNa.out.symm, (by omega), Reads.of_own HOa.out, limbs_bd HCa.out.1.1.1.1⟩ ⟨HNb.out.symm, (by omega), Reads.of_own HOb.out, limbs_bd HCb.out.1.1.1.1⟩ (room_own HOa.out) (room_own HOb.out)).mono ?_; rintro e w6 ⟨gc, lc, vc, rfl, hq, ⟨hlc, ho⟩, hb⟩; have HCc := Lib.hid (diff_mk HCa.out HCb.out hq); have hy0_6 := Lib.hid (hy0_5.out.below hb hy0_5.out.lt); have hy1_6 := Lib.hid (hy1_5.out.below hb hy1_5.out.lt); have hs_6 := Lib.hid (hs_5.out.below hb hs_5.out.lt); have BW_6 := Lib.hid (BW_5.out.trans (hb.mono BW_5.out.size)); replace HI1 := Lib.hid (HI1.out.below hb); replace HI2 := Lib.hid (HI2.out.below hb); replace HJ1 := Lib.hid (HJ1.out.below hb); replace HJ2 := Lib.hid (HJ2.out.below hb); clear hb; obtain ⟨Ac, cc, rfl⟩ := own_slice ho; obtain ⟨nc, hnc⟩ : ∃ N, N = lc.length := ⟨_, rfl⟩; rw [← hnc] at hlc ho ⊢; have HNc := Lib.hid hnc; have HOc := Lib.hid ho; clear ho hnc; have hsc : nc ≤ 60 := (by have := HCc.out.1.1.2; rwa [← HNc.out] at this); clear hq) | (go_at_call 79; (with_reducible refine (impl_crossed g2 A2 n2 c2 ys B2 m2 d2 fs g1 A1 n1 c1 xs B1 m1 d1 es _ HI2.out R2.out HJ1.out S1.out).mono ?_); rintro e w5 ⟨gb, lb, vb, rfl, hq, ⟨hlb, ho⟩, hb⟩; have HCb := Lib.hid (cross_mk K2.out K1.out hq); have hy0_5 := Lib.hid (hy0_4.out.below hb hy0_4.out.lt); have hy1_5 := Lib.hid (hy1_4.out.below hb hy1_4.out.lt); have hs_5 := Lib.hid (hs_4.out.below hb hs_4.out.lt); have BW_5 := Lib.hid (BW_4.out.trans (hb.mono BW_4.out.size)); replace HI1 := Lib.hid (HI1.out.below hb); replace HI2 := Lib.hid (HI2.out.below hb); replace HJ1 := Lib.hid (HJ1.out.below hb); replace HJ2 := Lib.hid (HJ2.out.below hb); replace HOa := Lib.hid (own_below HOa.out hb); clear hb; obtain ⟨Ab, cb, rfl⟩ := own_slice ho; obtain ⟨nb, hnb⟩ : ∃ N, N = lb.length := ⟨_, rfl⟩; rw [← hnb] at hlb ho ⊢; have HNb := Lib.hid hnb; have HOb := Lib.hid ho; clear ho hnb; have hsb : nb ≤ 60 := (by have := HCb.out.1.1.2; rwa [← HNb.out] at this); clear hq) | (go_at_call 79; (with_reducible refine (impl_crossed g1 A1 n1 c1 xs B1 m1 d1 es g2 A2 n2 c2 ys B2 m2 d2 fs _ HI1.out R1.out HJ2.out S2.out).mono ?_); rintro e w4 ⟨ga, la, va, rfl, hq, ⟨hla, ho⟩, hb⟩; have HCa := Lib.hid (cross_mk K1.out K2.out hq); have hy0_4 := Lib.hid (hy0_3.out.below hb hy0_3.out.lt); have hy1_4 := Lib.hid (hy1_3.out.below hb hy1_3.out.lt); have hs_4 := Lib.hid (hs_3.out.below hb hs_3.out.lt); have BW_4 := Lib.hid (BW_3.out.trans (hb.mono BW_3.out.size)); replace HI1 := Lib.hid (HI1.out.below hb); replace HI2 := Lib.hid (HI2.out.below hb); replace HJ1 := Lib.hid (HJ1.out.below hb); replace HJ2 := Lib.hid (HJ2.out.below hb); clear hb; obtain ⟨Aa, ca, rfl⟩ := own_slice ho; obtain ⟨na, hna⟩ : ∃ N, N = la.length := ⟨_, rfl⟩; rw [← hna] at hla ho ⊢; have HNa := Lib.hid hna; have HOa := Lib.hid ho; clear ho hna; have hsa : na ≤ 60 := (by have := HCa.out.1.1.2; rwa [← HNa.out] at this); clear hq))
  go_wp2_with fail
  refine bodyPost_ret (v := .agg #[.bool s, .slice A9 N9 c9, .slice B9 M9 d9]) (by simp [results, Try.results40, ehs0, ehs1, ehs2, go_sem]) rfl ?_
  exact ratEnd_store hs_8.out (by omega) BW_8.out HQ.out HN.out HM.out (by omega) (by omega) HO.out (by omega) HU.out (by omega) HAP.out
theorem impl_ratSub (g1 : Bool) (A1 : Option Addr) (n1 c1 : Nat) (xs : List Int) (B1 : Option Addr) (m1 d1 : Nat) (es : List Int) (g2 : Bool) (A2 : Option Addr) (n2 c2 : Nat) (ys : List Int) (B2 : Option Addr) (m2 d2 : Nat) (fs : List Int) (w : World) (h1 : InI w A1 n1 xs) (r1 : Room A1 n1 c1) (k1 : InI w B1 m1 es) (s1 : Room B1 m1 d1) (h2 : InI w A2 n2 ys) (r2 : Room A2 n2 c2) (k2 : InI w B2 m2 fs) (s2 : Room B2 m2 d2) :
    Calls Try.prog 40 #[.agg #[.bool g1, .slice A1 n1 c1, .slice B1 m1 d1], .agg #[.bool g2, .slice A2 n2 c2, .slice B2 m2 d2]] w fun e w' => ∃ g r v d u, e = .returned (.agg #[.bool g, v, u]) ∧ RatSubIs g1 xs es g2 ys fs g r d ∧ ResI w w' v r ∧ ResI w w' u d ∧ Apart u v ∧ Below w.heap.size w w' :=
  (impl_ratSub0 g1 A1 n1 c1 xs B1 m1 d1 es g2 A2 n2 c2 ys B2 m2 d2 fs w h1 r1 k1 s1 h2 r2 k2 s2).mono fun _ _ h => h
set_option maxHeartbeats 3200000 in
theorem impl_ratMul0 (g1 : Bool) (A1 : Option Addr) (n1 c1 : Nat) (xs : List Int) (B1 : Option Addr) (m1 d1 : Nat) (es : List Int) (g2 : Bool) (A2 : Option Addr) (n2 c2 : Nat) (ys : List Int) (B2 : Option Addr) (m2 d2 : Nat) (fs : List Int) (w : World) (h1 : InI w A1 n1 xs) (r1 : Room A1 n1 c1) (k1 : InI w B1 m1 es) (s1 : Room B1 m1 d1) (h2 : InI w A2 n2 ys) (r2 : Room A2 n2 c2) (k2 : InI w B2 m2 fs) (s2 : Room B2 m2 d2) :
    Calls Try.prog 42 #[.agg #[.bool g1, .slice A1 n1 c1, .slice B1 m1 d1], .agg #[.bool g2, .slice A2 n2 c2, .slice B2 m2 d2]] w fun e w' => RatEnd (RatMulIs g1 xs es g2 ys fs) w w' e := by
  have hn1 := h1.2.1
  have hn2 := h2.2.1
  have hm1 := k1.2.1
  have hm2 := k2.2.1
  obtain ⟨W0, hW0⟩ : ∃ W, W = (((w.alloc (.cells #[.bool g1, .slice A1 n1 c1, .slice B1 m1 d1] 31)).alloc (.cells #[.bool g2, .slice A2 n2 c2, .slice B2 m2 d2] 31)).alloc (.cells #[.bool false, .slice none 0 0, .slice none 0 0] 31)) := ⟨_, rfl⟩
  have hy0_0 : Hid (Box W0 (w.heap.size) 31 #[.bool g1, .slice A1 n1 c1, .slice B1 m1 d1]) := by rw [hW0]; exact (((Box.at' (by simp)).alloc _).alloc _)
  have hy1_0 : Hid (Box W0 (w.heap.size + 1) 31 #[.bool g2, .slice A2 n2 c2, .slice B2 m2 d2]) := by rw [hW0]; exact ((Box.at' (by simp)).alloc _)
  have hs_0 : Hid (Box W0 (w.heap.size + 1 + 1) 31 #[.bool false, .slice none 0 0, .slice none 0 0]) := by rw [hW0]; exact (Box.at' (by simp))
  have BW_0 : Hid (Below w.heap.size w W0) := by rw [hW0]; exact ((((Below.refl w.heap.size w).alloc (by simp) _).alloc (by simp) _).alloc (by simp; omega) _)
  have hsz0 : w.heap.size + 1 + 1 + 1 ≤ W0.heap.size := by rw [hW0]; simp
  have HI1 := Lib.hid (h1.below BW_0.out)
  have HI2 := Lib.hid (h2.below BW_0.out)
  have HJ1 := Lib.hid (k1.below BW_0.out)
  have HJ2 := Lib.hid (k2.below BW_0.out)
  have R1 := Lib.hid r1
  have R2 := Lib.hid r2
  have S1 := Lib.hid s1
  have S2 := Lib.hid s2
  clear h1 h2 k1 k2 r1 r2 s1 s2
  go_enter Try.func42, Try.ntmps42
  go_wp2_with fail
  rw [← hW0]
  clear hW0
  refine (impl_ratOk' g1 A1 n1 c1 xs B1 m1 d1 es _ HI1.out HJ1.out).mono ?_
  rintro e wa ⟨⟨b, rfl, hi⟩, hb⟩
  have hy0_1 := Lib.hid (hy0_0.out.below hb hy0_0.out.lt)
  have hy1_1 := Lib.hid (hy1_0.out.below hb hy1_0.out.lt)
  have hs_1 := Lib.hid (hs_0.out.below hb hs_0.out.lt)
  have BW_1 := Lib.hid (BW_0.out.trans (hb.mono BW_0.out.size))
  replace HI1 := Lib.hid (HI1.out.below hb)
  replace HI2 := Lib.hid (HI2.out.below hb)
  replace HJ1 := Lib.hid (HJ1.out.below hb)
  replace HJ2 := Lib.hid (HJ2.out.below hb)
  clear hb
  have ehy00 := hy0_1.out.cell 0
  have ehy01 := hy0_1.out.cell 1
  have ehy02 := hy0_1.out.cell 2
  have ehy10 := hy1_1.out.cell 0
  have ehy11 := hy1_1.out.cell 1
  have ehy12 := hy1_1.out.cell 2
  have ehs0 := hs_1.out.cell 0
  have ehs1 := hs_1.out.cell 1
  have ehs2 := hs_1.out.cell 2
  have fhs0 := hs_1.out.free 0
  have fhs1 := hs_1.out.free 1
  have fhs2 := hs_1.out.free 2
  simp at ehy00 ehy01 ehy02 ehy10 ehy11 ehy12 ehs0 ehs1 ehs2
  cases b
  · have hno : ¬ (ROk g1 xs es ∧ ROk g2 ys fs) := fun h => by have := hi.2 h.1; cases this
    clear hi
    have HZ : Hid (RatMulIs g1 xs es g2 ys fs false [] []) := rIs_no hno
    go_wp2_with fail
    refine bodyPost_ret (v := .agg #[.bool false, .slice none 0 0, .slice none 0 0]) (by simp [results, Try.results42, ehs0, ehs1, ehs2, go_sem]) rfl ?_
    exact ratEnd_zero HZ.out (below_store3 BW_1.out (by omega) _ _ _)
  have K1 := Lib.hid (hi.1 rfl)
  clear hi
  go_wp2_with fail
  refine (impl_ratOk' g2 A2 n2 c2 ys B2 m2 d2 fs _ HI2.out HJ2.out).mono ?_
  rintro e wb ⟨⟨b, rfl, hi⟩, hb⟩
  have hy0_2 := Lib.hid (hy0_1.out.below hb hy0_1.out.lt)
  have hy1_2 := Lib.hid (hy1_1.out.below hb hy1_1.out.lt)
  have hs_2 := Lib.hid (hs_1.out.below hb hs_1.out.lt)
  have BW_2 := Lib.hid (BW_1.out.trans (hb.mono BW_1.out.size))
  replace HI1 := Lib.hid (HI1.out.below hb)
  replace HI2 := Lib.hid (HI2.out.below hb)
  replace HJ1 := Lib.hid (HJ1.out.below hb)
  replace HJ2 := Lib.hid (HJ2.out.below hb)
  clear hb
  clear ehy00 ehy01 ehy02 ehy10 ehy11 ehy12 ehs0 fhs0 ehs1 fhs1 ehs2 fhs2
  have ehy00 := hy0_2.out.cell 0
  have ehy01 := hy0_2.out.cell 1
  have ehy02 := hy0_2.out.cell 2
  have ehy10 := hy1_2.out.cell 0
  have ehy11 := hy1_2.out.cell 1
  have ehy12 := hy1_2.out.cell 2
  have ehs0 := hs_2.out.cell 0
  have ehs1 := hs_2.out.cell 1
  have ehs2 := hs_2.out.cell 2
  have fhs0 := hs_2.out.free 0
  have fhs1 := hs_2.out.free 1
  have fhs2 := hs_2.out.free 2
  simp at ehy00 ehy01 ehy02 ehy10 ehy11 ehy12 ehs0 ehs1 ehs2
  cases b
  · have hno : ¬ (ROk g1 xs es ∧ ROk g2 ys fs) := fun h => by have := hi.2 h.2; cases this
    clear hi
    have HZ : Hid (RatMulIs g1 xs es g2 ys fs false [] []) := rIs_no hno
    go_wp2_with fail
    refine bodyPost_ret (v := .agg #[.bool false, .slice none 0 0, .slice none 0 0]) (by simp [results, Try.results42, ehs0, ehs1, ehs2, go_sem]) rfl ?_
    exact ratEnd_zero HZ.out (below_store3 BW_2.out (by omega) _ _ _)
  have K2 := Lib.hid (hi.1 rfl)
  clear hi
  have hn1 : n1 ≤ 24 := by have := K1.out.2.2.2.2.1; rwa [HI1.out.1] at this
  have hn2 : n2 ≤ 24 := by have := K2.out.2.2.2.2.1; rwa [HI2.out.1] at this
  have hm1 : m1 ≤ 24 := by have := K1.out.2.2.2.2.2; rwa [HJ1.out.1] at this
  have hm2 : m2 ≤ 24 := by have := K2.out.2.2.2.2.2; rwa [HJ2.out.1] at this
  go_wp2_with fail
  clear ehy00 ehy01 ehy02 ehy10 ehy11 ehy12 ehs0 fhs0 ehs1 fhs1 ehs2 fhs2
  have hy0_3 := Lib.hid hy0_2.out.drew
  have hy1_3 := Lib.hid hy1_2.out.drew
  have hs_3 := Lib.hid hs_2.out.drew
  have BW_3 := Lib.hid BW_2.out.drew
  replace HI1 := Lib.hid HI1.out.drew
  replace HI2 := Lib.hid HI2.out.drew
  replace HJ1 := Lib.hid HJ1.out.drew
  replace HJ2 := Lib.hid HJ2.out.drew
  have cvhy00 : Hid ((#[.bool g1, .slice A1 n1 c1, .slice B1 m1 d1] : Array Value)[0]? = some (.bool g1)) := rfl
  have cvhy01 : Hid ((#[.bool g1, .slice A1 n1 c1, .slice B1 m1 d1] : Array Value)[1]? = some (.slice A1 n1 c1)) := rfl
  have cvhy02 : Hid ((#[.bool g1, .slice A1 n1 c1, .slice B1 m1 d1] : Array Value)[2]? = some (.slice B1 m1 d1)) := rfl
  have cvhy10 : Hid ((#[.bool g2, .slice A2 n2 c2, .slice B2 m2 d2] : Array Value)[0]? = some (.bool g2)) := rfl
  have cvhy11 : Hid ((#[.bool g2, .slice A2 n2 c2, .slice B2 m2 d2] : Array Value)[1]? = some (.slice A2 n2 c2)) := rfl
  have cvhy12 : Hid ((#[.bool g2, .slice A2 n2 c2, .slice B2 m2 d2] : Array Value)[2]? = some (.slice B2 m2 d2)) := rfl
  go_region_held3 (fun w' => w'.cell? ⟨w.heap.size, 0, none⟩ = some (.bool g1) ∧ w'.cell? ⟨w.heap.size, 1, none⟩ = some (.slice A1 n1 c1) ∧ w'.cell? ⟨w.heap.size, 2, none⟩ = some (.slice B1 m1 d1) ∧ w'.cell? ⟨w.heap.size + 1, 0, none⟩ = some (.bool g2) ∧ w'.cell? ⟨w.heap.size + 1, 1, none⟩ = some (.slice A2 n2 c2) ∧ w'.cell? ⟨w.heap.size + 1, 2, none⟩ = some (.slice B2 m2 d2)) (first | with_reducible exact ⟨cellS hy0_6 cvhy00, cellS hy0_6 cvhy01, cellS hy0_6 cvhy02, cellS hy1_6 cvhy10, cellS hy1_6 cvhy11, cellS hy1_6 cvhy12⟩ | with_reducible exact ⟨cellS (hFar (hFar (hFar hy0_6 (by dsimp only; omega) _) (by dsimp only; omega) _) (by dsimp only; omega) _) cvhy00, cellS (hFar (hFar (hFar hy0_6 (by dsimp only; omega) _) (by dsimp only; omega) _) (by dsimp only; omega) _) cvhy01, cellS (hFar (hFar (hFar hy0_6 (by dsimp only; omega) _) (by dsimp only; omega) _) (by dsimp only; omega) _) cvhy02, cellS (hFar (hFar (hFar hy1_6 (by dsimp only; omega) _) (by dsimp only; omega) _) (by dsimp only; omega) _) cvhy10, cellS (hFar (hFar (hFar hy1_6 (by dsimp only; omega) _) (by dsimp only; omega) _) (by dsimp only; omega) _) cvhy11, cellS (hFar (hFar (hFar hy1_6 (by dsimp only; omega) _) (by dsimp only; omega) _) (by dsimp only; omega) _) cvhy12⟩ | with_reducible exact ⟨cellS hy0_5 cvhy00, cellS hy0_5 cvhy01, cellS hy0_5 cvhy02, cellS hy1_5 cvhy10, cellS hy1_5 cvhy11, cellS hy1_5 cvhy12⟩ | with_reducible exact ⟨cellS hy0_4 cvhy00, cellS hy0_4 cvhy01, cellS hy0_4 cvhy02, cellS hy1_4 cvhy10, cellS hy1_4 cvhy11, cellS hy1_4 cvhy12⟩ | with_reducible exact ⟨cellS hy0_3 cvhy00, cellS hy0_3 cvhy01, cellS hy0_3 cvhy02, cellS hy1_3 cvhy10, cellS hy1_3 cvhy11, cellS hy1_3 cvhy12⟩) (first | (go_at_call 26; refine (impl_ratMake0 gc Ac nc cc lc false Ae ne ce le _ ⟨HNc.out.symm, (by omega), Reads.of_own HOc.out, limbs_bd HCc.out.1.1.1.1⟩ ⟨HNe.out.symm, (by omega), Reads.of_own HOe.out, limbs_bd HCe.out.1.1.1⟩).mono ?_; rintro e wz ⟨s, r, v, dd, u, rfl, hq, ⟨hl1, ho1⟩, ⟨hl2, ho2⟩, hap, hb⟩; have HQ := Lib.hid (mul_fin K1.out K2.out HCc.out HCe.out hq); have HAP := Lib.hid hap; have hszl := BW_5.out.size; have hy0_6 := Lib.hid (hy0_5.out.below hb hy0_5.out.lt); have hy1_6 := Lib.hid (hy1_5.out.below hb hy1_5.out.lt); have hs_6 := Lib.hid (hs_5.out.below hb hs_5.out.lt); have BW_6 := Lib.hid (BW_5.out.trans (hb.mono BW_5.out.size)); clear hb; clear hq hap; obtain ⟨A9, c9, rfl⟩ := own_slice ho1; obtain ⟨B9, d9, rfl⟩ := own_slice ho2; obtain ⟨N9, hN9⟩ : ∃ N, N = r.length := ⟨_, rfl⟩; obtain ⟨M9, hM9⟩ : ∃ N, N = dd.length := ⟨_, rfl⟩; rw [← hN9] at hl1 ho1 HAP ⊢; rw [← hM9] at hl2 ho2 HAP ⊢; have HN := Lib.hid hN9.symm; have HM := Lib.hid hM9.symm; have HO := Lib.hid ho1; have HU := Lib.hid ho2; clear ho1 ho2 hN9 hM9; have ehs0 := hs_6.out.cell 0; have ehs1 := hs_6.out.cell 1; have ehs2 := hs_6.out.cell 2; have fhs0 := hs_6.out.free 0; have fhs1 := hs_6.out.free 1; have fhs2 := hs_6.out.free 2; simp at ehs0 ehs1 ehs2) | (go_at_call 80; refine (impl_denProduct g1 A1 n1 c1 xs B1 m1 d1 es g2 A2 n2 c2 ys B2 m2 d2 fs _ HJ1.out HJ2.out).mono ?_; rintro e w5 ⟨le, ve, rfl, hq, ⟨hle, ho⟩, hb⟩; have HCe := Lib.hid (dens_mk K1.out K2.out hq); have hy0_5 := Lib.hid (hy0_4.out.below hb hy0_4.out.lt); have hy1_5 := Lib.hid (hy1_4.out.below hb hy1_4.out.lt); have hs_5 := Lib.hid (hs_4.out.below hb hs_4.out.lt); have BW_5 := Lib.hid (BW_4.out.trans (hb.mono BW_4.out.size)); replace HI1 := Lib.hid (HI1.out.below hb); replace HI2 := Lib.hid (HI2.out.below hb); replace HJ1 := Lib.hid (HJ1.out.below hb); replace HJ2 := Lib.hid (HJ2.out.below hb); replace HOc := Lib.hid (own_below HOc.out hb); clear hb; obtain ⟨Ae, ce, rfl⟩ := own_slice ho; obtain ⟨ne, hne⟩ : ∃ N, N = le.length := ⟨_, rfl⟩; rw [← hne] at hle ho ⊢; have HNe := Lib.hid hne; have HOe := Lib.hid ho; clear ho hne; have hse : ne ≤ 60 := (by have := HCe.out.1.2; rwa [← HNe.out] at this); clear hq) | (go_at_call 86; refine (impl_bigIntMul' g1 A1 n1 c1 xs g2 A2 n2 c2 ys _ HI1.out HI2.out R1.out R2.out).mono ?_; rintro e w4 ⟨gc, lc, vc, rfl, hq, ⟨hlc, ho⟩, hb⟩; have HCc := Lib.hid (nums_mk K1.out K2.out hq); have hy0_4 := Lib.hid (hy0_3.out.below hb hy0_3.out.lt); have hy1_4 := Lib.hid (hy1_3.out.below hb hy1_3.out.lt); have hs_4 := Lib.hid (hs_3.out.below hb hs_3.out.lt); have BW_4 := Lib.hid (BW_3.out.trans (hb.mono BW_3.out.size)); replace HI1 := Lib.hid (HI1.out.below hb); replace HI2 := Lib.hid (HI2.out.below hb); replace HJ1 := Lib.hid (HJ1.out.below hb); replace HJ2 := Lib.hid (HJ2.out.below hb); clear hb; obtain ⟨Ac, cc, rfl⟩ := own_slice ho; obtain ⟨nc, hnc⟩ : ∃ N, N = lc.length := ⟨_, rfl⟩; rw [← hnc] at hlc ho ⊢; have HNc := Lib.hid hnc; have HOc := Lib.hid ho; clear ho hnc; have hsc : nc ≤ 60 := (by have := HCc.out.1.1.2; rwa [← HNc.out] at this); clear hq))
  go_wp2_with fail
  refine bodyPost_ret (v := .agg #[.bool s, .slice A9 N9 c9, .slice B9 M9 d9]) (by simp [results, Try.results42, ehs0, ehs1, ehs2, go_sem]) rfl ?_
  exact ratEnd_store hs_6.out (by omega) BW_6.out HQ.out HN.out HM.out (by omega) (by omega) HO.out (by omega) HU.out (by omega) HAP.out
theorem impl_ratMul (g1 : Bool) (A1 : Option Addr) (n1 c1 : Nat) (xs : List Int) (B1 : Option Addr) (m1 d1 : Nat) (es : List Int) (g2 : Bool) (A2 : Option Addr) (n2 c2 : Nat) (ys : List Int) (B2 : Option Addr) (m2 d2 : Nat) (fs : List Int) (w : World) (h1 : InI w A1 n1 xs) (r1 : Room A1 n1 c1) (k1 : InI w B1 m1 es) (s1 : Room B1 m1 d1) (h2 : InI w A2 n2 ys) (r2 : Room A2 n2 c2) (k2 : InI w B2 m2 fs) (s2 : Room B2 m2 d2) :
    Calls Try.prog 42 #[.agg #[.bool g1, .slice A1 n1 c1, .slice B1 m1 d1], .agg #[.bool g2, .slice A2 n2 c2, .slice B2 m2 d2]] w fun e w' => ∃ g r v d u, e = .returned (.agg #[.bool g, v, u]) ∧ RatMulIs g1 xs es g2 ys fs g r d ∧ ResI w w' v r ∧ ResI w w' u d ∧ Apart u v ∧ Below w.heap.size w w' :=
  (impl_ratMul0 g1 A1 n1 c1 xs B1 m1 d1 es g2 A2 n2 c2 ys B2 m2 d2 fs w h1 r1 k1 s1 h2 r2 k2 s2).mono fun _ _ h => h
set_option maxHeartbeats 3200000 in
theorem impl_ratDiv0 (g1 : Bool) (A1 : Option Addr) (n1 c1 : Nat) (xs : List Int) (B1 : Option Addr) (m1 d1 : Nat) (es : List Int) (g2 : Bool) (A2 : Option Addr) (n2 c2 : Nat) (ys : List Int) (B2 : Option Addr) (m2 d2 : Nat) (fs : List Int) (w : World) (h1 : InI w A1 n1 xs) (r1 : Room A1 n1 c1) (k1 : InI w B1 m1 es) (s1 : Room B1 m1 d1) (h2 : InI w A2 n2 ys) (r2 : Room A2 n2 c2) (k2 : InI w B2 m2 fs) (s2 : Room B2 m2 d2) :
    Calls Try.prog 44 #[.agg #[.bool g1, .slice A1 n1 c1, .slice B1 m1 d1], .agg #[.bool g2, .slice A2 n2 c2, .slice B2 m2 d2]] w fun e w' => RatEnd (RatDivIs g1 xs es g2 ys fs) w w' e := by
  have hn1 := h1.2.1
  have hn2 := h2.2.1
  have hm1 := k1.2.1
  have hm2 := k2.2.1
  obtain ⟨W0, hW0⟩ : ∃ W, W = (((w.alloc (.cells #[.bool g1, .slice A1 n1 c1, .slice B1 m1 d1] 31)).alloc (.cells #[.bool g2, .slice A2 n2 c2, .slice B2 m2 d2] 31)).alloc (.cells #[.bool false, .slice none 0 0, .slice none 0 0] 31)) := ⟨_, rfl⟩
  have hy0_0 : Hid (Box W0 (w.heap.size) 31 #[.bool g1, .slice A1 n1 c1, .slice B1 m1 d1]) := by rw [hW0]; exact (((Box.at' (by simp)).alloc _).alloc _)
  have hy1_0 : Hid (Box W0 (w.heap.size + 1) 31 #[.bool g2, .slice A2 n2 c2, .slice B2 m2 d2]) := by rw [hW0]; exact ((Box.at' (by simp)).alloc _)
  have hs_0 : Hid (Box W0 (w.heap.size + 1 + 1) 31 #[.bool false, .slice none 0 0, .slice none 0 0]) := by rw [hW0]; exact (Box.at' (by simp))
  have BW_0 : Hid (Below w.heap.size w W0) := by rw [hW0]; exact ((((Below.refl w.heap.size w).alloc (by simp) _).alloc (by simp) _).alloc (by simp; omega) _)
  have hsz0 : w.heap.size + 1 + 1 + 1 ≤ W0.heap.size := by rw [hW0]; simp
  have HI1 := Lib.hid (h1.below BW_0.out)
  have HI2 := Lib.hid (h2.below BW_0.out)
  have HJ1 := Lib.hid (k1.below BW_0.out)
  have HJ2 := Lib.hid (k2.below BW_0.out)
  have R1 := Lib.hid r1
  have R2 := Lib.hid r2
  have S1 := Lib.hid s1
  have S2 := Lib.hid s2
  clear h1 h2 k1 k2 r1 r2 s1 s2
  go_enter Try.func44, Try.ntmps44
  go_wp2_with fail
  rw [← hW0]
  clear hW0
  refine (impl_ratOk' g1 A1 n1 c1 xs B1 m1 d1 es _ HI1.out HJ1.out).mono ?_
  rintro e wa ⟨⟨b, rfl, hi⟩, hb⟩
  have hy0_1 := Lib.hid (hy0_0.out.below hb hy0_0.out.lt)
  have hy1_1 := Lib.hid (hy1_0.out.below hb hy1_0.out.lt)
  have hs_1 := Lib.hid (hs_0.out.below hb hs_0.out.lt)
  have BW_1 := Lib.hid (BW_0.out.trans (hb.mono BW_0.out.size))
  replace HI1 := Lib.hid (HI1.out.below hb)
  replace HI2 := Lib.hid (HI2.out.below hb)
  replace HJ1 := Lib.hid (HJ1.out.below hb)
  replace HJ2 := Lib.hid (HJ2.out.below hb)
  clear hb
  have ehy00 := hy0_1.out.cell 0
  have ehy01 := hy0_1.out.cell 1
  have ehy02 := hy0_1.out.cell 2
  have ehy10 := hy1_1.out.cell 0
  have ehy11 := hy1_1.out.cell 1
  have ehy12 := hy1_1.out.cell 2
  have ehs0 := hs_1.out.cell 0
  have ehs1 := hs_1.out.cell 1
  have ehs2 := hs_1.out.cell 2
  have fhs0 := hs_1.out.free 0
  have fhs1 := hs_1.out.free 1
  have fhs2 := hs_1.out.free 2
  simp at ehy00 ehy01 ehy02 ehy10 ehy11 ehy12 ehs0 ehs1 ehs2
  cases b
  · have hno : ¬ (ROk g1 xs es ∧ ROk g2 ys fs) := fun h => by have := hi.2 h.1; cases this
    clear hi
    have HZ : Hid (RatDivIs g1 xs es g2 ys fs false [] []) := rIs_no hno
    go_wp2_with fail
    refine bodyPost_ret (v := .agg #[.bool false, .slice none 0 0, .slice none 0 0]) (by simp [results, Try.results44, ehs0, ehs1, ehs2, go_sem]) rfl ?_
    exact ratEnd_zero HZ.out (below_store3 BW_1.out (by omega) _ _ _)
  have K1 := Lib.hid (hi.1 rfl)
  clear hi
  go_wp2_with fail
  refine (impl_ratOk' g2 A2 n2 c2 ys B2 m2 d2 fs _ HI2.out HJ2.out).mono ?_
  rintro e wb ⟨⟨b, rfl, hi⟩, hb⟩
  have hy0_2 := Lib.hid (hy0_1.out.below hb hy0_1.out.lt)
  have hy1_2 := Lib.hid (hy1_1.out.below hb hy1_1.out.lt)
  have hs_2 := Lib.hid (hs_1.out.below hb hs_1.out.lt)
  have BW_2 := Lib.hid (BW_1.out.trans (hb.mono BW_1.out.size))
  replace HI1 := Lib.hid (HI1.out.below hb)
  replace HI2 := Lib.hid (HI2.out.below hb)
  replace HJ1 := Lib.hid (HJ1.out.below hb)
  replace HJ2 := Lib.hid (HJ2.out.below hb)
  clear hb
  clear ehy00 ehy01 ehy02 ehy10 ehy11 ehy12 ehs0 fhs0 ehs1 fhs1 ehs2 fhs2
  have ehy00 := hy0_2.out.cell 0
  have ehy01 := hy0_2.out.cell 1
  have ehy02 := hy0_2.out.cell 2
  have ehy10 := hy1_2.out.cell 0
  have ehy11 := hy1_2.out.cell 1
  have ehy12 := hy1_2.out.cell 2
  have ehs0 := hs_2.out.cell 0
  have ehs1 := hs_2.out.cell 1
  have ehs2 := hs_2.out.cell 2
  have fhs0 := hs_2.out.free 0
  have fhs1 := hs_2.out.free 1
  have fhs2 := hs_2.out.free 2
  simp at ehy00 ehy01 ehy02 ehy10 ehy11 ehy12 ehs0 ehs1 ehs2
  cases b
  · have hno : ¬ (ROk g1 xs es ∧ ROk g2 ys fs) := fun h => by have := hi.2 h.2; cases this
    clear hi
    have HZ : Hid (RatDivIs g1 xs es g2 ys fs false [] []) := rIs_no hno
    go_wp2_with fail
    refine bodyPost_ret (v := .agg #[.bool false, .slice none 0 0, .slice none 0 0]) (by simp [results, Try.results44, ehs0, ehs1, ehs2, go_sem]) rfl ?_
    exact ratEnd_zero HZ.out (below_store3 BW_2.out (by omega) _ _ _)
  have K2 := Lib.hid (hi.1 rfl)
  clear hi
  have hn1 : n1 ≤ 24 := by have := K1.out.2.2.2.2.1; rwa [HI1.out.1] at this
  have hn2 : n2 ≤ 24 := by have := K2.out.2.2.2.2.1; rwa [HI2.out.1] at this
  have hm1 : m1 ≤ 24 := by have := K1.out.2.2.2.2.2; rwa [HJ1.out.1] at this
  have hm2 : m2 ≤ 24 := by have := K2.out.2.2.2.2.2; rwa [HJ2.out.1] at this
  go_wp2_with fail
  clear ehy00 ehy01 ehy02 ehy10 ehy11 ehy12 ehs0 fhs0 ehs1 fhs1 ehs2 fhs2
  have hy0_3 := Lib.hid hy0_2.out.drew
  have hy1_3 := Lib.hid hy1_2.out.drew
  have hs_3 := Lib.hid hs_2.out.drew
  have BW_3 := Lib.hid BW_2.out.drew
  replace HI1 := Lib.hid HI1.out.drew
  replace HI2 := Lib.hid HI2.out.drew
  replace HJ1 := Lib.hid HJ1.out.drew
  replace HJ2 := Lib.hid HJ2.out.drew
  have cvhy00 : Hid ((#[.bool g1, .slice A1 n1 c1, .slice B1 m1 d1] : Array Value)[0]? = some (.bool g1)) := rfl
  have cvhy01 : Hid ((#[.bool g1, .slice A1 n1 c1, .slice B1 m1 d1] : Array Value)[1]? = some (.slice A1 n1 c1)) := rfl
  have cvhy02 : Hid ((#[.bool g1, .slice A1 n1 c1, .slice B1 m1 d1] : Array Value)[2]? = some (.slice B1 m1 d1)) := rfl
  have cvhy10 : Hid ((#[.bool g2, .slice A2 n2 c2, .slice B2 m2 d2] : Array Value)[0]? = some (.bool g2)) := rfl
  have cvhy11 : Hid ((#[.bool g2, .slice A2 n2 c2, .slice B2 m2 d2] : Array Value)[1]? = some (.slice A2 n2 c2)) := rfl
  have cvhy12 : Hid ((#[.bool g2, .slice A2 n2 c2, .slice B2 m2 d2] : Array Value)[2]? = some (.slice B2 m2 d2)) := rfl
  go_region_held3 (fun w' => w'.cell? ⟨w.heap.size, 0, none⟩ = some (.bool g1) ∧ w'.cell? ⟨w.heap.size, 1, none⟩ = some (.slice A1 n1 c1) ∧ w'.cell? ⟨w.heap.size, 2, none⟩ = some (.slice B1 m1 d1) ∧ w'.cell? ⟨w.heap.size + 1, 0, none⟩ = some (.bool g2) ∧ w'.cell? ⟨w.heap.size + 1, 1, none⟩ = some (.slice A2 n2 c2) ∧ w'.cell? ⟨w.heap.size + 1, 2, none⟩ = some (.slice B2 m2 d2)) (first | with_reducible exact ⟨cellS hy0_6 cvhy00, cellS hy0_6 cvhy01, cellS hy0_6 cvhy02, cellS hy1_6 cvhy10, cellS hy1_6 cvhy11, cellS hy1_6 cvhy12⟩ | with_reducible exact ⟨cellS (hFar (hFar (hFar hy0_6 (by dsimp only; omega) _) (by dsimp only; omega) _) (by dsimp only; omega) _) cvhy00, cellS (hFar (hFar (hFar hy0_6 (by dsimp only; omega) _) (by dsimp only; omega) _) (by dsimp only; omega) _) cvhy01, cellS (hFar (hFar (hFar hy0_6 (by dsimp only; omega) _) (by dsimp only; omega) _) (by dsimp only; omega) _) cvhy02, cellS (hFar (hFar (hFar hy1_6 (by dsimp only; omega) _) (by dsimp only; omega) _) (by dsimp only; omega) _) cvhy10, cellS (hFar (hFar (hFar hy1_6 (by dsimp only; omega) _) (by dsimp only; omega) _) (by dsimp only; omega) _) cvhy11, cellS (hFar (hFar (hFar hy1_6 (by dsimp only; omega) _) (by dsimp only; omega) _) (by dsimp only; omega) _) cvhy12⟩ | with_reducible exact ⟨cellS hy0_5 cvhy00, cellS hy0_5 cvhy01, cellS hy0_5 cvhy02, cellS hy1_5 cvhy10, cellS hy1_5 cvhy11, cellS hy1_5 cvhy12⟩ | with_reducible exact ⟨cellS hy0_4 cvhy00, cellS hy0_4 cvhy01, cellS hy0_4 cvhy02, cellS hy1_4 cvhy10, cellS hy1_4 cvhy11, cellS hy1_4 cvhy12⟩ | with_reducible exact ⟨cellS hy0_3 cvhy00, cellS hy0_3 cvhy01, cellS hy0_3 cvhy02, cellS hy1_3 cvhy10, cellS hy1_3 cvhy11, cellS hy1_3 cvhy12⟩) (first | (go_at_call 26; refine (impl_ratMake0 ga Aa na ca la gb Ab nb cb lb _ ⟨HNa.out.symm, (by omega), Reads.of_own HOa.out, limbs_bd HCa.out.1.1.1.1⟩ ⟨HNb.out.symm, (by omega), Reads.of_own HOb.out, limbs_bd HCb.out.1.1.1.1⟩).mono ?_; rintro e wz ⟨s, r, v, dd, u, rfl, hq, ⟨hl1, ho1⟩, ⟨hl2, ho2⟩, hap, hb⟩; have HQ := Lib.hid (div_fin K1.out K2.out HCa.out HCb.out hq); have HAP := Lib.hid hap; have hszl := BW_5.out.size; have hy0_6 := Lib.hid (hy0_5.out.below hb hy0_5.out.lt); have hy1_6 := Lib.hid (hy1_5.out.below hb hy1_5.out.lt); have hs_6 := Lib.hid (hs_5.out.below hb hs_5.out.lt); have BW_6 := Lib.hid (BW_5.out.trans (hb.mono BW_5.out.size)); clear hb; clear hq hap; obtain ⟨A9, c9, rfl⟩ := own_slice ho1; obtain ⟨B9, d9, rfl⟩ := own_slice ho2; obtain ⟨N9, hN9⟩ : ∃ N, N = r.length := ⟨_, rfl⟩; obtain ⟨M9, hM9⟩ : ∃ N, N = dd.length := ⟨_, rfl⟩; rw [← hN9] at hl1 ho1 HAP ⊢; rw [← hM9] at hl2 ho2 HAP ⊢; have HN := Lib.hid hN9.symm; have HM := Lib.hid hM9.symm; have HO := Lib.hid ho1; have HU := Lib.hid ho2; clear ho1 ho2 hN9 hM9; have ehs0 := hs_6.out.cell 0; have ehs1 := hs_6.out.cell 1; have ehs2 := hs_6.out.cell 2; have fhs0 := hs_6.out.free 0; have fhs1 := hs_6.out.free 1; have fhs2 := hs_6.out.free 2; simp at ehs0 ehs1 ehs2) | (go_at_call 79; (with_reducible refine (impl_crossed g2 A2 n2 c2 ys B2 m2 d2 fs g1 A1 n1 c1 xs B1 m1 d1 es _ HI2.out R2.out HJ1.out S1.out).mono ?_); rintro e w5 ⟨gb, lb, vb, rfl, hq, ⟨hlb, ho⟩, hb⟩; have HCb := Lib.hid (cross_mk K2.out K1.out hq); have hy0_5 := Lib.hid (hy0_4.out.below hb hy0_4.out.lt); have hy1_5 := Lib.hid (hy1_4.out.below hb hy1_4.out.lt); have hs_5 := Lib.hid (hs_4.out.below hb hs_4.out.lt); have BW_5 := Lib.hid (BW_4.out.trans (hb.mono BW_4.out.size)); replace HI1 := Lib.hid (HI1.out.below hb); replace HI2 := Lib.hid (HI2.out.below hb); replace HJ1 := Lib.hid (HJ1.out.below hb); replace HJ2 := Lib.hid (HJ2.out.below hb); replace HOa := Lib.hid (own_below HOa.out hb); clear hb; obtain ⟨Ab, cb, rfl⟩ := own_slice ho; obtain ⟨nb, hnb⟩ : ∃ N, N = lb.length := ⟨_, rfl⟩; rw [← hnb] at hlb ho ⊢; have HNb := Lib.hid hnb; have HOb := Lib.hid ho; clear ho hnb; have hsb : nb ≤ 60 := (by have := HCb.out.1.1.2; rwa [← HNb.out] at this); clear hq) | (go_at_call 79; (with_reducible refine (impl_crossed g1 A1 n1 c1 xs B1 m1 d1 es g2 A2 n2 c2 ys B2 m2 d2 fs _ HI1.out R1.out HJ2.out S2.out).mono ?_); rintro e w4 ⟨ga, la, va, rfl, hq, ⟨hla, ho⟩, hb⟩; have HCa := Lib.hid (cross_mk K1.out K2.out hq); have hy0_4 := Lib.hid (hy0_3.out.below hb hy0_3.out.lt); have hy1_4 := Lib.hid (hy1_3.out.below hb hy1_3.out.lt); have hs_4 := Lib.hid (hs_3.out.below hb hs_3.out.lt); have BW_4 := Lib.hid (BW_3.out.trans (hb.mono BW_3.out.size)); replace HI1 := Lib.hid (HI1.out.below hb); replace HI2 := Lib.hid (HI2.out.below hb); replace HJ1 := Lib.hid (HJ1.out.below hb); replace HJ2 := Lib.hid (HJ2.out.below hb); clear hb; obtain ⟨Aa, ca, rfl⟩ := own_slice ho; obtain ⟨na, hna⟩ : ∃ N, N = la.length := ⟨_, rfl⟩; rw [← hna] at hla ho ⊢; have HNa := Lib.hid hna; have HOa := Lib.hid ho; clear ho hna; have hsa : na ≤ 60 := (by have := HCa.out.1.1.2; rwa [← HNa.out] at this); clear hq))
  go_wp2_with fail
  refine bodyPost_ret (v := .agg #[.bool s, .slice A9 N9 c9, .slice B9 M9 d9]) (by simp [results, Try.results44, ehs0, ehs1, ehs2, go_sem]) rfl ?_
  exact ratEnd_store hs_6.out (by omega) BW_6.out HQ.out HN.out HM.out (by omega) (by omega) HO.out (by omega) HU.out (by omega) HAP.out
theorem impl_ratDiv (g1 : Bool) (A1 : Option Addr) (n1 c1 : Nat) (xs : List Int) (B1 : Option Addr) (m1 d1 : Nat) (es : List Int) (g2 : Bool) (A2 : Option Addr) (n2 c2 : Nat) (ys : List Int) (B2 : Option Addr) (m2 d2 : Nat) (fs : List Int) (w : World) (h1 : InI w A1 n1 xs) (r1 : Room A1 n1 c1) (k1 : InI w B1 m1 es) (s1 : Room B1 m1 d1) (h2 : InI w A2 n2 ys) (r2 : Room A2 n2 c2) (k2 : InI w B2 m2 fs) (s2 : Room B2 m2 d2) :
    Calls Try.prog 44 #[.agg #[.bool g1, .slice A1 n1 c1, .slice B1 m1 d1], .agg #[.bool g2, .slice A2 n2 c2, .slice B2 m2 d2]] w fun e w' => ∃ g r v d u, e = .returned (.agg #[.bool g, v, u]) ∧ RatDivIs g1 xs es g2 ys fs g r d ∧ ResI w w' v r ∧ ResI w w' u d ∧ Apart u v ∧ Below w.heap.size w w' :=
  (impl_ratDiv0 g1 A1 n1 c1 xs B1 m1 d1 es g2 A2 n2 c2 ys B2 m2 d2 fs w h1 r1 k1 s1 h2 r2 k2 s2).mono fun _ _ h => h
end Go.Proofs.Ytbfanjalinkmhaa
