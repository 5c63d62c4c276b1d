/- Contracts of fractions: the sign, comparison. -/
import Derived.Test.YtegclofijaoajaaGreatRatS5
import Derived.Test.YtegclofijaoajaaGreatGE
import Derived.Test.YtegclofijaoajaaGreatGF
namespace Go.Proofs.YtegclofijaoajaaGreat
set_option maxRecDepth 100000
open Go.RowKit

def IntEnd (Q : Int → Prop) (w w' : World) (e : Ending) : Prop := ∃ r, e = .returned (.int .i64 r) ∧ Q r ∧ Below w.heap.size w w'
theorem rsign_no {g : Bool} {xs es : List Int} {w w' : World} (h : ¬ ROk g xs es) (hb : Below w.heap.size w w') : IntEnd (RatSignIs g xs es) w w' (.returned (.int .i64 0)) := ⟨0, rfl, .inr ⟨h, rfl⟩, hb⟩
theorem rsign_yes {g : Bool} {xs es : List Int} {w w' : World} {r : Int} (h : ROk g xs es) (hr : sg g xs.length = r) (hb : Below w.heap.size w w') : IntEnd (RatSignIs g xs es) w w' (.returned (.int .i64 r)) := ⟨r, rfl, .inl ⟨h, hr.symm⟩, hb⟩
theorem rsign_zero {g : Bool} {xs es : List Int} {n : Nat} (h : ROk g xs es) (hl : xs.length = 0) (hn : n = 0) : sg g n = 0 := by
  subst hn
  have e := List.eq_nil_of_length_eq_zero hl
  cases g
  · rfl
  · exact absurd e (h.1.2 rfl)
theorem rcmp_no {g1 g2 : Bool} {xs es ys fs : List Int} {w w' : World} (h : ¬ (ROk g1 xs es ∧ ROk g2 ys fs)) (hb : Below w.heap.size w w') : IntEnd (RatCmpIs g1 xs es g2 ys fs) w w' (.returned (.int .i64 0)) := ⟨0, rfl, .inr ⟨h, rfl⟩, hb⟩
theorem crossOk {N : Int} {g : Bool} {l : List Int} (h : Hid (CrossIs N g l)) : BOk g l := h.out.1
theorem rcmp_fin {g1 g2 ga gb : Bool} {xs es ys fs la lb : List Int} {r : Int} (k1 : ROk g1 xs es) (k2 : ROk g2 ys fs) (ha : CrossIs (bval g1 xs * val fs) ga la) (hb : CrossIs (bval g2 ys * val es) gb lb) (h : BigIntCmpIs ga la gb lb r) : RatCmpIs g1 xs es g2 ys fs r := by
  rcases h with ⟨_, h⟩ | ⟨h, _⟩
  · rw [ha.2.1, hb.2.1] at h; exact .inl ⟨⟨k1, k2⟩, h⟩
  · exact absurd ⟨ha.1, hb.1⟩ h
set_option maxHeartbeats 3200000 in
theorem spec_ratSign0 (g1 : Bool) (A1 : Option Addr) (n1 c1 : Nat) (xs : List Int) (B1 : Option Addr) (m1 d1 : Nat) (es : List Int) (w : World) (h1 : InI w A1 n1 xs) (r1 : Room A1 n1 c1) (k1 : InI w B1 m1 es) (s1 : Room B1 m1 d1) :
    Calls Tryz.prog 118 #[.agg #[.bool g1, .slice A1 n1 c1, .slice B1 m1 d1]] w fun e w' => IntEnd (RatSignIs g1 xs es) w w' e := by
  have hn1 := h1.2.1
  have hm1 := k1.2.1
  obtain ⟨W0, hW0⟩ : ∃ W, W = (w.alloc (.cells #[.bool g1, .slice A1 n1 c1, .slice B1 m1 d1] 34)) := ⟨_, rfl⟩
  have hy0_0 : Hid (Box W0 (w.heap.size) 34 #[.bool g1, .slice A1 n1 c1, .slice B1 m1 d1]) := by rw [hW0]; exact (Box.at' (by simp))
  have BW_0 : Hid (Below w.heap.size w W0) := by rw [hW0]; exact ((Below.refl w.heap.size w).alloc (by simp) _)
  have hsz0 : w.heap.size + 1 ≤ W0.heap.size := by rw [hW0]; simp
  have HI1 := Lib.hid (h1.below BW_0.out)
  have HJ1 := Lib.hid (k1.below BW_0.out)
  have R1 := Lib.hid r1
  have S1 := Lib.hid s1
  clear h1 k1 r1 s1
  go_enter Tryz.func118, Tryz.ntmps118
  go_wp2_with fail
  rw [← hW0]
  clear hW0
  refine (spec_ratOk' g1 A1 n1 c1 xs B1 m1 d1 es _ HI1.out HJ1.out).mono ?_
  rintro e wa ⟨⟨b, rfl, hi⟩, hb⟩
  have hy0_1 := Lib.hid (hy0_0.out.below hb hy0_0.out.lt)
  have BW_1 := Lib.hid (BW_0.out.trans (hb.mono BW_0.out.size))
  replace HI1 := Lib.hid (HI1.out.below hb)
  replace HJ1 := Lib.hid (HJ1.out.below hb)
  clear hb
  have ehy00 := hy0_1.out.cell 0
  have ehy01 := hy0_1.out.cell 1
  have ehy02 := hy0_1.out.cell 2
  simp at ehy00 ehy01 ehy02
  cases b
  · have hno : ¬ ROk g1 xs es := fun h => by have := hi.2 h; cases this
    clear hi
    have HF := Lib.hid (rsign_no (w := w) hno BW_1.out)
    go_wp2_with fail
    go_ret
    exact HF.out
  have K1 := Lib.hid (hi.1 rfl)
  clear hi
  have hn1 : n1 ≤ 24 := by have := K1.out.2.2.2.2.1; rwa [HI1.out.1] at this
  have hm1 : m1 ≤ 24 := by have := K1.out.2.2.2.2.2; rwa [HJ1.out.1] at this
  by_cases hz : n1 = 0
  · have HF : Hid (IntEnd (RatSignIs g1 xs es) w wa (.returned (.int .i64 0))) := rsign_yes (w := w) K1.out (by rw [HI1.out.1]; exact rsign_zero K1.out (HI1.out.1.trans hz) hz) BW_1.out
    have ht : ((n1 : Int) == 0) = true := by simp [hz]
    clear hz
    go_wp2_with fail
    go_ret
    exact HF.out
  have ht : ((n1 : Int) == 0) = false := by simp [hz]
  cases g1
  · have HF : Hid (IntEnd (RatSignIs false xs es) w wa (.returned (.int .i64 1))) := rsign_yes (w := w) K1.out (by rw [HI1.out.1]; simp [sg, hz]) BW_1.out
    clear hz
    go_wp2_with fail
    go_ret
    exact HF.out
  · have HF : Hid (IntEnd (RatSignIs true xs es) w wa (.returned (.int .i64 (-1)))) := rsign_yes (w := w) K1.out (by simp [sg]) BW_1.out
    clear hz
    go_wp2_with fail
    go_ret
    exact HF.out
set_option maxHeartbeats 3200000 in
theorem impl_ratSign0 (g1 : Bool) (A1 : Option Addr) (n1 c1 : Nat) (xs : List Int) (B1 : Option Addr) (m1 d1 : Nat) (es : List Int) (w : World) (h1 : InI w A1 n1 xs) (r1 : Room A1 n1 c1) (k1 : InI w B1 m1 es) (s1 : Room B1 m1 d1) :
    Calls Tryz.prog 18 #[.agg #[.bool g1, .slice A1 n1 c1, .slice B1 m1 d1]] w fun e w' => IntEnd (RatSignIs g1 xs es) w w' e := by
  have hn1 := h1.2.1
  have hm1 := k1.2.1
  obtain ⟨W0, hW0⟩ : ∃ W, W = (w.alloc (.cells #[.bool g1, .slice A1 n1 c1, .slice B1 m1 d1] 34)) := ⟨_, rfl⟩
  have hy0_0 : Hid (Box W0 (w.heap.size) 34 #[.bool g1, .slice A1 n1 c1, .slice B1 m1 d1]) := by rw [hW0]; exact (Box.at' (by simp))
  have BW_0 : Hid (Below w.heap.size w W0) := by rw [hW0]; exact ((Below.refl w.heap.size w).alloc (by simp) _)
  have hsz0 : w.heap.size + 1 ≤ W0.heap.size := by rw [hW0]; simp
  have HI1 := Lib.hid (h1.below BW_0.out)
  have HJ1 := Lib.hid (k1.below BW_0.out)
  have R1 := Lib.hid r1
  have S1 := Lib.hid s1
  clear h1 k1 r1 s1
  go_enter Tryz.func18, Tryz.ntmps18
  go_wp2_with fail
  rw [← hW0]
  clear hW0
  refine (impl_ratOk' g1 A1 n1 c1 xs B1 m1 d1 es _ HI1.out HJ1.out).mono ?_
  rintro e wa ⟨⟨b, rfl, hi⟩, hb⟩
  have hy0_1 := Lib.hid (hy0_0.out.below hb hy0_0.out.lt)
  have BW_1 := Lib.hid (BW_0.out.trans (hb.mono BW_0.out.size))
  replace HI1 := Lib.hid (HI1.out.below hb)
  replace HJ1 := Lib.hid (HJ1.out.below hb)
  clear hb
  have ehy00 := hy0_1.out.cell 0
  have ehy01 := hy0_1.out.cell 1
  have ehy02 := hy0_1.out.cell 2
  simp at ehy00 ehy01 ehy02
  cases b
  · have hno : ¬ ROk g1 xs es := fun h => by have := hi.2 h; cases this
    clear hi
    have HF := Lib.hid (rsign_no (w := w) hno BW_1.out)
    go_wp2_with fail
    go_ret
    exact HF.out
  have K1 := Lib.hid (hi.1 rfl)
  clear hi
  have hn1 : n1 ≤ 24 := by have := K1.out.2.2.2.2.1; rwa [HI1.out.1] at this
  have hm1 : m1 ≤ 24 := by have := K1.out.2.2.2.2.2; rwa [HJ1.out.1] at this
  obtain ⟨s, hs⟩ : ∃ s, sg g1 n1 = s := ⟨_, rfl⟩
  have HS := Lib.hid hs
  have hbd := sg_bd g1 n1
  rw [hs] at hbd
  clear hs
  go_wp2_with fail
  clear ehy00 ehy01 ehy02
  refine (impl_signOf g1 A1 n1 c1 s _ HS.out (by omega)).mono ?_
  rintro e wb ⟨rfl, hb⟩
  have hy0_2 := Lib.hid (hy0_1.out.below hb hy0_1.out.lt)
  have BW_2 := Lib.hid (BW_1.out.trans (hb.mono BW_1.out.size))
  clear hb
  have HF := Lib.hid (rsign_yes (w := w) (r := s) K1.out (by rw [HI1.out.1]; exact HS.out) BW_2.out)
  go_wp2_with fail
  go_ret
  exact HF.out
set_option maxHeartbeats 3200000 in
theorem spec_l04Cmp (g1 : Bool) (A1 : Option Addr) (n1 c1 : Nat) (xs : List Int) (B1 : Option Addr) (m1 d1 : Nat) (es : List Int) (g2 : Bool) (A2 : Option Addr) (n2 c2 : Nat) (ys : List Int) (B2 : Option Addr) (m2 d2 : Nat) (fs : List Int) (w : World) (h1 : InI w A1 n1 xs) (r1 : Room A1 n1 c1) (k1 : InI w B1 m1 es) (s1 : Room B1 m1 d1) (h2 : InI w A2 n2 ys) (r2 : Room A2 n2 c2) (k2 : InI w B2 m2 fs) (s2 : Room B2 m2 d2)(q1 : ROk g1 xs es) (q2 : ROk g2 ys fs) :
    Calls Tryz.prog 201 #[.agg #[.bool g1, .slice A1 n1 c1, .slice B1 m1 d1], .agg #[.bool g2, .slice A2 n2 c2, .slice B2 m2 d2]] w fun e w' => e = .returned (.int .i64 (cmpV (bval g1 xs * val fs) (bval g2 ys * val es))) ∧ Below w.heap.size w w' := by
  have hn1 := h1.2.1
  have hn2 := h2.2.1
  have hm1 := k1.2.1
  have hm2 := k2.2.1
  obtain ⟨W0, hW0⟩ : ∃ W, W = ((w.alloc (.cells #[.bool g1, .slice A1 n1 c1, .slice B1 m1 d1] 34)).alloc (.cells #[.bool g2, .slice A2 n2 c2, .slice B2 m2 d2] 34)) := ⟨_, rfl⟩
  have hy0_0 : Hid (Box W0 (w.heap.size) 34 #[.bool g1, .slice A1 n1 c1, .slice B1 m1 d1]) := by rw [hW0]; exact ((Box.at' (by simp)).alloc _)
  have hy1_0 : Hid (Box W0 (w.heap.size + 1) 34 #[.bool g2, .slice A2 n2 c2, .slice B2 m2 d2]) := by rw [hW0]; exact (Box.at' (by simp))
  have BW_0 : Hid (Below w.heap.size w W0) := by rw [hW0]; exact (((Below.refl w.heap.size w).alloc (by simp) _).alloc (by simp) _)
  have hsz0 : w.heap.size + 1 + 1 ≤ W0.heap.size := by rw [hW0]; simp
  have HI1 := Lib.hid (h1.below BW_0.out)
  have HI2 := Lib.hid (h2.below BW_0.out)
  have HJ1 := Lib.hid (k1.below BW_0.out)
  have HJ2 := Lib.hid (k2.below BW_0.out)
  have R1 := Lib.hid r1
  have R2 := Lib.hid r2
  have S1 := Lib.hid s1
  have S2 := Lib.hid s2
  clear h1 h2 k1 k2 r1 r2 s1 s2
  go_enter Tryz.func201, Tryz.ntmps201
  go_wp2_with fail
  rw [← hW0]
  clear hW0
  have K1 := Lib.hid q1
  have K2 := Lib.hid q2
  clear q1 q2
  have hn1 : n1 ≤ 24 := by have := K1.out.2.2.2.2.1; rwa [HI1.out.1] at this
  have hn2 : n2 ≤ 24 := by have := K2.out.2.2.2.2.1; rwa [HI2.out.1] at this
  have hm1 : m1 ≤ 24 := by have := K1.out.2.2.2.2.2; rwa [HJ1.out.1] at this
  have hm2 : m2 ≤ 24 := by have := K2.out.2.2.2.2.2; rwa [HJ2.out.1] at this
  have hy0_1 := Lib.hid hy0_0.out.drew
  have hy1_1 := Lib.hid hy1_0.out.drew
  have BW_1 := Lib.hid BW_0.out.drew
  replace HI1 := Lib.hid HI1.out.drew
  replace HI2 := Lib.hid HI2.out.drew
  replace HJ1 := Lib.hid HJ1.out.drew
  replace HJ2 := Lib.hid HJ2.out.drew
  have cvhy00 : Hid ((#[.bool g1, .slice A1 n1 c1, .slice B1 m1 d1] : Array Value)[0]? = some (.bool g1)) := rfl
  have cvhy01 : Hid ((#[.bool g1, .slice A1 n1 c1, .slice B1 m1 d1] : Array Value)[1]? = some (.slice A1 n1 c1)) := rfl
  have cvhy02 : Hid ((#[.bool g1, .slice A1 n1 c1, .slice B1 m1 d1] : Array Value)[2]? = some (.slice B1 m1 d1)) := rfl
  have cvhy10 : Hid ((#[.bool g2, .slice A2 n2 c2, .slice B2 m2 d2] : Array Value)[0]? = some (.bool g2)) := rfl
  have cvhy11 : Hid ((#[.bool g2, .slice A2 n2 c2, .slice B2 m2 d2] : Array Value)[1]? = some (.slice A2 n2 c2)) := rfl
  have cvhy12 : Hid ((#[.bool g2, .slice A2 n2 c2, .slice B2 m2 d2] : Array Value)[2]? = some (.slice B2 m2 d2)) := rfl
  go_region_held3 (fun w' => w'.cell? ⟨w.heap.size, 0, none⟩ = some (.bool g1) ∧ w'.cell? ⟨w.heap.size, 1, none⟩ = some (.slice A1 n1 c1) ∧ w'.cell? ⟨w.heap.size, 2, none⟩ = some (.slice B1 m1 d1) ∧ w'.cell? ⟨w.heap.size + 1, 0, none⟩ = some (.bool g2) ∧ w'.cell? ⟨w.heap.size + 1, 1, none⟩ = some (.slice A2 n2 c2) ∧ w'.cell? ⟨w.heap.size + 1, 2, none⟩ = some (.slice B2 m2 d2)) (first | with_reducible exact ⟨cellS hy0_6 cvhy00, cellS hy0_6 cvhy01, cellS hy0_6 cvhy02, cellS hy1_6 cvhy10, cellS hy1_6 cvhy11, cellS hy1_6 cvhy12⟩ | with_reducible exact ⟨cellS hy0_6 cvhy00, cellS hy0_6 cvhy01, cellS hy0_6 cvhy02, cellS hy1_6 cvhy10, cellS hy1_6 cvhy11, cellS hy1_6 cvhy12⟩ | with_reducible exact ⟨cellS hy0_5 cvhy00, cellS hy0_5 cvhy01, cellS hy0_5 cvhy02, cellS hy1_5 cvhy10, cellS hy1_5 cvhy11, cellS hy1_5 cvhy12⟩ | with_reducible exact ⟨cellS hy0_4 cvhy00, cellS hy0_4 cvhy01, cellS hy0_4 cvhy02, cellS hy1_4 cvhy10, cellS hy1_4 cvhy11, cellS hy1_4 cvhy12⟩ | with_reducible exact ⟨cellS hy0_3 cvhy00, cellS hy0_3 cvhy01, cellS hy0_3 cvhy02, cellS hy1_3 cvhy10, cellS hy1_3 cvhy11, cellS hy1_3 cvhy12⟩ | with_reducible exact ⟨cellS hy0_2 cvhy00, cellS hy0_2 cvhy01, cellS hy0_2 cvhy02, cellS hy1_2 cvhy10, cellS hy1_2 cvhy11, cellS hy1_2 cvhy12⟩ | with_reducible exact ⟨cellS hy0_1 cvhy00, cellS hy0_1 cvhy01, cellS hy0_1 cvhy02, cellS hy1_1 cvhy10, cellS hy1_1 cvhy11, cellS hy1_1 cvhy12⟩) (first | (go_at_call 245; (refine (spec_bigCmp sa Aa na ca la sb Ab nb cb lb _ ⟨HNa.out.symm, (by omega), Reads.of_own HOa.out, limbs_bd (crossOk HCa).1.1.1⟩ ⟨HNb.out.symm, (by omega), Reads.of_own HOb.out, limbs_bd (crossOk HCb).1.1.1⟩ (crossOk HCa) (crossOk HCb)).mono ?_); rintro e w6 ⟨rfl, hb⟩; have hy0_6 := Lib.hid (hy0_5.out.below hb hy0_5.out.lt); have hy1_6 := Lib.hid (hy1_5.out.below hb hy1_5.out.lt); have BW_6 := Lib.hid (BW_5.out.trans (hb.mono BW_5.out.size)); clear hb) | (go_at_call 160; (with_reducible refine (spec_make g2 Aq nq cq lq _ HNq.out.symm (by omega) (room_own HOq.out) (Reads.of_own HOq.out) (okval_inR HCq.out)).mono ?_); rintro e w5 ⟨lb, vb, rfl, hm, ⟨hlb, ho⟩, hb⟩; have HCb := Lib.hid (made_cross K2.out K1.out HCq.out hm); obtain ⟨sb, hsx⟩ : ∃ s, s = sgn g2 lb := ⟨_, rfl⟩; rw [← hsx] at HCb ⊢; clear hsx hm; have hy0_5 := Lib.hid (hy0_4.out.below hb hy0_4.out.lt); have hy1_5 := Lib.hid (hy1_4.out.below hb hy1_4.out.lt); have BW_5 := Lib.hid (BW_4.out.trans (hb.mono BW_4.out.size)); replace HI1 := Lib.hid (HI1.out.below hb); replace HI2 := Lib.hid (HI2.out.below hb); replace HJ1 := Lib.hid (HJ1.out.below hb); replace HJ2 := Lib.hid (HJ2.out.below hb); replace HOa := Lib.hid (own_below HOa.out hb); clear hb; obtain ⟨Ab, cb, rfl⟩ := own_slice ho; obtain ⟨nb, hnb⟩ : ∃ N, N = lb.length := ⟨_, rfl⟩; rw [← hnb] at hlb ho ⊢; have HNb := Lib.hid hnb; have HOb := Lib.hid ho; clear ho hnb; have hsb : nb ≤ 60 := (by have := HCb.out.1.1.2; rwa [← HNb.out] at this)) | (go_at_call 161; (with_reducible refine (spec_mul A2 n2 c2 ys B1 m1 d1 es _ HI2.out.canon HJ1.out.canon K2.out.nr K1.out.dr).mono ?_); rintro e w4 ⟨lq, Aq, cq, rfl, hcan, hv, hlq, ho, hb⟩; have HCq := Lib.hid (prod_ok hcan hv K2.out.nb K1.out.db); have hy0_4 := Lib.hid (hy0_3.out.below hb hy0_3.out.lt); have hy1_4 := Lib.hid (hy1_3.out.below hb hy1_3.out.lt); have BW_4 := Lib.hid (BW_3.out.trans (hb.mono BW_3.out.size)); replace HI1 := Lib.hid (HI1.out.below hb); replace HI2 := Lib.hid (HI2.out.below hb); replace HJ1 := Lib.hid (HJ1.out.below hb); replace HJ2 := Lib.hid (HJ2.out.below hb); replace HOa := Lib.hid (own_below HOa.out hb); clear hb; obtain ⟨nq, hN⟩ : ∃ N, N = lq.length := ⟨_, rfl⟩; rw [← hN] at hlq ho ⊢; have HNq := Lib.hid hN; have HOq := Lib.hid ho; have hsq : nq ≤ 60 := (by have := HCq.out.1.2; rwa [← hN] at this); clear hcan hv ho hN) | (go_at_call 160; (with_reducible refine (spec_make g1 Ap np cp lp _ HNp.out.symm (by omega) (room_own HOp.out) (Reads.of_own HOp.out) (okval_inR HCp.out)).mono ?_); rintro e w3 ⟨la, va, rfl, hm, ⟨hla, ho⟩, hb⟩; have HCa := Lib.hid (made_cross K1.out K2.out HCp.out hm); obtain ⟨sa, hsx⟩ : ∃ s, s = sgn g1 la := ⟨_, rfl⟩; rw [← hsx] at HCa ⊢; clear hsx hm; have hy0_3 := Lib.hid (hy0_2.out.below hb hy0_2.out.lt); have hy1_3 := Lib.hid (hy1_2.out.below hb hy1_2.out.lt); have BW_3 := Lib.hid (BW_2.out.trans (hb.mono BW_2.out.size)); replace HI1 := Lib.hid (HI1.out.below hb); replace HI2 := Lib.hid (HI2.out.below hb); replace HJ1 := Lib.hid (HJ1.out.below hb); replace HJ2 := Lib.hid (HJ2.out.below hb); clear hb; obtain ⟨Aa, ca, rfl⟩ := own_slice ho; obtain ⟨na, hna⟩ : ∃ N, N = la.length := ⟨_, rfl⟩; rw [← hna] at hla ho ⊢; have HNa := Lib.hid hna; have HOa := Lib.hid ho; clear ho hna; have hsa : na ≤ 60 := (by have := HCa.out.1.1.2; rwa [← HNa.out] at this)) | (go_at_call 161; (with_reducible refine (spec_mul A1 n1 c1 xs B2 m2 d2 fs _ HI1.out.canon HJ2.out.canon K1.out.nr K2.out.dr).mono ?_); rintro e w2 ⟨lp, Ap, cp, rfl, hcan, hv, hlp, ho, hb⟩; have HCp := Lib.hid (prod_ok hcan hv K1.out.nb K2.out.db); have hy0_2 := Lib.hid (hy0_1.out.below hb hy0_1.out.lt); have hy1_2 := Lib.hid (hy1_1.out.below hb hy1_1.out.lt); have BW_2 := Lib.hid (BW_1.out.trans (hb.mono BW_1.out.size)); replace HI1 := Lib.hid (HI1.out.below hb); replace HI2 := Lib.hid (HI2.out.below hb); replace HJ1 := Lib.hid (HJ1.out.below hb); replace HJ2 := Lib.hid (HJ2.out.below hb); clear hb; obtain ⟨np, hN⟩ : ∃ N, N = lp.length := ⟨_, rfl⟩; rw [← hN] at hlp ho ⊢; have HNp := Lib.hid hN; have HOp := Lib.hid ho; have hsp : np ≤ 60 := (by have := HCp.out.1.2; rwa [← hN] at this); clear hcan hv ho hN))
  have HF : Hid (cmpV (bval sa la) (bval sb lb) = cmpV (bval g1 xs * val fs) (bval g2 ys * val es)) := by unfold Hid; rw [HCa.out.2.1, HCb.out.2.1]
  go_wp2_with fail
  go_ret
  exact ⟨ret_int HF.out, BW_6.out⟩
set_option maxHeartbeats 3200000 in
theorem impl_ratCmp0 (g1 : Bool) (A1 : Option Addr) (n1 c1 : Nat) (xs : List Int) (B1 : Option Addr) (m1 d1 : Nat) (es : List Int) (g2 : Bool) (A2 : Option Addr) (n2 c2 : Nat) (ys : List Int) (B2 : Option Addr) (m2 d2 : Nat) (fs : List Int) (w : World) (h1 : InI w A1 n1 xs) (r1 : Room A1 n1 c1) (k1 : InI w B1 m1 es) (s1 : Room B1 m1 d1) (h2 : InI w A2 n2 ys) (r2 : Room A2 n2 c2) (k2 : InI w B2 m2 fs) (s2 : Room B2 m2 d2) :
    Calls Tryz.prog 304 #[.agg #[.bool g1, .slice A1 n1 c1, .slice B1 m1 d1], .agg #[.bool g2, .slice A2 n2 c2, .slice B2 m2 d2]] w fun e w' => IntEnd (RatCmpIs g1 xs es g2 ys fs) w w' e := by
  have hn1 := h1.2.1
  have hn2 := h2.2.1
  have hm1 := k1.2.1
  have hm2 := k2.2.1
  obtain ⟨W0, hW0⟩ : ∃ W, W = ((w.alloc (.cells #[.bool g1, .slice A1 n1 c1, .slice B1 m1 d1] 34)).alloc (.cells #[.bool g2, .slice A2 n2 c2, .slice B2 m2 d2] 34)) := ⟨_, rfl⟩
  have hy0_0 : Hid (Box W0 (w.heap.size) 34 #[.bool g1, .slice A1 n1 c1, .slice B1 m1 d1]) := by rw [hW0]; exact ((Box.at' (by simp)).alloc _)
  have hy1_0 : Hid (Box W0 (w.heap.size + 1) 34 #[.bool g2, .slice A2 n2 c2, .slice B2 m2 d2]) := by rw [hW0]; exact (Box.at' (by simp))
  have BW_0 : Hid (Below w.heap.size w W0) := by rw [hW0]; exact (((Below.refl w.heap.size w).alloc (by simp) _).alloc (by simp) _)
  have hsz0 : w.heap.size + 1 + 1 ≤ W0.heap.size := by rw [hW0]; simp
  have HI1 := Lib.hid (h1.below BW_0.out)
  have HI2 := Lib.hid (h2.below BW_0.out)
  have HJ1 := Lib.hid (k1.below BW_0.out)
  have HJ2 := Lib.hid (k2.below BW_0.out)
  have R1 := Lib.hid r1
  have R2 := Lib.hid r2
  have S1 := Lib.hid s1
  have S2 := Lib.hid s2
  clear h1 h2 k1 k2 r1 r2 s1 s2
  go_enter Tryz.func304, Tryz.ntmps304
  go_wp2_with fail
  rw [← hW0]
  clear hW0
  refine (impl_ratOk' g1 A1 n1 c1 xs B1 m1 d1 es _ HI1.out HJ1.out).mono ?_
  rintro e wa ⟨⟨b, rfl, hi⟩, hb⟩
  have hy0_1 := Lib.hid (hy0_0.out.below hb hy0_0.out.lt)
  have hy1_1 := Lib.hid (hy1_0.out.below hb hy1_0.out.lt)
  have BW_1 := Lib.hid (BW_0.out.trans (hb.mono BW_0.out.size))
  replace HI1 := Lib.hid (HI1.out.below hb)
  replace HI2 := Lib.hid (HI2.out.below hb)
  replace HJ1 := Lib.hid (HJ1.out.below hb)
  replace HJ2 := Lib.hid (HJ2.out.below hb)
  clear hb
  have ehy00 := hy0_1.out.cell 0
  have ehy01 := hy0_1.out.cell 1
  have ehy02 := hy0_1.out.cell 2
  have ehy10 := hy1_1.out.cell 0
  have ehy11 := hy1_1.out.cell 1
  have ehy12 := hy1_1.out.cell 2
  simp at ehy00 ehy01 ehy02 ehy10 ehy11 ehy12
  cases b
  · have hno : ¬ (ROk g1 xs es ∧ ROk g2 ys fs) := fun h => by have := hi.2 h.1; cases this
    clear hi
    have HF := Lib.hid (rcmp_no (w := w) hno BW_1.out)
    go_wp2_with fail
    go_ret
    exact HF.out
  have K1 := Lib.hid (hi.1 rfl)
  clear hi
  go_wp2_with fail
  refine (impl_ratOk' g2 A2 n2 c2 ys B2 m2 d2 fs _ HI2.out HJ2.out).mono ?_
  rintro e wb ⟨⟨b, rfl, hi⟩, hb⟩
  have hy0_2 := Lib.hid (hy0_1.out.below hb hy0_1.out.lt)
  have hy1_2 := Lib.hid (hy1_1.out.below hb hy1_1.out.lt)
  have BW_2 := Lib.hid (BW_1.out.trans (hb.mono BW_1.out.size))
  replace HI1 := Lib.hid (HI1.out.below hb)
  replace HI2 := Lib.hid (HI2.out.below hb)
  replace HJ1 := Lib.hid (HJ1.out.below hb)
  replace HJ2 := Lib.hid (HJ2.out.below hb)
  clear hb
  clear ehy00 ehy01 ehy02 ehy10 ehy11 ehy12
  have ehy00 := hy0_2.out.cell 0
  have ehy01 := hy0_2.out.cell 1
  have ehy02 := hy0_2.out.cell 2
  have ehy10 := hy1_2.out.cell 0
  have ehy11 := hy1_2.out.cell 1
  have ehy12 := hy1_2.out.cell 2
  simp at ehy00 ehy01 ehy02 ehy10 ehy11 ehy12
  cases b
  · have hno : ¬ (ROk g1 xs es ∧ ROk g2 ys fs) := fun h => by have := hi.2 h.2; cases this
    clear hi
    have HF := Lib.hid (rcmp_no (w := w) hno BW_2.out)
    go_wp2_with fail
    go_ret
    exact HF.out
  have K2 := Lib.hid (hi.1 rfl)
  clear hi
  have hn1 : n1 ≤ 24 := by have := K1.out.2.2.2.2.1; rwa [HI1.out.1] at this
  have hn2 : n2 ≤ 24 := by have := K2.out.2.2.2.2.1; rwa [HI2.out.1] at this
  have hm1 : m1 ≤ 24 := by have := K1.out.2.2.2.2.2; rwa [HJ1.out.1] at this
  have hm2 : m2 ≤ 24 := by have := K2.out.2.2.2.2.2; rwa [HJ2.out.1] at this
  go_wp2_with fail
  clear ehy00 ehy01 ehy02 ehy10 ehy11 ehy12
  have hy0_3 := Lib.hid hy0_2.out.drew
  have hy1_3 := Lib.hid hy1_2.out.drew
  have BW_3 := Lib.hid BW_2.out.drew
  replace HI1 := Lib.hid HI1.out.drew
  replace HI2 := Lib.hid HI2.out.drew
  replace HJ1 := Lib.hid HJ1.out.drew
  replace HJ2 := Lib.hid HJ2.out.drew
  have cvhy00 : Hid ((#[.bool g1, .slice A1 n1 c1, .slice B1 m1 d1] : Array Value)[0]? = some (.bool g1)) := rfl
  have cvhy01 : Hid ((#[.bool g1, .slice A1 n1 c1, .slice B1 m1 d1] : Array Value)[1]? = some (.slice A1 n1 c1)) := rfl
  have cvhy02 : Hid ((#[.bool g1, .slice A1 n1 c1, .slice B1 m1 d1] : Array Value)[2]? = some (.slice B1 m1 d1)) := rfl
  have cvhy10 : Hid ((#[.bool g2, .slice A2 n2 c2, .slice B2 m2 d2] : Array Value)[0]? = some (.bool g2)) := rfl
  have cvhy11 : Hid ((#[.bool g2, .slice A2 n2 c2, .slice B2 m2 d2] : Array Value)[1]? = some (.slice A2 n2 c2)) := rfl
  have cvhy12 : Hid ((#[.bool g2, .slice A2 n2 c2, .slice B2 m2 d2] : Array Value)[2]? = some (.slice B2 m2 d2)) := rfl
  go_region_held3 (fun w' => w'.cell? ⟨w.heap.size, 0, none⟩ = some (.bool g1) ∧ w'.cell? ⟨w.heap.size, 1, none⟩ = some (.slice A1 n1 c1) ∧ w'.cell? ⟨w.heap.size, 2, none⟩ = some (.slice B1 m1 d1) ∧ w'.cell? ⟨w.heap.size + 1, 0, none⟩ = some (.bool g2) ∧ w'.cell? ⟨w.heap.size + 1, 1, none⟩ = some (.slice A2 n2 c2) ∧ w'.cell? ⟨w.heap.size + 1, 2, none⟩ = some (.slice B2 m2 d2)) (first | with_reducible exact ⟨cellS hy0_6 cvhy00, cellS hy0_6 cvhy01, cellS hy0_6 cvhy02, cellS hy1_6 cvhy10, cellS hy1_6 cvhy11, cellS hy1_6 cvhy12⟩ | with_reducible exact ⟨cellS hy0_6 cvhy00, cellS hy0_6 cvhy01, cellS hy0_6 cvhy02, cellS hy1_6 cvhy10, cellS hy1_6 cvhy11, cellS hy1_6 cvhy12⟩ | with_reducible exact ⟨cellS hy0_5 cvhy00, cellS hy0_5 cvhy01, cellS hy0_5 cvhy02, cellS hy1_5 cvhy10, cellS hy1_5 cvhy11, cellS hy1_5 cvhy12⟩ | with_reducible exact ⟨cellS hy0_4 cvhy00, cellS hy0_4 cvhy01, cellS hy0_4 cvhy02, cellS hy1_4 cvhy10, cellS hy1_4 cvhy11, cellS hy1_4 cvhy12⟩ | with_reducible exact ⟨cellS hy0_3 cvhy00, cellS hy0_3 cvhy01, cellS hy0_3 cvhy02, cellS hy1_3 cvhy10, cellS hy1_3 cvhy11, cellS hy1_3 cvhy12⟩) (first | (go_at_call 269; refine (impl_bigIntCmp' ga Aa na ca la gb Ab nb cb lb _ ⟨HNa.out.symm, (by omega), Reads.of_own HOa.out, limbs_bd HCa.out.1.1.1.1⟩ ⟨HNb.out.symm, (by omega), Reads.of_own HOb.out, limbs_bd HCb.out.1.1.1.1⟩).mono ?_; rintro e w6 ⟨r, rfl, hq, hb⟩; have HR := Lib.hid (rcmp_fin K1.out K2.out HCa.out HCb.out hq); clear hq; have hy0_6 := Lib.hid (hy0_5.out.below hb hy0_5.out.lt); have hy1_6 := Lib.hid (hy1_5.out.below hb hy1_5.out.lt); have BW_6 := Lib.hid (BW_5.out.trans (hb.mono BW_5.out.size)); clear hb) | (go_at_call 225; (with_reducible refine (impl_crossed g2 A2 n2 c2 ys B2 m2 d2 fs g1 A1 n1 c1 xs B1 m1 d1 es _ HI2.out R2.out HJ1.out S1.out).mono ?_); rintro e w5 ⟨gb, lb, vb, rfl, hq, ⟨hlb, ho⟩, hb⟩; have HCb := Lib.hid (cross_mk K2.out K1.out hq); have hy0_5 := Lib.hid (hy0_4.out.below hb hy0_4.out.lt); have hy1_5 := Lib.hid (hy1_4.out.below hb hy1_4.out.lt); have BW_5 := Lib.hid (BW_4.out.trans (hb.mono BW_4.out.size)); replace HI1 := Lib.hid (HI1.out.below hb); replace HI2 := Lib.hid (HI2.out.below hb); replace HJ1 := Lib.hid (HJ1.out.below hb); replace HJ2 := Lib.hid (HJ2.out.below hb); replace HOa := Lib.hid (own_below HOa.out hb); clear hb; obtain ⟨Ab, cb, rfl⟩ := own_slice ho; obtain ⟨nb, hnb⟩ : ∃ N, N = lb.length := ⟨_, rfl⟩; rw [← hnb] at hlb ho ⊢; have HNb := Lib.hid hnb; have HOb := Lib.hid ho; clear ho hnb; have hsb : nb ≤ 60 := (by have := HCb.out.1.1.2; rwa [← HNb.out] at this); clear hq) | (go_at_call 225; (with_reducible refine (impl_crossed g1 A1 n1 c1 xs B1 m1 d1 es g2 A2 n2 c2 ys B2 m2 d2 fs _ HI1.out R1.out HJ2.out S2.out).mono ?_); rintro e w4 ⟨ga, la, va, rfl, hq, ⟨hla, ho⟩, hb⟩; have HCa := Lib.hid (cross_mk K1.out K2.out hq); have hy0_4 := Lib.hid (hy0_3.out.below hb hy0_3.out.lt); have hy1_4 := Lib.hid (hy1_3.out.below hb hy1_3.out.lt); have BW_4 := Lib.hid (BW_3.out.trans (hb.mono BW_3.out.size)); replace HI1 := Lib.hid (HI1.out.below hb); replace HI2 := Lib.hid (HI2.out.below hb); replace HJ1 := Lib.hid (HJ1.out.below hb); replace HJ2 := Lib.hid (HJ2.out.below hb); clear hb; obtain ⟨Aa, ca, rfl⟩ := own_slice ho; obtain ⟨na, hna⟩ : ∃ N, N = la.length := ⟨_, rfl⟩; rw [← hna] at hla ho ⊢; have HNa := Lib.hid hna; have HOa := Lib.hid ho; clear ho hna; have hsa : na ≤ 60 := (by have := HCa.out.1.1.2; rwa [← HNa.out] at this); clear hq))
  go_wp2_with fail
  go_ret
  exact ⟨_, rfl, HR.out, BW_6.out⟩
end Go.Proofs.YtegclofijaoajaaGreat
namespace Go.Proofs.YtegclofijaoajaaGreat
set_option maxRecDepth 100000
open Go.RowKit Go.Deep

section
variable {g1 g2 : Bool} {xs es ys fs : List Int} {r : Int}
end
end Go.Proofs.YtegclofijaoajaaGreat
namespace Go.Proofs.YtegclofijaoajaaGreat
set_option maxRecDepth 100000
open Go.RowKit Go.Deep

section
variable {g1 g2 : Bool} {xs es ys fs : List Int} {r : Int}
end
end Go.Proofs.YtegclofijaoajaaGreat
