/- Contracts of fractions: the sign, comparison. -/
import Derived.Test.YtjohglkfcefimaaGreatRatS5
import Derived.Test.YtjohglkfcefimaaGreatGE
import Derived.Test.YtjohglkfcefimaaGreatGF
namespace Go.Proofs.YtjohglkfcefimaaGreat
set_option maxRecDepth 100000
open Go.RowKit

def IntEnd (Q : Int → Prop) (w w' : World) (e : Ending) : Prop := ∃ r, e = .returned (.int .i64 r) ∧ Q r ∧ Below w.heap.size w w'
theorem rsign_no {g : Bool} {xs es : List Int} {w w' : World} (h : ¬ ROk g xs es) (hb : Below w.heap.size w w') : IntEnd (RatSignIs g xs es) w w' (.returned (.int .i64 0)) := ⟨0, rfl, .inr ⟨h, rfl⟩, hb⟩
theorem rsign_yes {g : Bool} {xs es : List Int} {w w' : World} {r : Int} (h : ROk g xs es) (hr : sg g xs.length = r) (hb : Below w.heap.size w w') : IntEnd (RatSignIs g xs es) w w' (.returned (.int .i64 r)) := ⟨r, rfl, .inl ⟨h, hr.symm⟩, hb⟩
theorem rsign_zero {g : Bool} {xs es : List Int} {n : Nat} (h : ROk g xs es) (hl : xs.length = 0) (hn : n = 0) : sg g n = 0 := by
  subst hn
  have e := List.eq_nil_of_length_eq_zero hl
  cases g
  · rfl
  · exact absurd e (h.1.2 rfl)
theorem rcmp_no {g1 g2 : Bool} {xs es ys fs : List Int} {w w' : World} (h : ¬ (ROk g1 xs es ∧ ROk g2 ys fs)) (hb : Below w.heap.size w w') : IntEnd (RatCmpIs g1 xs es g2 ys fs) w w' (.returned (.int .i64 0)) := ⟨0, rfl, .inr ⟨h, rfl⟩, hb⟩
theorem crossOk {N : Int} {g : Bool} {l : List Int} (h : Hid (CrossIs N g l)) : BOk g l := h.out.1
theorem rcmp_fin {g1 g2 ga gb : Bool} {xs es ys fs la lb : List Int} {r : Int} (k1 : ROk g1 xs es) (k2 : ROk g2 ys fs) (ha : CrossIs (bval g1 xs * val fs) ga la) (hb : CrossIs (bval g2 ys * val es) gb lb) (h : BigIntCmpIs ga la gb lb r) : RatCmpIs g1 xs es g2 ys fs r := by
  rcases h with ⟨_, h⟩ | ⟨h, _⟩
  · rw [ha.2.1, hb.2.1] at h; exact .inl ⟨⟨k1, k2⟩, h⟩
  · exact absurd ⟨ha.1, hb.1⟩ h
set_option maxHeartbeats 3200000 in
theorem spec_ratSign0 (g1 : Bool) (A1 : Option Addr) (n1 c1 : Nat) (xs : List Int) (B1 : Option Addr) (m1 d1 : Nat) (es : List Int) (w : World) (h1 : InI w A1 n1 xs) (r1 : Room A1 n1 c1) (k1 : InI w B1 m1 es) (s1 : Room B1 m1 d1) :
    Calls Tryz.prog 69 #[.agg #[.bool g1, .slice A1 n1 c1, .slice B1 m1 d1]] w fun e w' => IntEnd (RatSignIs g1 xs es) w w' e := by
  have hn1 := h1.2.1
  have hm1 := k1.2.1
  obtain ⟨W0, hW0⟩ : ∃ W, W = (w.alloc (.cells #[.bool g1, .slice A1 n1 c1, .slice B1 m1 d1] 39)) := ⟨_, rfl⟩
  have hy0_0 : Hid (Box W0 (w.heap.size) 39 #[.bool g1, .slice A1 n1 c1, .slice B1 m1 d1]) := by rw [hW0]; exact (Box.at' (by simp))
  have BW_0 : Hid (Below w.heap.size w W0) := by rw [hW0]; exact ((Below.refl w.heap.size w).alloc (by simp) _)
  have hsz0 : w.heap.size + 1 ≤ W0.heap.size := by rw [hW0]; simp
  have HI1 := Lib.hid (h1.below BW_0.out)
  have HJ1 := Lib.hid (k1.below BW_0.out)
  have R1 := Lib.hid r1
  have S1 := Lib.hid s1
  clear h1 k1 r1 s1
  go_enter Tryz.func69, Tryz.ntmps69
  go_wp2_with fail
  rw [← hW0]
  clear hW0
  refine (spec_ratOk' g1 A1 n1 c1 xs B1 m1 d1 es _ HI1.out HJ1.out).mono ?_
  rintro e wa ⟨⟨b, rfl, hi⟩, hb⟩
  have hy0_1 := Lib.hid (hy0_0.out.below hb hy0_0.out.lt)
  have BW_1 := Lib.hid (BW_0.out.trans (hb.mono BW_0.out.size))
  replace HI1 := Lib.hid (HI1.out.below hb)
  replace HJ1 := Lib.hid (HJ1.out.below hb)
  clear hb
  have ehy00 := hy0_1.out.cell 0
  have ehy01 := hy0_1.out.cell 1
  have ehy02 := hy0_1.out.cell 2
  simp at ehy00 ehy01 ehy02
  cases b
  · have hno : ¬ ROk g1 xs es := fun h => by have := hi.2 h; cases this
    clear hi
    have HF := Lib.hid (rsign_no (w := w) hno BW_1.out)
    go_wp2_with fail
    go_ret
    exact HF.out
  have K1 := Lib.hid (hi.1 rfl)
  clear hi
  have hn1 : n1 ≤ 24 := by have := K1.out.2.2.2.2.1; rwa [HI1.out.1] at this
  have hm1 : m1 ≤ 24 := by have := K1.out.2.2.2.2.2; rwa [HJ1.out.1] at this
  by_cases hz : n1 = 0
  · have HF : Hid (IntEnd (RatSignIs g1 xs es) w wa (.returned (.int .i64 0))) := rsign_yes (w := w) K1.out (by rw [HI1.out.1]; exact rsign_zero K1.out (HI1.out.1.trans hz) hz) BW_1.out
    have ht : ((n1 : Int) == 0) = true := by simp [hz]
    clear hz
    go_wp2_with fail
    go_ret
    exact HF.out
  have ht : ((n1 : Int) == 0) = false := by simp [hz]
  cases g1
  · have HF : Hid (IntEnd (RatSignIs false xs es) w wa (.returned (.int .i64 1))) := rsign_yes (w := w) K1.out (by rw [HI1.out.1]; simp [sg, hz]) BW_1.out
    clear hz
    go_wp2_with fail
    go_ret
    exact HF.out
  · have HF : Hid (IntEnd (RatSignIs true xs es) w wa (.returned (.int .i64 (-1)))) := rsign_yes (w := w) K1.out (by simp [sg]) BW_1.out
    clear hz
    go_wp2_with fail
    go_ret
    exact HF.out
theorem spec_ratSign (g1 : Bool) (A1 : Option Addr) (n1 c1 : Nat) (xs : List Int) (B1 : Option Addr) (m1 d1 : Nat) (es : List Int) (w : World) (h1 : InI w A1 n1 xs) (r1 : Room A1 n1 c1) (k1 : InI w B1 m1 es) (s1 : Room B1 m1 d1) :
    Calls Tryz.prog 69 #[.agg #[.bool g1, .slice A1 n1 c1, .slice B1 m1 d1]] w fun e w' => ∃ r, e = .returned (.int .i64 r) ∧ RatSignIs g1 xs es r ∧ Below w.heap.size w w' :=
  (spec_ratSign0 g1 A1 n1 c1 xs B1 m1 d1 es w h1 r1 k1 s1).mono fun _ _ h => h
set_option maxHeartbeats 3200000 in
theorem impl_ratSign0 (g1 : Bool) (A1 : Option Addr) (n1 c1 : Nat) (xs : List Int) (B1 : Option Addr) (m1 d1 : Nat) (es : List Int) (w : World) (h1 : InI w A1 n1 xs) (r1 : Room A1 n1 c1) (k1 : InI w B1 m1 es) (s1 : Room B1 m1 d1) :
    Calls Tryz.prog 47 #[.agg #[.bool g1, .slice A1 n1 c1, .slice B1 m1 d1]] w fun e w' => IntEnd (RatSignIs g1 xs es) w w' e := by
  have hn1 := h1.2.1
  have hm1 := k1.2.1
  obtain ⟨W0, hW0⟩ : ∃ W, W = (w.alloc (.cells #[.bool g1, .slice A1 n1 c1, .slice B1 m1 d1] 39)) := ⟨_, rfl⟩
  have hy0_0 : Hid (Box W0 (w.heap.size) 39 #[.bool g1, .slice A1 n1 c1, .slice B1 m1 d1]) := by rw [hW0]; exact (Box.at' (by simp))
  have BW_0 : Hid (Below w.heap.size w W0) := by rw [hW0]; exact ((Below.refl w.heap.size w).alloc (by simp) _)
  have hsz0 : w.heap.size + 1 ≤ W0.heap.size := by rw [hW0]; simp
  have HI1 := Lib.hid (h1.below BW_0.out)
  have HJ1 := Lib.hid (k1.below BW_0.out)
  have R1 := Lib.hid r1
  have S1 := Lib.hid s1
  clear h1 k1 r1 s1
  go_enter Tryz.func47, Tryz.ntmps47
  go_wp2_with fail
  rw [← hW0]
  clear hW0
  refine (impl_ratOk' g1 A1 n1 c1 xs B1 m1 d1 es _ HI1.out HJ1.out).mono ?_
  rintro e wa ⟨⟨b, rfl, hi⟩, hb⟩
  have hy0_1 := Lib.hid (hy0_0.out.below hb hy0_0.out.lt)
  have BW_1 := Lib.hid (BW_0.out.trans (hb.mono BW_0.out.size))
  replace HI1 := Lib.hid (HI1.out.below hb)
  replace HJ1 := Lib.hid (HJ1.out.below hb)
  clear hb
  have ehy00 := hy0_1.out.cell 0
  have ehy01 := hy0_1.out.cell 1
  have ehy02 := hy0_1.out.cell 2
  simp at ehy00 ehy01 ehy02
  cases b
  · have hno : ¬ ROk g1 xs es := fun h => by have := hi.2 h; cases this
    clear hi
    have HF := Lib.hid (rsign_no (w := w) hno BW_1.out)
    go_wp2_with fail
    go_ret
    exact HF.out
  have K1 := Lib.hid (hi.1 rfl)
  clear hi
  have hn1 : n1 ≤ 24 := by have := K1.out.2.2.2.2.1; rwa [HI1.out.1] at this
  have hm1 : m1 ≤ 24 := by have := K1.out.2.2.2.2.2; rwa [HJ1.out.1] at this
  obtain ⟨s, hs⟩ : ∃ s, sg g1 n1 = s := ⟨_, rfl⟩
  have HS := Lib.hid hs
  have hbd := sg_bd g1 n1
  rw [hs] at hbd
  clear hs
  go_wp2_with fail
  clear ehy00 ehy01 ehy02
  refine (impl_signOf g1 A1 n1 c1 s _ HS.out (by omega)).mono ?_
  rintro e wb ⟨rfl, hb⟩
  have hy0_2 := Lib.hid (hy0_1.out.below hb hy0_1.out.lt)
  have BW_2 := Lib.hid (BW_1.out.trans (hb.mono BW_1.out.size))
  clear hb
  have HF := Lib.hid (rsign_yes (w := w) (r := s) K1.out (by rw [HI1.out.1]; exact HS.out) BW_2.out)
  go_wp2_with fail
  go_ret
  exact HF.out
theorem impl_ratSign (g1 : Bool) (A1 : Option Addr) (n1 c1 : Nat) (xs : List Int) (B1 : Option Addr) (m1 d1 : Nat) (es : List Int) (w : World) (h1 : InI w A1 n1 xs) (r1 : Room A1 n1 c1) (k1 : InI w B1 m1 es) (s1 : Room B1 m1 d1) :
    Calls Tryz.prog 47 #[.agg #[.bool g1, .slice A1 n1 c1, .slice B1 m1 d1]] w fun e w' => ∃ r, e = .returned (.int .i64 r) ∧ RatSignIs g1 xs es r ∧ Below w.heap.size w w' :=
  (impl_ratSign0 g1 A1 n1 c1 xs B1 m1 d1 es w h1 r1 k1 s1).mono fun _ _ h => h
set_option maxHeartbeats 3200000 in
theorem spec_l04Cmp (g1 : Bool) (A1 : Option Addr) (n1 c1 : Nat) (xs : List Int) (B1 : Option Addr) (m1 d1 : Nat) (es : List Int) (g2 : Bool) (A2 : Option Addr) (n2 c2 : Nat) (ys : List Int) (B2 : Option Addr) (m2 d2 : Nat) (fs : List Int) (w : World) (h1 : InI w A1 n1 xs) (r1 : Room A1 n1 c1) (k1 : InI w B1 m1 es) (s1 : Room B1 m1 d1) (h2 : InI w A2 n2 ys) (r2 : Room A2 n2 c2) (k2 : InI w B2 m2 fs) (s2 : Room B2 m2 d2)(q1 : ROk g1 xs es) (q2 : ROk g2 ys fs) :
    Calls Tryz.prog 72 #[.agg #[.bool g1, .slice A1 n1 c1, .slice B1 m1 d1], .agg #[.bool g2, .slice A2 n2 c2, .slice B2 m2 d2]] w fun e w' => e = .returned (.int .i64 (cmpV (bval g1 xs * val fs) (bval g2 ys * val es))) ∧ Below w.heap.size w w' := by
  have hn1 := h1.2.1
  have hn2 := h2.2.1
  have hm1 := k1.2.1
  have hm2 := k2.2.1
  obtain ⟨W0, hW0⟩ : ∃ W, W = ((w.alloc (.cells #[.bool g1, .slice A1 n1 c1, .slice B1 m1 d1] 39)).alloc (.cells #[.bool g2, .slice A2 n2 c2, .slice B2 m2 d2] 39)) := ⟨_, rfl⟩
  have hy0_0 : Hid (Box W0 (w.heap.size) 39 #[.bool g1, .slice A1 n1 c1, .slice B1 m1 d1]) := by rw [hW0]; exact ((Box.at' (by simp)).alloc _)
  have hy1_0 : Hid (Box W0 (w.heap.size + 1) 39 #[.bool g2, .slice A2 n2 c2, .slice B2 m2 d2]) := by rw [hW0]; exact (Box.at' (by simp))
  have BW_0 : Hid (Below w.heap.size w W0) := by rw [hW0]; exact (((Below.refl w.heap.size w).alloc (by simp) _).alloc (by simp) _)
  have hsz0 : w.heap.size + 1 + 1 ≤ W0.heap.size := by rw [hW0]; simp
  have HI1 := Lib.hid (h1.below BW_0.out)
  have HI2 := Lib.hid (h2.below BW_0.out)
  have HJ1 := Lib.hid (k1.below BW_0.out)
  have HJ2 := Lib.hid (k2.below BW_0.out)
  have R1 := Lib.hid r1
  have R2 := Lib.hid r2
  have S1 := Lib.hid s1
  have S2 := Lib.hid s2
  clear h1 h2 k1 k2 r1 r2 s1 s2
  go_enter Tryz.func72, Tryz.ntmps72
  go_wp2_with fail
  rw [← hW0]
  clear hW0
  have K1 := Lib.hid q1
  have K2 := Lib.hid q2
  clear q1 q2
  have hn1 : n1 ≤ 24 := by have := K1.out.2.2.2.2.1; rwa [HI1.out.1] at this
  have hn2 : n2 ≤ 24 := by have := K2.out.2.2.2.2.1; rwa [HI2.out.1] at this
  have hm1 : m1 ≤ 24 := by have := K1.out.2.2.2.2.2; rwa [HJ1.out.1] at this
  have hm2 : m2 ≤ 24 := by have := K2.out.2.2.2.2.2; rwa [HJ2.out.1] at this
  have hy0_1 := Lib.hid hy0_0.out.drew
  have hy1_1 := Lib.hid hy1_0.out.drew
  have BW_1 := Lib.hid BW_0.out.drew
  replace HI1 := Lib.hid HI1.out.drew
  replace HI2 := Lib.hid HI2.out.drew
  replace HJ1 := Lib.hid HJ1.out.drew
  replace HJ2 := Lib.hid HJ2.out.drew
  have cvhy00 : Hid ((#[.bool g1, .slice A1 n1 c1, .slice B1 m1 d1] : Array Value)[0]? = some (.bool g1)) := rfl
  have cvhy01 : Hid ((#[.bool g1, .slice A1 n1 c1, .slice B1 m1 d1] : Array Value)[1]? = some (.slice A1 n1 c1)) := rfl
  have cvhy02 : Hid ((#[.bool g1, .slice A1 n1 c1, .slice B1 m1 d1] : Array Value)[2]? = some (.slice B1 m1 d1)) := rfl
  have cvhy10 : Hid ((#[.bool g2, .slice A2 n2 c2, .slice B2 m2 d2] : Array Value)[0]? = some (.bool g2)) := rfl
  have cvhy11 : Hid ((#[.bool g2, .slice A2 n2 c2, .slice B2 m2 d2] : Array Value)[1]? = some (.slice A2 n2 c2)) := rfl
  have cvhy12 : Hid ((#[.bool g2, .slice A2 n2 c2, .slice B2 m2 d2] : Array Value)[2]? = some (.slice B2 m2 d2)) := rfl
  go_region_held3 (fun w' => w'.cell? ⟨w.heap.size, 0, none⟩ = some (.bool g1) ∧ w'.cell? ⟨w.heap.size, 1, none⟩ = some (.slice A1 n1 c1) ∧ w'.cell? ⟨w.heap.size, 2, none⟩ = some (.slice B1 m1 d1) ∧ w'.cell? ⟨w.heap.size + 1, 0, none⟩ = some (.bool g2) ∧ w'.cell? ⟨w.heap.size + 1, 1, none⟩ = some (.slice A2 n2 c2) ∧ w'.cell? ⟨w.heap.size + 1, 2, none⟩ = some (.slice B2 m2 d2)) (first | with_reducible exact ⟨cellS hy0_6 cvhy00, cellS hy0_6 cvhy01, cellS hy0_6 cvhy02, cellS hy1_6 cvhy10, cellS hy1_6 cvhy11, cellS hy1_6 cvhy12⟩ | with_reducible exact ⟨cellS hy0_6 cvhy00, cellS hy0_6 cvhy01, cellS hy0_6 cvhy02, cellS hy1_6 cvhy10, cellS hy1_6 cvhy11, cellS hy1_6 cvhy12⟩ | with_reducible exact ⟨cellS hy0_5 cvhy00, cellS hy0_5 cvhy01, cellS hy0_5 cvhy02, cellS hy1_5 cvhy10, cellS hy1_5 cvhy11, cellS hy1_5 cvhy12⟩ | with_reducible exact ⟨cellS hy0_4 cvhy00, cellS hy0_4 cvhy01, cellS hy0_4 cvhy02, cellS hy1_4 cvhy10, cellS hy1_4 cvhy11, cellS hy1_4 cvhy12⟩ | with_reducible exact ⟨cellS hy0_3 cvhy00, cellS hy0_3 cvhy01, cellS hy0_3 cvhy02, cellS hy1_3 cvhy10, cellS hy1_3 cvhy11, cellS hy1_3 cvhy12⟩ | with_reducible exact ⟨cellS hy0_2 cvhy00, cellS hy0_2 cvhy01, cellS hy0_2 cvhy02, cellS hy1_2 cvhy10, cellS hy1_2 cvhy11, cellS hy1_2 cvhy12⟩ | with_reducible exact ⟨cellS hy0_1 cvhy00, cellS hy0_1 cvhy01, cellS hy0_1 cvhy02, cellS hy1_1 cvhy10, cellS hy1_1 cvhy11, cellS hy1_1 cvhy12⟩) (first | (go_at_call 130; (refine (spec_bigCmp sa Aa na ca la sb Ab nb cb lb _ ⟨HNa.out.symm, (by omega), Reads.of_own HOa.out, limbs_bd (crossOk HCa).1.1.1⟩ ⟨HNb.out.symm, (by omega), Reads.of_own HOb.out, limbs_bd (crossOk HCb).1.1.1⟩ (crossOk HCa) (crossOk HCb)).mono ?_); rintro e w6 ⟨rfl, hb⟩; have hy0_6 := Lib.hid (hy0_5.out.below hb hy0_5.out.lt); have hy1_6 := Lib.hid (hy1_5.out.below hb hy1_5.out.lt); have BW_6 := Lib.hid (BW_5.out.trans (hb.mono BW_5.out.size)); clear hb) | (go_at_call 131; (with_reducible refine (spec_make g2 Aq nq cq lq _ HNq.out.symm (by omega) (room_own HOq.out) (Reads.of_own HOq.out) (okval_inR HCq.out)).mono ?_); rintro e w5 ⟨lb, vb, rfl, hm, ⟨hlb, ho⟩, hb⟩; have HCb := Lib.hid (made_cross K2.out K1.out HCq.out hm); obtain ⟨sb, hsx⟩ : ∃ s, s = sgn g2 lb := ⟨_, rfl⟩; rw [← hsx] at HCb ⊢; clear hsx hm; have hy0_5 := Lib.hid (hy0_4.out.below hb hy0_4.out.lt); have hy1_5 := Lib.hid (hy1_4.out.below hb hy1_4.out.lt); have BW_5 := Lib.hid (BW_4.out.trans (hb.mono BW_4.out.size)); replace HI1 := Lib.hid (HI1.out.below hb); replace HI2 := Lib.hid (HI2.out.below hb); replace HJ1 := Lib.hid (HJ1.out.below hb); replace HJ2 := Lib.hid (HJ2.out.below hb); replace HOa := Lib.hid (own_below HOa.out hb); clear hb; obtain ⟨Ab, cb, rfl⟩ := own_slice ho; obtain ⟨nb, hnb⟩ : ∃ N, N = lb.length := ⟨_, rfl⟩; rw [← hnb] at hlb ho ⊢; have HNb := Lib.hid hnb; have HOb := Lib.hid ho; clear ho hnb; have hsb : nb ≤ 60 := (by have := HCb.out.1.1.2; rwa [← HNb.out] at this)) | (go_at_call 132; (with_reducible refine (spec_mul A2 n2 c2 ys B1 m1 d1 es _ HI2.out.canon HJ1.out.canon K2.out.nr K1.out.dr).mono ?_); rintro e w4 ⟨lq, Aq, cq, rfl, hcan, hv, hlq, ho, hb⟩; have HCq := Lib.hid (prod_ok hcan hv K2.out.nb K1.out.db); have hy0_4 := Lib.hid (hy0_3.out.below hb hy0_3.out.lt); have hy1_4 := Lib.hid (hy1_3.out.below hb hy1_3.out.lt); have BW_4 := Lib.hid (BW_3.out.trans (hb.mono BW_3.out.size)); replace HI1 := Lib.hid (HI1.out.below hb); replace HI2 := Lib.hid (HI2.out.below hb); replace HJ1 := Lib.hid (HJ1.out.below hb); replace HJ2 := Lib.hid (HJ2.out.below hb); replace HOa := Lib.hid (own_below HOa.out hb); clear hb; obtain ⟨nq, hN⟩ : ∃ N, N = lq.length := ⟨_, rfl⟩; rw [← hN] at hlq ho ⊢; have HNq := Lib.hid hN; have HOq := Lib.hid ho; have hsq : nq ≤ 60 := (by have := HCq.out.1.2; rwa [← hN] at this); clear hcan hv ho hN) | (go_at_call 131; (with_reducible refine (spec_make g1 Ap np cp lp _ HNp.out.symm (by omega) (room_own HOp.out) (Reads.of_own HOp.out) (okval_inR HCp.out)).mono ?_); rintro e w3 ⟨la, va, rfl, hm, ⟨hla, ho⟩, hb⟩; have HCa := Lib.hid (made_cross K1.out K2.out HCp.out hm); obtain ⟨sa, hsx⟩ : ∃ s, s = sgn g1 la := ⟨_, rfl⟩; rw [← hsx] at HCa ⊢; clear hsx hm; have hy0_3 := Lib.hid (hy0_2.out.below hb hy0_2.out.lt); have hy1_3 := Lib.hid (hy1_2.out.below hb hy1_2.out.lt); have BW_3 := Lib.hid (BW_2.out.trans (hb.mono BW_2.out.size)); replace HI1 := Lib.hid (HI1.out.below hb); replace HI2 := Lib.hid (HI2.out.below hb); replace HJ1 := Lib.hid (HJ1.out.below hb); replace HJ2 := Lib.hid (HJ2.out.below hb); clear hb; obtain ⟨Aa, ca, rfl⟩ := own_slice ho; obtain ⟨na, hna⟩ : ∃ N, N = la.length := ⟨_, rfl⟩; rw [← hna] at hla ho ⊢; have HNa := Lib.hid hna; have HOa := Lib.hid ho; clear ho hna; have hsa : na ≤ 60 := (by have := HCa.out.1.1.2; rwa [← HNa.out] at this)) | (go_at_call 132; (with_reducible refine (spec_mul A1 n1 c1 xs B2 m2 d2 fs _ HI1.out.canon HJ2.out.canon K1.out.nr K2.out.dr).mono ?_); rintro e w2 ⟨lp, Ap, cp, rfl, hcan, hv, hlp, ho, hb⟩; have HCp := Lib.hid (prod_ok hcan hv K1.out.nb K2.out.db); have hy0_2 := Lib.hid (hy0_1.out.below hb hy0_1.out.lt); have hy1_2 := Lib.hid (hy1_1.out.below hb hy1_1.out.lt); have BW_2 := Lib.hid (BW_1.out.trans (hb.mono BW_1.out.size)); replace HI1 := Lib.hid (HI1.out.below hb); replace HI2 := Lib.hid (HI2.out.below hb); replace HJ1 := Lib.hid (HJ1.out.below hb); replace HJ2 := Lib.hid (HJ2.out.below hb); clear hb; obtain ⟨np, hN⟩ : ∃ N, N = lp.length := ⟨_, rfl⟩; rw [← hN] at hlp ho ⊢; have HNp := Lib.hid hN; have HOp := Lib.hid ho; have hsp : np ≤ 60 := (by have := HCp.out.1.2; rwa [← hN] at this); clear hcan hv ho hN))
  have HF : Hid (cmpV (bval sa la) (bval sb lb) = cmpV (bval g1 xs * val fs) (bval g2 ys * val es)) := by unfold Hid; rw [HCa.out.2.1, HCb.out.2.1]
  go_wp2_with fail
  go_ret
  exact ⟨ret_int HF.out, BW_6.out⟩
set_option maxHeartbeats 3200000 in
theorem impl_ratCmp0 (g1 : Bool) (A1 : Option Addr) (n1 c1 : Nat) (xs : List Int) (B1 : Option Addr) (m1 d1 : Nat) (es : List Int) (g2 : Bool) (A2 : Option Addr) (n2 c2 : Nat) (ys : List Int) (B2 : Option Addr) (m2 d2 : Nat) (fs : List Int) (w : World) (h1 : InI w A1 n1 xs) (r1 : Room A1 n1 c1) (k1 : InI w B1 m1 es) (s1 : Room B1 m1 d1) (h2 : InI w A2 n2 ys) (r2 : Room A2 n2 c2) (k2 : InI w B2 m2 fs) (s2 : Room B2 m2 d2) :
    Calls Tryz.prog 144 #[.agg #[.bool g1, .slice A1 n1 c1, .slice B1 m1 d1], .agg #[.bool g2, .slice A2 n2 c2, .slice B2 m2 d2]] w fun e w' => IntEnd (RatCmpIs g1 xs es g2 ys fs) w w' e := by
  have hn1 := h1.2.1
  have hn2 := h2.2.1
  have hm1 := k1.2.1
  have hm2 := k2.2.1
  obtain ⟨W0, hW0⟩ : ∃ W, W = ((w.alloc (.cells #[.bool g1, .slice A1 n1 c1, .slice B1 m1 d1] 39)).alloc (.cells #[.bool g2, .slice A2 n2 c2, .slice B2 m2 d2] 39)) := ⟨_, rfl⟩
  have hy0_0 : Hid (Box W0 (w.heap.size) 39 #[.bool g1, .slice A1 n1 c1, .slice B1 m1 d1]) := by rw [hW0]; exact ((Box.at' (by simp)).alloc _)
  have hy1_0 : Hid (Box W0 (w.heap.size + 1) 39 #[.bool g2, .slice A2 n2 c2, .slice B2 m2 d2]) := by rw [hW0]; exact (Box.at' (by simp))
  have BW_0 : Hid (Below w.heap.size w W0) := by rw [hW0]; exact (((Below.refl w.heap.size w).alloc (by simp) _).alloc (by simp) _)
  have hsz0 : w.heap.size + 1 + 1 ≤ W0.heap.size := by rw [hW0]; simp
  have HI1 := Lib.hid (h1.below BW_0.out)
  have HI2 := Lib.hid (h2.below BW_0.out)
  have HJ1 := Lib.hid (k1.below BW_0.out)
  have HJ2 := Lib.hid (k2.below BW_0.out)
  have R1 := Lib.hid r1
  have R2 := Lib.hid r2
  have S1 := Lib.hid s1
  have S2 := Lib.hid s2
  clear h1 h2 k1 k2 r1 r2 s1 s2
  go_enter Tryz.func144, Tryz.ntmps144
  go_wp2_with fail
  rw [← hW0]
  clear hW0
  refine (impl_ratOk' g1 A1 n1 c1 xs B1 m1 d1 es _ HI1.out HJ1.out).mono ?_
  rintro e wa ⟨⟨b, rfl, hi⟩, hb⟩
  have hy0_1 := Lib.hid (hy0_0.out.below hb hy0_0.out.lt)
  have hy1_1 := Lib.hid (hy1_0.out.below hb hy1_0.out.lt)
  have BW_1 := Lib.hid (BW_0.out.trans (hb.mono BW_0.out.size))
  replace HI1 := Lib.hid (HI1.out.below hb)
  replace HI2 := Lib.hid (HI2.out.below hb)
  replace HJ1 := Lib.hid (HJ1.out.below hb)
  replace HJ2 := Lib.hid (HJ2.out.below hb)
  clear hb
  have ehy00 := hy0_1.out.cell 0
  have ehy01 := hy0_1.out.cell 1
  have ehy02 := hy0_1.out.cell 2
  have ehy10 := hy1_1.out.cell 0
  have ehy11 := hy1_1.out.cell 1
  have ehy12 := hy1_1.out.cell 2
  simp at ehy00 ehy01 ehy02 ehy10 ehy11 ehy12
  cases b
  · have hno : ¬ (ROk g1 xs es ∧ ROk g2 ys fs) := fun h => by have := hi.2 h.1; cases this
    clear hi
    have HF := Lib.hid (rcmp_no (w := w) hno BW_1.out)
    go_wp2_with fail
    go_ret
    exact HF.out
  have K1 := Lib.hid (hi.1 rfl)
  clear hi
  go_wp2_with fail
  refine (impl_ratOk' g2 A2 n2 c2 ys B2 m2 d2 fs _ HI2.out HJ2.out).mono ?_
  rintro e wb ⟨⟨b, rfl, hi⟩, hb⟩
  have hy0_2 := Lib.hid (hy0_1.out.below hb hy0_1.out.lt)
  have hy1_2 := Lib.hid (hy1_1.out.below hb hy1_1.out.lt)
  have BW_2 := Lib.hid (BW_1.out.trans (hb.mono BW_1.out.size))
  replace HI1 := Lib.hid (HI1.out.below hb)
  replace HI2 := Lib.hid (HI2.out.below hb)
  replace HJ1 := Lib.hid (HJ1.out.below hb)
  replace HJ2 := Lib.hid (HJ2.out.below hb)
  clear hb
  clear ehy00 ehy01 ehy02 ehy10 ehy11 ehy12
  have ehy00 := hy0_2.out.cell 0
  have ehy01 := hy0_2.out.cell 1
  have ehy02 := hy0_2.out.cell 2
  have ehy10 := hy1_2.out.cell 0
  have ehy11 := hy1_2.out.cell 1
  have ehy12 := hy1_2.out.cell 2
  simp at ehy00 ehy01 ehy02 ehy10 ehy11 ehy12
  cases b
  · have hno : ¬ (ROk g1 xs es ∧ ROk g2 ys fs) := fun h => by have := hi.2 h.2; cases this
    clear hi
    have HF := Lib.hid (rcmp_no (w := w) hno BW_2.out)
    go_wp2_with fail
    go_ret
    exact HF.out
  have K2 := Lib.hid (hi.1 rfl)
  clear hi
  have hn1 : n1 ≤ 24 := by have := K1.out.2.2.2.2.1; rwa [HI1.out.1] at this
  have hn2 : n2 ≤ 24 := by have := K2.out.2.2.2.2.1; rwa [HI2.out.1] at this
  have hm1 : m1 ≤ 24 := by have := K1.out.2.2.2.2.2; rwa [HJ1.out.1] at this
  have hm2 : m2 ≤ 24 := by have := K2.out.2.2.2.2.2; rwa [HJ2.out.1] at this
  go_wp2_with fail
  clear ehy00 ehy01 ehy02 ehy10 ehy11 ehy12
  have hy0_3 := Lib.hid hy0_2.out.drew
  have hy1_3 := Lib.hid hy1_2.out.drew
  have BW_3 := Lib.hid BW_2.out.drew
  replace HI1 := Lib.hid HI1.out.drew
  replace HI2 := Lib.hid HI2.out.drew
  replace HJ1 := Lib.hid HJ1.out.drew
  replace HJ2 := Lib.hid HJ2.out.drew
  have cvhy00 : Hid ((#[.bool g1, .slice A1 n1 c1, .slice B1 m1 d1] : Array Value)[0]? = some (.bool g1)) := rfl
  have cvhy01 : Hid ((#[.bool g1, .slice A1 n1 c1, .slice B1 m1 d1] : Array Value)[1]? = some (.slice A1 n1 c1)) := rfl
  have cvhy02 : Hid ((#[.bool g1, .slice A1 n1 c1, .slice B1 m1 d1] : Array Value)[2]? = some (.slice B1 m1 d1)) := rfl
  have cvhy10 : Hid ((#[.bool g2, .slice A2 n2 c2, .slice B2 m2 d2] : Array Value)[0]? = some (.bool g2)) := rfl
  have cvhy11 : Hid ((#[.bool g2, .slice A2 n2 c2, .slice B2 m2 d2] : Array Value)[1]? = some (.slice A2 n2 c2)) := rfl
  have cvhy12 : Hid ((#[.bool g2, .slice A2 n2 c2, .slice B2 m2 d2] : Array Value)[2]? = some (.slice B2 m2 d2)) := rfl
  go_region_held3 (fun w' => w'.cell? ⟨w.heap.size, 0, none⟩ = some (.bool g1) ∧ w'.cell? ⟨w.heap.size, 1, none⟩ = some (.slice A1 n1 c1) ∧ w'.cell? ⟨w.heap.size, 2, none⟩ = some (.slice B1 m1 d1) ∧ w'.cell? ⟨w.heap.size + 1, 0, none⟩ = some (.bool g2) ∧ w'.cell? ⟨w.heap.size + 1, 1, none⟩ = some (.slice A2 n2 c2) ∧ w'.cell? ⟨w.heap.size + 1, 2, none⟩ = some (.slice B2 m2 d2)) (first | with_reducible exact ⟨cellS hy0_6 cvhy00, cellS hy0_6 cvhy01, cellS hy0_6 cvhy02, cellS hy1_6 cvhy10, cellS hy1_6 cvhy11, cellS hy1_6 cvhy12⟩ | with_reducible exact ⟨cellS hy0_6 cvhy00, cellS hy0_6 cvhy01, cellS hy0_6 cvhy02, cellS hy1_6 cvhy10, cellS hy1_6 cvhy11, cellS hy1_6 cvhy12⟩ | with_reducible exact ⟨cellS hy0_5 cvhy00, cellS hy0_5 cvhy01, cellS hy0_5 cvhy02, cellS hy1_5 cvhy10, cellS hy1_5 cvhy11, cellS hy1_5 cvhy12⟩ | with_reducible exact ⟨cellS hy0_4 cvhy00, cellS hy0_4 cvhy01, cellS hy0_4 cvhy02, cellS hy1_4 cvhy10, cellS hy1_4 cvhy11, cellS hy1_4 cvhy12⟩ | with_reducible exact ⟨cellS hy0_3 cvhy00, cellS hy0_3 cvhy01, cellS hy0_3 cvhy02, cellS hy1_3 cvhy10, cellS hy1_3 cvhy11, cellS hy1_3 cvhy12⟩) (first | (go_at_call 198; refine (impl_bigIntCmp' ga Aa na ca la gb Ab nb cb lb _ ⟨HNa.out.symm, (by omega), Reads.of_own HOa.out, limbs_bd HCa.out.1.1.1.1⟩ ⟨HNb.out.symm, (by omega), Reads.of_own HOb.out, limbs_bd HCb.out.1.1.1.1⟩).mono ?_; rintro e w6 ⟨r, rfl, hq, hb⟩; have HR := Lib.hid (rcmp_fin K1.out K2.out HCa.out HCb.out hq); clear hq; have hy0_6 := Lib.hid (hy0_5.out.below hb hy0_5.out.lt); have hy1_6 := Lib.hid (hy1_5.out.below hb hy1_5.out.lt); have BW_6 := Lib.hid (BW_5.out.trans (hb.mono BW_5.out.size)); clear hb) | (go_at_call 194; (with_reducible refine (impl_crossed g2 A2 n2 c2 ys B2 m2 d2 fs g1 A1 n1 c1 xs B1 m1 d1 es _ HI2.out R2.out HJ1.out S1.out).mono ?_); rintro e w5 ⟨gb, lb, vb, rfl, hq, ⟨hlb, ho⟩, hb⟩; have HCb := Lib.hid (cross_mk K2.out K1.out hq); have hy0_5 := Lib.hid (hy0_4.out.below hb hy0_4.out.lt); have hy1_5 := Lib.hid (hy1_4.out.below hb hy1_4.out.lt); have BW_5 := Lib.hid (BW_4.out.trans (hb.mono BW_4.out.size)); replace HI1 := Lib.hid (HI1.out.below hb); replace HI2 := Lib.hid (HI2.out.below hb); replace HJ1 := Lib.hid (HJ1.out.below hb); replace HJ2 := Lib.hid (HJ2.out.below hb); replace HOa := Lib.hid (own_below HOa.out hb); clear hb; obtain ⟨Ab, cb, rfl⟩ := own_slice ho; obtain ⟨nb, hnb⟩ : ∃ N, N = lb.length := ⟨_, rfl⟩; rw [← hnb] at hlb ho ⊢; have HNb := Lib.hid hnb; have HOb := Lib.hid ho; clear ho hnb; have hsb : nb ≤ 60 := (by have := HCb.out.1.1.2; rwa [← HNb.out] at this); clear hq) | (go_at_call 194; (with_reducible refine (impl_crossed g1 A1 n1 c1 xs B1 m1 d1 es g2 A2 n2 c2 ys B2 m2 d2 fs _ HI1.out R1.out HJ2.out S2.out).mono ?_); rintro e w4 ⟨ga, la, va, rfl, hq, ⟨hla, ho⟩, hb⟩; have HCa := Lib.hid (cross_mk K1.out K2.out hq); have hy0_4 := Lib.hid (hy0_3.out.below hb hy0_3.out.lt); have hy1_4 := Lib.hid (hy1_3.out.below hb hy1_3.out.lt); have BW_4 := Lib.hid (BW_3.out.trans (hb.mono BW_3.out.size)); replace HI1 := Lib.hid (HI1.out.below hb); replace HI2 := Lib.hid (HI2.out.below hb); replace HJ1 := Lib.hid (HJ1.out.below hb); replace HJ2 := Lib.hid (HJ2.out.below hb); clear hb; obtain ⟨Aa, ca, rfl⟩ := own_slice ho; obtain ⟨na, hna⟩ : ∃ N, N = la.length := ⟨_, rfl⟩; rw [← hna] at hla ho ⊢; have HNa := Lib.hid hna; have HOa := Lib.hid ho; clear ho hna; have hsa : na ≤ 60 := (by have := HCa.out.1.1.2; rwa [← HNa.out] at this); clear hq))
  go_wp2_with fail
  go_ret
  exact ⟨_, rfl, HR.out, BW_6.out⟩
theorem impl_ratCmp (g1 : Bool) (A1 : Option Addr) (n1 c1 : Nat) (xs : List Int) (B1 : Option Addr) (m1 d1 : Nat) (es : List Int) (g2 : Bool) (A2 : Option Addr) (n2 c2 : Nat) (ys : List Int) (B2 : Option Addr) (m2 d2 : Nat) (fs : List Int) (w : World) (h1 : InI w A1 n1 xs) (r1 : Room A1 n1 c1) (k1 : InI w B1 m1 es) (s1 : Room B1 m1 d1) (h2 : InI w A2 n2 ys) (r2 : Room A2 n2 c2) (k2 : InI w B2 m2 fs) (s2 : Room B2 m2 d2) :
    Calls Tryz.prog 144 #[.agg #[.bool g1, .slice A1 n1 c1, .slice B1 m1 d1], .agg #[.bool g2, .slice A2 n2 c2, .slice B2 m2 d2]] w fun e w' => ∃ r, e = .returned (.int .i64 r) ∧ RatCmpIs g1 xs es g2 ys fs r ∧ Below w.heap.size w w' :=
  (impl_ratCmp0 g1 A1 n1 c1 xs B1 m1 d1 es g2 A2 n2 c2 ys B2 m2 d2 fs w h1 r1 k1 s1 h2 r2 k2 s2).mono fun _ _ h => h
end Go.Proofs.YtjohglkfcefimaaGreat
namespace Go.Proofs.YtjohglkfcefimaaGreat
set_option maxRecDepth 100000
open Go.RowKit Go.Deep

set_option maxRecDepth 100000 in
set_option maxHeartbeats 3200000 in
theorem impl_copyOfRat (g1 : Bool) (A1 : Option Addr) (n1 c1 : Nat) (xs : List Int) (B1 : Option Addr) (m1 d1 : Nat) (es : List Int) (w : World) (h1 : InI w A1 n1 xs) (r1 : Room A1 n1 c1) (k1 : InI w B1 m1 es) (s1 : Room B1 m1 d1) (q1 : xs.length ≤ 24) (q2 : es.length ≤ 24) :
    Calls Tryz.prog 110 #[.agg #[.bool g1, .slice A1 n1 c1, .slice B1 m1 d1]] w fun e w' => RatEnd (fun g l d => g = g1 ∧ l = xs ∧ d = es) w w' e := by
  have hn1 := h1.2.1
  have hm1 := k1.2.1
  obtain ⟨W0, hW0⟩ : ∃ W, W = ((w.alloc (.cells #[.bool g1, .slice A1 n1 c1, .slice B1 m1 d1] 39)).alloc (.cells #[.bool false, .slice none 0 0, .slice none 0 0] 39)) := ⟨_, rfl⟩
  have hy0_0 : Hid (Box W0 (w.heap.size) 39 #[.bool g1, .slice A1 n1 c1, .slice B1 m1 d1]) := by rw [hW0]; exact ((Box.at' (by simp)).alloc _)
  have hs_0 : Hid (Box W0 (w.heap.size + 1) 39 #[.bool false, .slice none 0 0, .slice none 0 0]) := by rw [hW0]; exact (Box.at' (by simp))
  have BW_0 : Hid (Below w.heap.size w W0) := by rw [hW0]; exact (((Below.refl w.heap.size w).alloc (by simp) _).alloc (by simp) _)
  have hsz0 : w.heap.size + 1 + 1 ≤ W0.heap.size := by rw [hW0]; simp
  have HI1 := Lib.hid (h1.below BW_0.out)
  have HJ1 := Lib.hid (k1.below BW_0.out)
  have R1 := Lib.hid r1
  have S1 := Lib.hid s1
  have HH1 := Lib.hid h1
  have HK1 := Lib.hid k1
  clear h1 k1 r1 s1
  go_enter Tryz.func110, Tryz.ntmps110
  go_wp2_with fail
  rw [← hW0]
  clear hW0
  have sz_0 : W0.heap.size ≤ W0.heap.size := Nat.le_refl _
  go_upto_region 1 with fail
  go_cut [3] (fun s3 wx => ∃ (gb : Nat) (s0 : Bool) (l0 : List Int) (A0 : Option Addr) (n0 c0 : Nat), s3 = .pointer (some ⟨gb, 0, none⟩) ∧ W0.heap.size ≤ gb ∧ Hid (s0 = g1 ∧ l0 = xs) ∧ Hid (l0.length = n0) ∧ n0 ≤ 60 ∧ Hid (wx.ownsRow w.heap.size 3 1 (.slice A0 n0 c0) n0 (l0.map (.int .i64))) ∧ Hid (Box wx gb 37 #[.bool s0, .slice A0 n0 c0]) ∧ Hid (Below w.heap.size w wx) ∧ W0.heap.size ≤ wx.heap.size ∧ Hid (Box wx (w.heap.size) 39 #[.bool g1, .slice A1 n1 c1, .slice B1 m1 d1]) ∧ Hid (Box wx (w.heap.size + 1) 39 #[.bool false, .slice none 0 0, .slice none 0 0]))
  case first =>
    have hy0_1 := Lib.hid hy0_0.out.drew
    have hs_1 := Lib.hid hs_0.out.drew
    have BW_1 := Lib.hid BW_0.out.drew
    have sy_1 : W0.heap.size ≤ W0.drew.heap.size := Nat.le_refl _
    have cvhy00 : Hid ((#[.bool g1, .slice A1 n1 c1, .slice B1 m1 d1] : Array Value)[0]? = some (.bool g1)) := rfl
    have cvhy01 : Hid ((#[.bool g1, .slice A1 n1 c1, .slice B1 m1 d1] : Array Value)[1]? = some (.slice A1 n1 c1)) := rfl
    go_region_held3 (fun w' => w'.cell? ⟨w.heap.size, 0, none⟩ = some (.bool g1) ∧ w'.cell? ⟨w.heap.size, 1, none⟩ = some (.slice A1 n1 c1)) (first | with_reducible exact ⟨cellS hy0_2 cvhy00, cellS hy0_2 cvhy01⟩ | with_reducible exact ⟨cellS (hAlloc hy0_2 _) cvhy00, cellS (hAlloc hy0_2 _) cvhy01⟩ | with_reducible exact ⟨cellS (hFar (hFar hy0_2 (by have := hy0_0.out.lt; dsimp only; omega) _) (by have := hy0_0.out.lt; dsimp only; omega) _) cvhy00, cellS (hFar (hFar hy0_2 (by have := hy0_0.out.lt; dsimp only; omega) _) (by have := hy0_0.out.lt; dsimp only; omega) _) cvhy01⟩ | with_reducible exact ⟨cellS hy0_1 cvhy00, cellS hy0_1 cvhy01⟩ | with_reducible exact ⟨cellS (hAlloc hy0_1 _) cvhy00, cellS (hAlloc hy0_1 _) cvhy01⟩ | with_reducible exact ⟨cellS (hDrew (hAlloc hy0_0 _)) cvhy00, cellS (hDrew (hAlloc hy0_0 _)) cvhy01⟩) (first | (go_at_call 170; first | ((with_reducible refine (clone_any A1 n1 c1 xs _ HH1.out.len HH1.out.le ((HH1.out.below BW_1.out).rd)).mono ?_); rintro e w2 ⟨v, rfl, ho, hb⟩; have hy0_2 := Lib.hid (hy0_1.out.below hb hy0_1.out.lt); have hs_2 := Lib.hid (hs_1.out.below hb hs_1.out.lt); have BW_2 := Lib.hid (BW_1.out.trans (hb.mono BW_1.out.size)); (try (have NN_2 := Lib.hid (NN_1.out.below hb NN_1.out.lt))); have sy_2 : W0.heap.size ≤ w2.heap.size := Nat.le_trans sy_1 (Nat.le_trans (by simp) hb.size); obtain ⟨Aa, ca, rfl⟩ := own_slice ho; obtain ⟨na, hN⟩ : ∃ N, N = xs.length := ⟨_, rfl⟩; rw [← hN] at ho ⊢; have HNa := Lib.hid hN.symm; have HOa := Lib.hid ho; have hsa : na ≤ 60 := (by omega); clear ho hN hb; (try (have eN0 := NN_2.out.cell 0; have eN1 := NN_2.out.cell 1; simp at eN0 eN1; have fN0 := NN_2.out.free 0; have fN1 := NN_2.out.free 1))) | (replace hy0_1 := Lib.hid (hy0_0.out.alloc (.cells #[.bool false, .slice none 0 0] 37)).drew; replace hs_1 := Lib.hid (hs_0.out.alloc (.cells #[.bool false, .slice none 0 0] 37)).drew; replace BW_1 := Lib.hid (BW_0.out.alloc BW_0.out.size (.cells #[.bool false, .slice none 0 0] 37)).drew; have NN_1 := Lib.hid (Box.new W0 37 #[.bool false, .slice none 0 0]).drew; have szn : W0.heap.size ≤ W0.heap.size := sz_0; replace sy_1 : W0.heap.size ≤ (W0.alloc (.cells #[.bool false, .slice none 0 0] 37)).drew.heap.size := (by show W0.heap.size ≤ (W0.alloc _).heap.size; simp); (with_reducible refine (clone_any A1 n1 c1 xs _ HH1.out.len HH1.out.le ((HH1.out.below BW_1.out).rd)).mono ?_); rintro e w2 ⟨v, rfl, ho, hb⟩; have hy0_2 := Lib.hid (hy0_1.out.below hb hy0_1.out.lt); have hs_2 := Lib.hid (hs_1.out.below hb hs_1.out.lt); have BW_2 := Lib.hid (BW_1.out.trans (hb.mono BW_1.out.size)); (try (have NN_2 := Lib.hid (NN_1.out.below hb NN_1.out.lt))); have sy_2 : W0.heap.size ≤ w2.heap.size := Nat.le_trans sy_1 (Nat.le_trans (by simp) hb.size); obtain ⟨Aa, ca, rfl⟩ := own_slice ho; obtain ⟨na, hN⟩ : ∃ N, N = xs.length := ⟨_, rfl⟩; rw [← hN] at ho ⊢; have HNa := Lib.hid hN.symm; have HOa := Lib.hid ho; have hsa : na ≤ 60 := (by omega); clear ho hN hb; (try (have eN0 := NN_2.out.cell 0; have eN1 := NN_2.out.cell 1; simp at eN0 eN1; have fN0 := NN_2.out.free 0; have fN1 := NN_2.out.free 1)))))
    all_goals (go_wp2_with fail; go_meet; first | exact ⟨_, g1, xs, _, _, _, rfl, (by first | exact szn | omega | (simp; omega)), Lib.hid ⟨rfl, rfl⟩, HNa, hsa, own_base (HOa.out.alloc _) (by first | omega | (simp; omega)), Box.new _ _ _, BW_2.out.alloc BW_2.out.size _, (by simp; omega), hy0_2.out.alloc _, hs_2.out.alloc _⟩ | exact ⟨_, g1, xs, _, _, _, rfl, (by first | exact szn | omega | (simp; omega)), Lib.hid ⟨rfl, rfl⟩, HNa, hsa, own_base (own_box (own_box HOa.out NN_2.out 0 _ (by decide)) (NN_2.out.set_ 0 _) 1 _ (by decide)) (by first | omega | (simp; omega)), (NN_2.out.set_ 0 _).set_ 1 _, (BW_2.out.setCell (by dsimp only; omega) _).setCell (by dsimp only; omega) _, (by simp; omega), ((hy0_2.out.far (by have := hy0_0.out.lt; dsimp only; omega) _).far (by have := hy0_0.out.lt; dsimp only; omega) _), ((hs_2.out.far (by have := hs_0.out.lt; dsimp only; omega) _).far (by have := hs_0.out.lt; dsimp only; omega) _)⟩)
  obtain ⟨ga, sa, la, Aa, na, ca, rfl, hgba, HCa, HNa, hsa, HOa_1, hxa_1, BW_1, sz_1, hy0_1, hs_1⟩ := hcut
  obtain ⟨wqa, rfl⟩ : ∃ q, q = wc := ⟨_, rfl⟩
  obtain ⟨rfl, rfl⟩ := HCa.out
  go_wp2_with fail
  have hxa_2 := Lib.hid hxa_1.out.drew
  have hy0_2 := Lib.hid hy0_1.out.drew
  have hs_2 := Lib.hid hs_1.out.drew
  have BW_2 := Lib.hid BW_1.out.drew
  have HOa_2 := Lib.hid (own_drew HOa_1.out)
  have cvhxa0 : Hid ((#[.bool sa, .slice Aa na ca] : Array Value)[0]? = some (.bool sa)) := rfl
  have cvhxa1 : Hid ((#[.bool sa, .slice Aa na ca] : Array Value)[1]? = some (.slice Aa na ca)) := rfl
  have cvhy02 : Hid ((#[.bool sa, .slice A1 n1 c1, .slice B1 m1 d1] : Array Value)[2]? = some (.slice B1 m1 d1)) := rfl
  go_region_held3 (fun w' => w'.cell? ⟨ga, 0, none⟩ = some (.bool sa) ∧ w'.cell? ⟨ga, 1, none⟩ = some (.slice Aa na ca) ∧ w'.cell? ⟨w.heap.size, 2, none⟩ = some (.slice B1 m1 d1)) (first | with_reducible exact ⟨cellS hxa_3 cvhxa0, cellS hxa_3 cvhxa1, cellS hy0_3 cvhy02⟩ | with_reducible exact ⟨cellS (hFar (hFar (hFar hxa_3 (by dsimp only; omega) _) (by dsimp only; omega) _) (by dsimp only; omega) _) cvhxa0, cellS (hFar (hFar (hFar hxa_3 (by dsimp only; omega) _) (by dsimp only; omega) _) (by dsimp only; omega) _) cvhxa1, cellS (hFar (hFar (hFar hy0_3 (by dsimp only; omega) _) (by dsimp only; omega) _) (by dsimp only; omega) _) cvhy02⟩ | with_reducible exact ⟨cellS hxa_2 cvhxa0, cellS hxa_2 cvhxa1, cellS hy0_2 cvhy02⟩) (first | (go_at_call 170; (with_reducible refine (clone_any B1 m1 d1 es _ HK1.out.len HK1.out.le ((HK1.out.below BW_2.out).rd)).mono ?_); rintro e w3 ⟨u, rfl, ho, hb⟩; have HAP0 := apart_older' HOa_2.out ho; have hz4 := BW_2.out.size; have HO := Lib.hid (own_below HOa_2.out hb); have hy0_3 := Lib.hid (hy0_2.out.below hb hy0_2.out.lt); have hs_3 := Lib.hid (hs_2.out.below hb hs_2.out.lt); have hxa_3 := Lib.hid (hxa_2.out.below hb hxa_2.out.lt); have BW_3 := Lib.hid (BW_2.out.trans (hb.mono BW_2.out.size)); clear hb; obtain ⟨B9, d9, rfl⟩ := own_slice ho; obtain ⟨M9, hM⟩ : ∃ N, N = es.length := ⟨_, rfl⟩; rw [← hM] at ho HAP0 ⊢; have HAP := Lib.hid HAP0; have HM := Lib.hid hM.symm; have HU := Lib.hid ho; have hm9 : M9 ≤ 24 := (by omega); clear ho hM HAP0; have ehs0 := hs_3.out.cell 0; have ehs1 := hs_3.out.cell 1; have ehs2 := hs_3.out.cell 2; have fhs0 := hs_3.out.free 0; have fhs1 := hs_3.out.free 1; have fhs2 := hs_3.out.free 2; simp at ehs0 ehs1 ehs2))
  have HN := HNa
  go_wp2_with fail
  refine bodyPost_ret (v := .agg #[.bool sa, .slice Aa na ca, .slice B9 M9 d9]) (by simp [results, Tryz.results110, ehs0, ehs1, ehs2, go_sem]) rfl ?_
  exact ratEnd_store hs_3.out (by omega) BW_3.out ⟨rfl, rfl, rfl⟩ HN.out HM.out (by omega) (by omega) HO.out (by omega) HU.out (by omega) HAP.out
section
variable {g1 g2 : Bool} {xs es ys fs : List Int} {r : Int}
theorem pick_no {P C : Prop} (h : ¬ P) : PickIs P C g1 xs es g2 ys fs false [] [] := .inr (.inr ⟨h, rfl, rfl, rfl⟩)
theorem cmp_is (k1 : ROk g1 xs es) (k2 : ROk g2 ys fs) (h : RatCmpIs g1 xs es g2 ys fs r) : r = cmpV (bval g1 xs * val fs) (bval g2 ys * val es) := by
  rcases h with ⟨_, h⟩ | ⟨h, _⟩
  · exact h
  · exact absurd ⟨k1, k2⟩ h
theorem cmpV_m1 {a b : Int} : cmpV a b = -1 ↔ a < b := by
  unfold cmpV
  split
  · simp [*]
  · split <;> simp <;> omega
theorem cmpV_p1 {a b : Int} : cmpV a b = 1 ↔ b < a := by
  unfold cmpV
  split
  · simp; omega
  · split <;> simp <;> omega
theorem min_second (k1 : ROk g1 xs es) (k2 : ROk g2 ys fs) (h : r = cmpV (bval g2 ys * val es) (bval g1 xs * val fs)) (hr : r = -1) : RatMinIs g1 xs es g2 ys fs g2 ys fs :=
  .inr (.inl ⟨⟨k1, k2⟩, by have := cmpV_m1.1 (h.symm.trans hr); omega, rfl, rfl, rfl⟩)
theorem min_first (k1 : ROk g1 xs es) (k2 : ROk g2 ys fs) (h : r = cmpV (bval g2 ys * val es) (bval g1 xs * val fs)) (hr : ¬ r = -1) : RatMinIs g1 xs es g2 ys fs g1 xs es :=
  .inl ⟨⟨k1, k2⟩, by rw [h, cmpV_m1] at hr; omega, rfl, rfl, rfl⟩
theorem max_second (k1 : ROk g1 xs es) (k2 : ROk g2 ys fs) (h : r = cmpV (bval g2 ys * val es) (bval g1 xs * val fs)) (hr : r = 1) : RatMaxIs g1 xs es g2 ys fs g2 ys fs :=
  .inr (.inl ⟨⟨k1, k2⟩, by have := cmpV_p1.1 (h.symm.trans hr); omega, rfl, rfl, rfl⟩)
theorem max_first (k1 : ROk g1 xs es) (k2 : ROk g2 ys fs) (h : r = cmpV (bval g2 ys * val es) (bval g1 xs * val fs)) (hr : ¬ r = 1) : RatMaxIs g1 xs es g2 ys fs g1 xs es :=
  .inl ⟨⟨k1, k2⟩, by rw [h, cmpV_p1] at hr; omega, rfl, rfl, rfl⟩
end
end Go.Proofs.YtjohglkfcefimaaGreat
namespace Go.Proofs.YtjohglkfcefimaaGreat
set_option maxRecDepth 100000
open Go.RowKit Go.Deep

theorem ne_some {a b : Nat} (h : a ≠ b) : some a ≠ some b := fun e => h (by simpa using e)
/-- Two results of appends to literals of their own, in whatever order. -/
theorem apart_two' {u v : Value} {B1 H1 B2 H2 S1 S2 : Nat} (hv : ∀ k, v.ownBlock = some k → k = B1 ∨ k = H1) (hv' : ∀ k, v.ownBlock = some k → k < S1) (hu : ∀ k, u.ownBlock = some k → k = B2 ∨ k = H2) (hu' : ∀ k, u.ownBlock = some k → k < S2)
    (a : B1 ≠ B2) (b : H2 < S2 → B1 ≠ H2) (c : H1 < S1 → H1 ≠ B2) (d : H1 < S1 → H2 < S2 → H1 ≠ H2) : Apart u v := by
  intro k hk hk'
  have h1 := hv k hk'
  have h2 := hv' k hk'
  have h3 := hu k hk
  have h4 := hu' k hk
  rcases h1 with rfl | rfl <;> rcases h3 with h3 | h3
  · exact a h3
  · exact b (by omega) h3
  · exact c h2 h3
  · exact d h2 (by omega) h3
set_option maxHeartbeats 3200000 in
theorem spec_l04Copy (g1 : Bool) (A1 : Option Addr) (n1 c1 : Nat) (xs : List Int) (B1 : Option Addr) (m1 d1 : Nat) (es : List Int) (w : World) (h1 : InI w A1 n1 xs) (r1 : Room A1 n1 c1) (k1 : InI w B1 m1 es) (s1 : Room B1 m1 d1) (q1 : xs.length ≤ 24) (q2 : es.length ≤ 24) :
    Calls Tryz.prog 153 #[.agg #[.bool g1, .slice A1 n1 c1, .slice B1 m1 d1]] w fun e w' => RatEnd (fun g l d => g = g1 ∧ l = xs ∧ d = es) w w' e := by
  obtain ⟨i0, hi, hz0, hz1, hz2⟩ := info_parts Tryz.infoI
  have hn1 := h1.2.1
  have hm1 := k1.2.1
  obtain ⟨W0, hW0⟩ : ∃ W, W = ((w.alloc (.cells #[.bool g1, .slice A1 n1 c1, .slice B1 m1 d1] 39)).alloc (.cells #[.bool false, .slice none 0 0, .slice none 0 0] 39)) := ⟨_, rfl⟩
  have hy0_0 : Hid (Box W0 (w.heap.size) 39 #[.bool g1, .slice A1 n1 c1, .slice B1 m1 d1]) := by rw [hW0]; exact ((Box.at' (by simp)).alloc _)
  have hs_0 : Hid (Box W0 (w.heap.size + 1) 39 #[.bool false, .slice none 0 0, .slice none 0 0]) := by rw [hW0]; exact (Box.at' (by simp))
  have BW_0 : Hid (Below w.heap.size w W0) := by rw [hW0]; exact (((Below.refl w.heap.size w).alloc (by simp) _).alloc (by simp) _)
  have hsz0 : w.heap.size + 1 + 1 ≤ W0.heap.size := by rw [hW0]; simp
  have HI1 := Lib.hid (h1.below BW_0.out)
  have HJ1 := Lib.hid (k1.below BW_0.out)
  have R1 := Lib.hid r1
  have S1 := Lib.hid s1
  have HH1 := Lib.hid h1
  have HK1 := Lib.hid k1
  clear h1 k1 r1 s1
  go_enter Tryz.func153, Tryz.ntmps153
  go_wp2_with fail
  rw [← hW0]
  clear hW0
  have hnn : n1 ≤ 24 := by have := HH1.out.1; omega
  have hmm : m1 ≤ 24 := by have := HK1.out.1; omega
  have cvhy00 : Hid ((#[.bool g1, .slice A1 n1 c1, .slice B1 m1 d1] : Array Value)[0]? = some (.bool g1)) := rfl
  have cvhy01 : Hid ((#[.bool g1, .slice A1 n1 c1, .slice B1 m1 d1] : Array Value)[1]? = some (.slice A1 n1 c1)) := rfl
  have cvhy02 : Hid ((#[.bool g1, .slice A1 n1 c1, .slice B1 m1 d1] : Array Value)[2]? = some (.slice B1 m1 d1)) := rfl
  go_region_held3 (fun w' => w'.cell? ⟨w.heap.size, 0, none⟩ = some (.bool g1) ∧ w'.cell? ⟨w.heap.size, 1, none⟩ = some (.slice A1 n1 c1) ∧ w'.cell? ⟨w.heap.size, 2, none⟩ = some (.slice B1 m1 d1)) (first | with_reducible exact ⟨cellS (t := 39) (by (first | (first | assumption | (with_reducible refine hDrew ?_; (first | assumption | (with_reducible refine hDrew ?_; (first | assumption | (with_reducible refine hDrew ?_; (first | assumption)) | (with_reducible refine hAlloc ?_ _; (first | assumption)))) | (with_reducible refine hAlloc ?_ _; (first | assumption | (with_reducible refine hDrew ?_; (first | assumption)) | (with_reducible refine hAlloc ?_ _; (first | assumption)))))) | (with_reducible refine hAlloc ?_ _; (first | assumption | (with_reducible refine hDrew ?_; (first | assumption | (with_reducible refine hDrew ?_; (first | assumption)) | (with_reducible refine hAlloc ?_ _; (first | assumption)))) | (with_reducible refine hAlloc ?_ _; (first | assumption | (with_reducible refine hDrew ?_; (first | assumption)) | (with_reducible refine hAlloc ?_ _; (first | assumption))))))) | (with_reducible refine hFar (hFar (hFar ?_ (by dsimp only; omega) _) (by dsimp only; omega) _) (by dsimp only; omega) _; (first | assumption | (with_reducible refine hDrew ?_; (first | assumption)) | (with_reducible refine hAlloc ?_ _; (first | assumption)))))) cvhy00, cellS (t := 39) (by (first | (first | assumption | (with_reducible refine hDrew ?_; (first | assumption | (with_reducible refine hDrew ?_; (first | assumption | (with_reducible refine hDrew ?_; (first | assumption)) | (with_reducible refine hAlloc ?_ _; (first | assumption)))) | (with_reducible refine hAlloc ?_ _; (first | assumption | (with_reducible refine hDrew ?_; (first | assumption)) | (with_reducible refine hAlloc ?_ _; (first | assumption)))))) | (with_reducible refine hAlloc ?_ _; (first | assumption | (with_reducible refine hDrew ?_; (first | assumption | (with_reducible refine hDrew ?_; (first | assumption)) | (with_reducible refine hAlloc ?_ _; (first | assumption)))) | (with_reducible refine hAlloc ?_ _; (first | assumption | (with_reducible refine hDrew ?_; (first | assumption)) | (with_reducible refine hAlloc ?_ _; (first | assumption))))))) | (with_reducible refine hFar (hFar (hFar ?_ (by dsimp only; omega) _) (by dsimp only; omega) _) (by dsimp only; omega) _; (first | assumption | (with_reducible refine hDrew ?_; (first | assumption)) | (with_reducible refine hAlloc ?_ _; (first | assumption)))))) cvhy01, cellS (t := 39) (by (first | (first | assumption | (with_reducible refine hDrew ?_; (first | assumption | (with_reducible refine hDrew ?_; (first | assumption | (with_reducible refine hDrew ?_; (first | assumption)) | (with_reducible refine hAlloc ?_ _; (first | assumption)))) | (with_reducible refine hAlloc ?_ _; (first | assumption | (with_reducible refine hDrew ?_; (first | assumption)) | (with_reducible refine hAlloc ?_ _; (first | assumption)))))) | (with_reducible refine hAlloc ?_ _; (first | assumption | (with_reducible refine hDrew ?_; (first | assumption | (with_reducible refine hDrew ?_; (first | assumption)) | (with_reducible refine hAlloc ?_ _; (first | assumption)))) | (with_reducible refine hAlloc ?_ _; (first | assumption | (with_reducible refine hDrew ?_; (first | assumption)) | (with_reducible refine hAlloc ?_ _; (first | assumption))))))) | (with_reducible refine hFar (hFar (hFar ?_ (by dsimp only; omega) _) (by dsimp only; omega) _) (by dsimp only; omega) _; (first | assumption | (with_reducible refine hDrew ?_; (first | assumption)) | (with_reducible refine hAlloc ?_ _; (first | assumption)))))) cvhy02⟩) (first | (refine step_append_lit rfl _ _ 22 rfl 3 i0 (.int .i64 0) 8 Tryz.underlying22 hi hz0 hz1 hz2 rfl _ rfl B1 m1 d1 (es.map (.int .i64)) rfl (by (first | assumption | with_reducible exact hNew _ _ _ rfl | with_reducible exact hNew1 _ _ _ _ | (with_reducible refine hDrew ?_; (first | assumption | with_reducible exact hNew _ _ _ rfl | with_reducible exact hNew1 _ _ _ _ | (with_reducible refine hDrew ?_; (first | assumption | with_reducible exact hNew _ _ _ rfl | with_reducible exact hNew1 _ _ _ _ | (with_reducible refine hDrew ?_; (first | assumption | with_reducible exact hNew _ _ _ rfl | with_reducible exact hNew1 _ _ _ _)) | (with_reducible refine hAlloc ?_ _; (first | assumption | with_reducible exact hNew _ _ _ rfl | with_reducible exact hNew1 _ _ _ _)))) | (with_reducible refine hAlloc ?_ _; (first | assumption | with_reducible exact hNew _ _ _ rfl | with_reducible exact hNew1 _ _ _ _ | (with_reducible refine hDrew ?_; (first | assumption | with_reducible exact hNew _ _ _ rfl | with_reducible exact hNew1 _ _ _ _)) | (with_reducible refine hAlloc ?_ _; (first | assumption | with_reducible exact hNew _ _ _ rfl | with_reducible exact hNew1 _ _ _ _)))))) | (with_reducible refine hAlloc ?_ _; (first | assumption | with_reducible exact hNew _ _ _ rfl | with_reducible exact hNew1 _ _ _ _ | (with_reducible refine hDrew ?_; (first | assumption | with_reducible exact hNew _ _ _ rfl | with_reducible exact hNew1 _ _ _ _ | (with_reducible refine hDrew ?_; (first | assumption | with_reducible exact hNew _ _ _ rfl | with_reducible exact hNew1 _ _ _ _)) | (with_reducible refine hAlloc ?_ _; (first | assumption | with_reducible exact hNew _ _ _ rfl | with_reducible exact hNew1 _ _ _ _)))) | (with_reducible refine hAlloc ?_ _; (first | assumption | with_reducible exact hNew _ _ _ rfl | with_reducible exact hNew1 _ _ _ _ | (with_reducible refine hDrew ?_; (first | assumption | with_reducible exact hNew _ _ _ rfl | with_reducible exact hNew1 _ _ _ _)) | (with_reducible refine hAlloc ?_ _; (first | assumption | with_reducible exact hNew _ _ _ rfl | with_reducible exact hNew1 _ _ _ _)))))))) ((HK1.out.below (Hid.out (by (first | assumption | (with_reducible refine bDrew ?_; (first | assumption | (with_reducible refine bDrew ?_; (first | assumption | (with_reducible refine bDrew ?_; (first | assumption)) | (with_reducible refine bAlloc ?_ _; (first | assumption)))) | (with_reducible refine bAlloc ?_ _; (first | assumption | (with_reducible refine bDrew ?_; (first | assumption)) | (with_reducible refine bAlloc ?_ _; (first | assumption)))))) | (with_reducible refine bAlloc ?_ _; (first | assumption | (with_reducible refine bDrew ?_; (first | assumption | (with_reducible refine bDrew ?_; (first | assumption)) | (with_reducible refine bAlloc ?_ _; (first | assumption)))) | (with_reducible refine bAlloc ?_ _; (first | assumption | (with_reducible refine bDrew ?_; (first | assumption)) | (with_reducible refine bAlloc ?_ _; (first | assumption)))))))))).rd) (by rw [List.length_map]; exact HK1.out.len) (by simp [Value.oneCell']) (by unfold maxLen; omega) (by omega) ?_; intro uq wnq hown hg hblk hblt hB hBlt hsz; obtain ⟨Hq, hHq, hblk⟩ := blk_told hblk; (try simp only [drew_size] at hBlt hsz hHq); (try simp at hBlt hsz hHq); have hUq := Lib.hid hblk; have hVq := Lib.hid hblt; have hBlq := hBlt; have hSzq := hsz; (try (have HO := oGrown (v := .slice Bp9 n1 dp9) (n := n1) (xs := xs.map (.int .i64)) hg (fun k hk => by have := hUp.out k hk; have := hVp.out k hk; omega) (by first | exact HO | exact oAlloc HO _ | exact oDrew (oAlloc HO _)))); (try (have hLx := hGrown (g := W0.heap.size) (t := 3) (cs := #[]) hg (ne_some (by omega)) (by (first | assumption | with_reducible exact hNew _ _ _ rfl | with_reducible exact hNew1 _ _ _ _ | (with_reducible refine hDrew ?_; (first | assumption | with_reducible exact hNew _ _ _ rfl | with_reducible exact hNew1 _ _ _ _ | (with_reducible refine hDrew ?_; (first | assumption | with_reducible exact hNew _ _ _ rfl | with_reducible exact hNew1 _ _ _ _ | (with_reducible refine hDrew ?_; (first | assumption | with_reducible exact hNew _ _ _ rfl | with_reducible exact hNew1 _ _ _ _)) | (with_reducible refine hAlloc ?_ _; (first | assumption | with_reducible exact hNew _ _ _ rfl | with_reducible exact hNew1 _ _ _ _)))) | (with_reducible refine hAlloc ?_ _; (first | assumption | with_reducible exact hNew _ _ _ rfl | with_reducible exact hNew1 _ _ _ _ | (with_reducible refine hDrew ?_; (first | assumption | with_reducible exact hNew _ _ _ rfl | with_reducible exact hNew1 _ _ _ _)) | (with_reducible refine hAlloc ?_ _; (first | assumption | with_reducible exact hNew _ _ _ rfl | with_reducible exact hNew1 _ _ _ _)))))) | (with_reducible refine hAlloc ?_ _; (first | assumption | with_reducible exact hNew _ _ _ rfl | with_reducible exact hNew1 _ _ _ _ | (with_reducible refine hDrew ?_; (first | assumption | with_reducible exact hNew _ _ _ rfl | with_reducible exact hNew1 _ _ _ _ | (with_reducible refine hDrew ?_; (first | assumption | with_reducible exact hNew _ _ _ rfl | with_reducible exact hNew1 _ _ _ _)) | (with_reducible refine hAlloc ?_ _; (first | assumption | with_reducible exact hNew _ _ _ rfl | with_reducible exact hNew1 _ _ _ _)))) | (with_reducible refine hAlloc ?_ _; (first | assumption | with_reducible exact hNew _ _ _ rfl | with_reducible exact hNew1 _ _ _ _ | (with_reducible refine hDrew ?_; (first | assumption | with_reducible exact hNew _ _ _ rfl | with_reducible exact hNew1 _ _ _ _)) | (with_reducible refine hAlloc ?_ _; (first | assumption | with_reducible exact hNew _ _ _ rfl | with_reducible exact hNew1 _ _ _ _)))))))))); (try (have hLx := hGrown (g := W0.heap.size + 1) (t := 3) (cs := #[]) hg (ne_some (by omega)) (by (first | assumption | with_reducible exact hNew _ _ _ rfl | with_reducible exact hNew1 _ _ _ _ | (with_reducible refine hDrew ?_; (first | assumption | with_reducible exact hNew _ _ _ rfl | with_reducible exact hNew1 _ _ _ _ | (with_reducible refine hDrew ?_; (first | assumption | with_reducible exact hNew _ _ _ rfl | with_reducible exact hNew1 _ _ _ _ | (with_reducible refine hDrew ?_; (first | assumption | with_reducible exact hNew _ _ _ rfl | with_reducible exact hNew1 _ _ _ _)) | (with_reducible refine hAlloc ?_ _; (first | assumption | with_reducible exact hNew _ _ _ rfl | with_reducible exact hNew1 _ _ _ _)))) | (with_reducible refine hAlloc ?_ _; (first | assumption | with_reducible exact hNew _ _ _ rfl | with_reducible exact hNew1 _ _ _ _ | (with_reducible refine hDrew ?_; (first | assumption | with_reducible exact hNew _ _ _ rfl | with_reducible exact hNew1 _ _ _ _)) | (with_reducible refine hAlloc ?_ _; (first | assumption | with_reducible exact hNew _ _ _ rfl | with_reducible exact hNew1 _ _ _ _)))))) | (with_reducible refine hAlloc ?_ _; (first | assumption | with_reducible exact hNew _ _ _ rfl | with_reducible exact hNew1 _ _ _ _ | (with_reducible refine hDrew ?_; (first | assumption | with_reducible exact hNew _ _ _ rfl | with_reducible exact hNew1 _ _ _ _ | (with_reducible refine hDrew ?_; (first | assumption | with_reducible exact hNew _ _ _ rfl | with_reducible exact hNew1 _ _ _ _)) | (with_reducible refine hAlloc ?_ _; (first | assumption | with_reducible exact hNew _ _ _ rfl | with_reducible exact hNew1 _ _ _ _)))) | (with_reducible refine hAlloc ?_ _; (first | assumption | with_reducible exact hNew _ _ _ rfl | with_reducible exact hNew1 _ _ _ _ | (with_reducible refine hDrew ?_; (first | assumption | with_reducible exact hNew _ _ _ rfl | with_reducible exact hNew1 _ _ _ _)) | (with_reducible refine hAlloc ?_ _; (first | assumption | with_reducible exact hNew _ _ _ rfl | with_reducible exact hNew1 _ _ _ _)))))))))); have hy0x := hGrown (g := w.heap.size) (t := 39) (cs := #[.bool g1, .slice A1 n1 c1, .slice B1 m1 d1]) hg (box_ne (g := w.heap.size) (t := 39) (cs := #[.bool g1, .slice A1 n1 c1, .slice B1 m1 d1]) (by (first | (first | assumption | (with_reducible refine hDrew ?_; (first | assumption | (with_reducible refine hDrew ?_; (first | assumption | (with_reducible refine hDrew ?_; (first | assumption)) | (with_reducible refine hAlloc ?_ _; (first | assumption)))) | (with_reducible refine hAlloc ?_ _; (first | assumption | (with_reducible refine hDrew ?_; (first | assumption)) | (with_reducible refine hAlloc ?_ _; (first | assumption)))))) | (with_reducible refine hAlloc ?_ _; (first | assumption | (with_reducible refine hDrew ?_; (first | assumption | (with_reducible refine hDrew ?_; (first | assumption)) | (with_reducible refine hAlloc ?_ _; (first | assumption)))) | (with_reducible refine hAlloc ?_ _; (first | assumption | (with_reducible refine hDrew ?_; (first | assumption)) | (with_reducible refine hAlloc ?_ _; (first | assumption))))))) | (with_reducible refine hFar (hFar (hFar ?_ (by dsimp only; omega) _) (by dsimp only; omega) _) (by dsimp only; omega) _; (first | assumption | (with_reducible refine hDrew ?_; (first | assumption)) | (with_reducible refine hAlloc ?_ _; (first | assumption)))))) hB (by decide)) (by (first | (first | assumption | (with_reducible refine hDrew ?_; (first | assumption | (with_reducible refine hDrew ?_; (first | assumption | (with_reducible refine hDrew ?_; (first | assumption)) | (with_reducible refine hAlloc ?_ _; (first | assumption)))) | (with_reducible refine hAlloc ?_ _; (first | assumption | (with_reducible refine hDrew ?_; (first | assumption)) | (with_reducible refine hAlloc ?_ _; (first | assumption)))))) | (with_reducible refine hAlloc ?_ _; (first | assumption | (with_reducible refine hDrew ?_; (first | assumption | (with_reducible refine hDrew ?_; (first | assumption)) | (with_reducible refine hAlloc ?_ _; (first | assumption)))) | (with_reducible refine hAlloc ?_ _; (first | assumption | (with_reducible refine hDrew ?_; (first | assumption)) | (with_reducible refine hAlloc ?_ _; (first | assumption))))))) | (with_reducible refine hFar (hFar (hFar ?_ (by dsimp only; omega) _) (by dsimp only; omega) _) (by dsimp only; omega) _; (first | assumption | (with_reducible refine hDrew ?_; (first | assumption)) | (with_reducible refine hAlloc ?_ _; (first | assumption)))))); have hsx := hGrown (g := w.heap.size + 1) (t := 39) (cs := #[.bool false, .slice none 0 0, .slice none 0 0]) hg (box_ne (g := w.heap.size + 1) (t := 39) (cs := #[.bool false, .slice none 0 0, .slice none 0 0]) (by (first | (first | assumption | (with_reducible refine hDrew ?_; (first | assumption | (with_reducible refine hDrew ?_; (first | assumption | (with_reducible refine hDrew ?_; (first | assumption)) | (with_reducible refine hAlloc ?_ _; (first | assumption)))) | (with_reducible refine hAlloc ?_ _; (first | assumption | (with_reducible refine hDrew ?_; (first | assumption)) | (with_reducible refine hAlloc ?_ _; (first | assumption)))))) | (with_reducible refine hAlloc ?_ _; (first | assumption | (with_reducible refine hDrew ?_; (first | assumption | (with_reducible refine hDrew ?_; (first | assumption)) | (with_reducible refine hAlloc ?_ _; (first | assumption)))) | (with_reducible refine hAlloc ?_ _; (first | assumption | (with_reducible refine hDrew ?_; (first | assumption)) | (with_reducible refine hAlloc ?_ _; (first | assumption))))))) | (with_reducible refine hFar (hFar (hFar ?_ (by dsimp only; omega) _) (by dsimp only; omega) _) (by dsimp only; omega) _; (first | assumption | (with_reducible refine hDrew ?_; (first | assumption)) | (with_reducible refine hAlloc ?_ _; (first | assumption)))))) hB (by decide)) (by (first | (first | assumption | (with_reducible refine hDrew ?_; (first | assumption | (with_reducible refine hDrew ?_; (first | assumption | (with_reducible refine hDrew ?_; (first | assumption)) | (with_reducible refine hAlloc ?_ _; (first | assumption)))) | (with_reducible refine hAlloc ?_ _; (first | assumption | (with_reducible refine hDrew ?_; (first | assumption)) | (with_reducible refine hAlloc ?_ _; (first | assumption)))))) | (with_reducible refine hAlloc ?_ _; (first | assumption | (with_reducible refine hDrew ?_; (first | assumption | (with_reducible refine hDrew ?_; (first | assumption)) | (with_reducible refine hAlloc ?_ _; (first | assumption)))) | (with_reducible refine hAlloc ?_ _; (first | assumption | (with_reducible refine hDrew ?_; (first | assumption)) | (with_reducible refine hAlloc ?_ _; (first | assumption))))))) | (with_reducible refine hFar (hFar (hFar ?_ (by dsimp only; omega) _) (by dsimp only; omega) _) (by dsimp only; omega) _; (first | assumption | (with_reducible refine hDrew ?_; (first | assumption)) | (with_reducible refine hAlloc ?_ _; (first | assumption)))))); have BWx : Hid (Below w.heap.size w _) := bGrown hg (by omega) (by (first | assumption | (with_reducible refine bDrew ?_; (first | assumption | (with_reducible refine bDrew ?_; (first | assumption | (with_reducible refine bDrew ?_; (first | assumption)) | (with_reducible refine bAlloc ?_ _; (first | assumption)))) | (with_reducible refine bAlloc ?_ _; (first | assumption | (with_reducible refine bDrew ?_; (first | assumption)) | (with_reducible refine bAlloc ?_ _; (first | assumption)))))) | (with_reducible refine bAlloc ?_ _; (first | assumption | (with_reducible refine bDrew ?_; (first | assumption | (with_reducible refine bDrew ?_; (first | assumption)) | (with_reducible refine bAlloc ?_ _; (first | assumption)))) | (with_reducible refine bAlloc ?_ _; (first | assumption | (with_reducible refine bDrew ?_; (first | assumption)) | (with_reducible refine bAlloc ?_ _; (first | assumption)))))))); have ehs0 := hsx.out.cell 0; have ehs1 := hsx.out.cell 1; have ehs2 := hsx.out.cell 2; have fhs0 := hsx.out.free 0; have fhs1 := hsx.out.free 1; have fhs2 := hsx.out.free 2; simp at ehs0 ehs1 ehs2; have HU := Lib.hid hown; obtain ⟨Bq9, dq9, rfl⟩ := own_slice hown; clear hown hg hblk hblt hBlt hsz) | (refine step_append_lit rfl _ _ 22 rfl 3 i0 (.int .i64 0) 8 Tryz.underlying22 hi hz0 hz1 hz2 rfl _ rfl A1 n1 c1 (xs.map (.int .i64)) rfl (by (first | assumption | with_reducible exact hNew _ _ _ rfl | with_reducible exact hNew1 _ _ _ _ | (with_reducible refine hDrew ?_; (first | assumption | with_reducible exact hNew _ _ _ rfl | with_reducible exact hNew1 _ _ _ _ | (with_reducible refine hDrew ?_; (first | assumption | with_reducible exact hNew _ _ _ rfl | with_reducible exact hNew1 _ _ _ _ | (with_reducible refine hDrew ?_; (first | assumption | with_reducible exact hNew _ _ _ rfl | with_reducible exact hNew1 _ _ _ _)) | (with_reducible refine hAlloc ?_ _; (first | assumption | with_reducible exact hNew _ _ _ rfl | with_reducible exact hNew1 _ _ _ _)))) | (with_reducible refine hAlloc ?_ _; (first | assumption | with_reducible exact hNew _ _ _ rfl | with_reducible exact hNew1 _ _ _ _ | (with_reducible refine hDrew ?_; (first | assumption | with_reducible exact hNew _ _ _ rfl | with_reducible exact hNew1 _ _ _ _)) | (with_reducible refine hAlloc ?_ _; (first | assumption | with_reducible exact hNew _ _ _ rfl | with_reducible exact hNew1 _ _ _ _)))))) | (with_reducible refine hAlloc ?_ _; (first | assumption | with_reducible exact hNew _ _ _ rfl | with_reducible exact hNew1 _ _ _ _ | (with_reducible refine hDrew ?_; (first | assumption | with_reducible exact hNew _ _ _ rfl | with_reducible exact hNew1 _ _ _ _ | (with_reducible refine hDrew ?_; (first | assumption | with_reducible exact hNew _ _ _ rfl | with_reducible exact hNew1 _ _ _ _)) | (with_reducible refine hAlloc ?_ _; (first | assumption | with_reducible exact hNew _ _ _ rfl | with_reducible exact hNew1 _ _ _ _)))) | (with_reducible refine hAlloc ?_ _; (first | assumption | with_reducible exact hNew _ _ _ rfl | with_reducible exact hNew1 _ _ _ _ | (with_reducible refine hDrew ?_; (first | assumption | with_reducible exact hNew _ _ _ rfl | with_reducible exact hNew1 _ _ _ _)) | (with_reducible refine hAlloc ?_ _; (first | assumption | with_reducible exact hNew _ _ _ rfl | with_reducible exact hNew1 _ _ _ _)))))))) ((HH1.out.below (Hid.out (by (first | assumption | (with_reducible refine bDrew ?_; (first | assumption | (with_reducible refine bDrew ?_; (first | assumption | (with_reducible refine bDrew ?_; (first | assumption)) | (with_reducible refine bAlloc ?_ _; (first | assumption)))) | (with_reducible refine bAlloc ?_ _; (first | assumption | (with_reducible refine bDrew ?_; (first | assumption)) | (with_reducible refine bAlloc ?_ _; (first | assumption)))))) | (with_reducible refine bAlloc ?_ _; (first | assumption | (with_reducible refine bDrew ?_; (first | assumption | (with_reducible refine bDrew ?_; (first | assumption)) | (with_reducible refine bAlloc ?_ _; (first | assumption)))) | (with_reducible refine bAlloc ?_ _; (first | assumption | (with_reducible refine bDrew ?_; (first | assumption)) | (with_reducible refine bAlloc ?_ _; (first | assumption)))))))))).rd) (by rw [List.length_map]; exact HH1.out.len) (by simp [Value.oneCell']) (by unfold maxLen; omega) (by omega) ?_; intro up wnp hown hg hblk hblt hB hBlt hsz; obtain ⟨Hp, hHp, hblk⟩ := blk_told hblk; (try simp only [drew_size] at hBlt hsz hHp); (try simp at hBlt hsz hHp); have hUp := Lib.hid hblk; have hVp := Lib.hid hblt; have hBlp := hBlt; have hSzp := hsz; (try (have HU := oGrown (v := .slice Bq9 m1 dq9) (n := m1) (xs := es.map (.int .i64)) hg (fun k hk => by have := hUq.out k hk; have := hVq.out k hk; omega) (by first | exact HU | exact oAlloc HU _ | exact oDrew (oAlloc HU _)))); (try (have hLx := hGrown (g := W0.heap.size) (t := 3) (cs := #[]) hg (ne_some (by omega)) (by (first | assumption | with_reducible exact hNew _ _ _ rfl | with_reducible exact hNew1 _ _ _ _ | (with_reducible refine hDrew ?_; (first | assumption | with_reducible exact hNew _ _ _ rfl | with_reducible exact hNew1 _ _ _ _ | (with_reducible refine hDrew ?_; (first | assumption | with_reducible exact hNew _ _ _ rfl | with_reducible exact hNew1 _ _ _ _ | (with_reducible refine hDrew ?_; (first | assumption | with_reducible exact hNew _ _ _ rfl | with_reducible exact hNew1 _ _ _ _)) | (with_reducible refine hAlloc ?_ _; (first | assumption | with_reducible exact hNew _ _ _ rfl | with_reducible exact hNew1 _ _ _ _)))) | (with_reducible refine hAlloc ?_ _; (first | assumption | with_reducible exact hNew _ _ _ rfl | with_reducible exact hNew1 _ _ _ _ | (with_reducible refine hDrew ?_; (first | assumption | with_reducible exact hNew _ _ _ rfl | with_reducible exact hNew1 _ _ _ _)) | (with_reducible refine hAlloc ?_ _; (first | assumption | with_reducible exact hNew _ _ _ rfl | with_reducible exact hNew1 _ _ _ _)))))) | (with_reducible refine hAlloc ?_ _; (first | assumption | with_reducible exact hNew _ _ _ rfl | with_reducible exact hNew1 _ _ _ _ | (with_reducible refine hDrew ?_; (first | assumption | with_reducible exact hNew _ _ _ rfl | with_reducible exact hNew1 _ _ _ _ | (with_reducible refine hDrew ?_; (first | assumption | with_reducible exact hNew _ _ _ rfl | with_reducible exact hNew1 _ _ _ _)) | (with_reducible refine hAlloc ?_ _; (first | assumption | with_reducible exact hNew _ _ _ rfl | with_reducible exact hNew1 _ _ _ _)))) | (with_reducible refine hAlloc ?_ _; (first | assumption | with_reducible exact hNew _ _ _ rfl | with_reducible exact hNew1 _ _ _ _ | (with_reducible refine hDrew ?_; (first | assumption | with_reducible exact hNew _ _ _ rfl | with_reducible exact hNew1 _ _ _ _)) | (with_reducible refine hAlloc ?_ _; (first | assumption | with_reducible exact hNew _ _ _ rfl | with_reducible exact hNew1 _ _ _ _)))))))))); (try (have hLx := hGrown (g := W0.heap.size + 1) (t := 3) (cs := #[]) hg (ne_some (by omega)) (by (first | assumption | with_reducible exact hNew _ _ _ rfl | with_reducible exact hNew1 _ _ _ _ | (with_reducible refine hDrew ?_; (first | assumption | with_reducible exact hNew _ _ _ rfl | with_reducible exact hNew1 _ _ _ _ | (with_reducible refine hDrew ?_; (first | assumption | with_reducible exact hNew _ _ _ rfl | with_reducible exact hNew1 _ _ _ _ | (with_reducible refine hDrew ?_; (first | assumption | with_reducible exact hNew _ _ _ rfl | with_reducible exact hNew1 _ _ _ _)) | (with_reducible refine hAlloc ?_ _; (first | assumption | with_reducible exact hNew _ _ _ rfl | with_reducible exact hNew1 _ _ _ _)))) | (with_reducible refine hAlloc ?_ _; (first | assumption | with_reducible exact hNew _ _ _ rfl | with_reducible exact hNew1 _ _ _ _ | (with_reducible refine hDrew ?_; (first | assumption | with_reducible exact hNew _ _ _ rfl | with_reducible exact hNew1 _ _ _ _)) | (with_reducible refine hAlloc ?_ _; (first | assumption | with_reducible exact hNew _ _ _ rfl | with_reducible exact hNew1 _ _ _ _)))))) | (with_reducible refine hAlloc ?_ _; (first | assumption | with_reducible exact hNew _ _ _ rfl | with_reducible exact hNew1 _ _ _ _ | (with_reducible refine hDrew ?_; (first | assumption | with_reducible exact hNew _ _ _ rfl | with_reducible exact hNew1 _ _ _ _ | (with_reducible refine hDrew ?_; (first | assumption | with_reducible exact hNew _ _ _ rfl | with_reducible exact hNew1 _ _ _ _)) | (with_reducible refine hAlloc ?_ _; (first | assumption | with_reducible exact hNew _ _ _ rfl | with_reducible exact hNew1 _ _ _ _)))) | (with_reducible refine hAlloc ?_ _; (first | assumption | with_reducible exact hNew _ _ _ rfl | with_reducible exact hNew1 _ _ _ _ | (with_reducible refine hDrew ?_; (first | assumption | with_reducible exact hNew _ _ _ rfl | with_reducible exact hNew1 _ _ _ _)) | (with_reducible refine hAlloc ?_ _; (first | assumption | with_reducible exact hNew _ _ _ rfl | with_reducible exact hNew1 _ _ _ _)))))))))); have hy0x := hGrown (g := w.heap.size) (t := 39) (cs := #[.bool g1, .slice A1 n1 c1, .slice B1 m1 d1]) hg (box_ne (g := w.heap.size) (t := 39) (cs := #[.bool g1, .slice A1 n1 c1, .slice B1 m1 d1]) (by (first | (first | assumption | (with_reducible refine hDrew ?_; (first | assumption | (with_reducible refine hDrew ?_; (first | assumption | (with_reducible refine hDrew ?_; (first | assumption)) | (with_reducible refine hAlloc ?_ _; (first | assumption)))) | (with_reducible refine hAlloc ?_ _; (first | assumption | (with_reducible refine hDrew ?_; (first | assumption)) | (with_reducible refine hAlloc ?_ _; (first | assumption)))))) | (with_reducible refine hAlloc ?_ _; (first | assumption | (with_reducible refine hDrew ?_; (first | assumption | (with_reducible refine hDrew ?_; (first | assumption)) | (with_reducible refine hAlloc ?_ _; (first | assumption)))) | (with_reducible refine hAlloc ?_ _; (first | assumption | (with_reducible refine hDrew ?_; (first | assumption)) | (with_reducible refine hAlloc ?_ _; (first | assumption))))))) | (with_reducible refine hFar (hFar (hFar ?_ (by dsimp only; omega) _) (by dsimp only; omega) _) (by dsimp only; omega) _; (first | assumption | (with_reducible refine hDrew ?_; (first | assumption)) | (with_reducible refine hAlloc ?_ _; (first | assumption)))))) hB (by decide)) (by (first | (first | assumption | (with_reducible refine hDrew ?_; (first | assumption | (with_reducible refine hDrew ?_; (first | assumption | (with_reducible refine hDrew ?_; (first | assumption)) | (with_reducible refine hAlloc ?_ _; (first | assumption)))) | (with_reducible refine hAlloc ?_ _; (first | assumption | (with_reducible refine hDrew ?_; (first | assumption)) | (with_reducible refine hAlloc ?_ _; (first | assumption)))))) | (with_reducible refine hAlloc ?_ _; (first | assumption | (with_reducible refine hDrew ?_; (first | assumption | (with_reducible refine hDrew ?_; (first | assumption)) | (with_reducible refine hAlloc ?_ _; (first | assumption)))) | (with_reducible refine hAlloc ?_ _; (first | assumption | (with_reducible refine hDrew ?_; (first | assumption)) | (with_reducible refine hAlloc ?_ _; (first | assumption))))))) | (with_reducible refine hFar (hFar (hFar ?_ (by dsimp only; omega) _) (by dsimp only; omega) _) (by dsimp only; omega) _; (first | assumption | (with_reducible refine hDrew ?_; (first | assumption)) | (with_reducible refine hAlloc ?_ _; (first | assumption)))))); have hsx := hGrown (g := w.heap.size + 1) (t := 39) (cs := #[.bool false, .slice none 0 0, .slice none 0 0]) hg (box_ne (g := w.heap.size + 1) (t := 39) (cs := #[.bool false, .slice none 0 0, .slice none 0 0]) (by (first | (first | assumption | (with_reducible refine hDrew ?_; (first | assumption | (with_reducible refine hDrew ?_; (first | assumption | (with_reducible refine hDrew ?_; (first | assumption)) | (with_reducible refine hAlloc ?_ _; (first | assumption)))) | (with_reducible refine hAlloc ?_ _; (first | assumption | (with_reducible refine hDrew ?_; (first | assumption)) | (with_reducible refine hAlloc ?_ _; (first | assumption)))))) | (with_reducible refine hAlloc ?_ _; (first | assumption | (with_reducible refine hDrew ?_; (first | assumption | (with_reducible refine hDrew ?_; (first | assumption)) | (with_reducible refine hAlloc ?_ _; (first | assumption)))) | (with_reducible refine hAlloc ?_ _; (first | assumption | (with_reducible refine hDrew ?_; (first | assumption)) | (with_reducible refine hAlloc ?_ _; (first | assumption))))))) | (with_reducible refine hFar (hFar (hFar ?_ (by dsimp only; omega) _) (by dsimp only; omega) _) (by dsimp only; omega) _; (first | assumption | (with_reducible refine hDrew ?_; (first | assumption)) | (with_reducible refine hAlloc ?_ _; (first | assumption)))))) hB (by decide)) (by (first | (first | assumption | (with_reducible refine hDrew ?_; (first | assumption | (with_reducible refine hDrew ?_; (first | assumption | (with_reducible refine hDrew ?_; (first | assumption)) | (with_reducible refine hAlloc ?_ _; (first | assumption)))) | (with_reducible refine hAlloc ?_ _; (first | assumption | (with_reducible refine hDrew ?_; (first | assumption)) | (with_reducible refine hAlloc ?_ _; (first | assumption)))))) | (with_reducible refine hAlloc ?_ _; (first | assumption | (with_reducible refine hDrew ?_; (first | assumption | (with_reducible refine hDrew ?_; (first | assumption)) | (with_reducible refine hAlloc ?_ _; (first | assumption)))) | (with_reducible refine hAlloc ?_ _; (first | assumption | (with_reducible refine hDrew ?_; (first | assumption)) | (with_reducible refine hAlloc ?_ _; (first | assumption))))))) | (with_reducible refine hFar (hFar (hFar ?_ (by dsimp only; omega) _) (by dsimp only; omega) _) (by dsimp only; omega) _; (first | assumption | (with_reducible refine hDrew ?_; (first | assumption)) | (with_reducible refine hAlloc ?_ _; (first | assumption)))))); have BWx : Hid (Below w.heap.size w _) := bGrown hg (by omega) (by (first | assumption | (with_reducible refine bDrew ?_; (first | assumption | (with_reducible refine bDrew ?_; (first | assumption | (with_reducible refine bDrew ?_; (first | assumption)) | (with_reducible refine bAlloc ?_ _; (first | assumption)))) | (with_reducible refine bAlloc ?_ _; (first | assumption | (with_reducible refine bDrew ?_; (first | assumption)) | (with_reducible refine bAlloc ?_ _; (first | assumption)))))) | (with_reducible refine bAlloc ?_ _; (first | assumption | (with_reducible refine bDrew ?_; (first | assumption | (with_reducible refine bDrew ?_; (first | assumption)) | (with_reducible refine bAlloc ?_ _; (first | assumption)))) | (with_reducible refine bAlloc ?_ _; (first | assumption | (with_reducible refine bDrew ?_; (first | assumption)) | (with_reducible refine bAlloc ?_ _; (first | assumption)))))))); have ehs0 := hsx.out.cell 0; have ehs1 := hsx.out.cell 1; have ehs2 := hsx.out.cell 2; have fhs0 := hsx.out.free 0; have fhs1 := hsx.out.free 1; have fhs2 := hsx.out.free 2; simp at ehs0 ehs1 ehs2; have HO := Lib.hid hown; obtain ⟨Bp9, dp9, rfl⟩ := own_slice hown; clear hown hg hblk hblt hBlt hsz))
  all_goals
    have HAP := Lib.hid (apart_two' hUp.out hVp.out hUq.out hVq.out (by omega) (by omega) (by omega) (by omega))
    have HN : Hid (xs.length = n1) := HH1.out.1
    have HM : Hid (es.length = m1) := HK1.out.1
    go_wp2_with fail
    refine bodyPost_ret (v := .agg #[.bool g1, .slice Bp9 n1 dp9, .slice Bq9 m1 dq9]) (by simp [results, Tryz.results153, ehs0, ehs1, ehs2, go_sem]) rfl ?_
    exact ratEnd_store hsx.out (by omega) BWx.out ⟨rfl, rfl, rfl⟩ HN.out HM.out (by omega) (by omega) HO.out (by first | omega | (simp only [drew_size]; simp; omega) | (simp only [drew_size]; omega)) HU.out (by first | omega | (simp only [drew_size]; simp; omega) | (simp only [drew_size]; omega)) HAP.out
section
variable {g1 g2 : Bool} {xs es ys fs : List Int} {r : Int}
theorem cmpV_le {a b : Int} : cmpV a b ≤ 0 ↔ a ≤ b := by
  unfold cmpV
  split
  · simp; omega
  · split <;> simp <;> omega
theorem cmpV_ge {a b : Int} : 0 ≤ cmpV a b ↔ b ≤ a := by
  unfold cmpV
  split
  · simp; omega
  · split <;> simp <;> omega
theorem smin_first (k1 : ROk g1 xs es) (k2 : ROk g2 ys fs) (h : r = cmpV (bval g1 xs * val fs) (bval g2 ys * val es)) (hr : r ≤ 0) : RatMinIs g1 xs es g2 ys fs g1 xs es :=
  .inl ⟨⟨k1, k2⟩, cmpV_le.1 (h ▸ hr), rfl, rfl, rfl⟩
theorem smin_second (k1 : ROk g1 xs es) (k2 : ROk g2 ys fs) (h : r = cmpV (bval g1 xs * val fs) (bval g2 ys * val es)) (hr : ¬ r ≤ 0) : RatMinIs g1 xs es g2 ys fs g2 ys fs :=
  .inr (.inl ⟨⟨k1, k2⟩, fun c => hr (h ▸ cmpV_le.2 c), rfl, rfl, rfl⟩)
theorem smax_first (k1 : ROk g1 xs es) (k2 : ROk g2 ys fs) (h : r = cmpV (bval g1 xs * val fs) (bval g2 ys * val es)) (hr : 0 ≤ r) : RatMaxIs g1 xs es g2 ys fs g1 xs es :=
  .inl ⟨⟨k1, k2⟩, cmpV_ge.1 (h ▸ hr), rfl, rfl, rfl⟩
theorem smax_second (k1 : ROk g1 xs es) (k2 : ROk g2 ys fs) (h : r = cmpV (bval g1 xs * val fs) (bval g2 ys * val es)) (hr : ¬ 0 ≤ r) : RatMaxIs g1 xs es g2 ys fs g2 ys fs :=
  .inr (.inl ⟨⟨k1, k2⟩, fun c => hr (h ▸ cmpV_ge.2 c), rfl, rfl, rfl⟩)
end
end Go.Proofs.YtjohglkfcefimaaGreat
