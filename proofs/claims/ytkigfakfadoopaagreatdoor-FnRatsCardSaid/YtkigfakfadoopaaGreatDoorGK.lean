/- Contracts of fractions: the sign, comparison. -/
import Derived.Test.YtkigfakfadoopaaGreatDoorRatS5
import Derived.Test.YtkigfakfadoopaaGreatDoorGE
import Derived.Test.YtkigfakfadoopaaGreatDoorGF
namespace Go.Proofs.YtkigfakfadoopaaGreatDoor
set_option maxRecDepth 100000
open Go.RowKit

def IntEnd (Q : Int → Prop) (w w' : World) (e : Ending) : Prop := ∃ r, e = .returned (.int .i64 r) ∧ Q r ∧ Below w.heap.size w w'
theorem rsign_no {g : Bool} {xs es : List Int} {w w' : World} (h : ¬ ROk g xs es) (hb : Below w.heap.size w w') : IntEnd (RatSignIs g xs es) w w' (.returned (.int .i64 0)) := ⟨0, rfl, .inr ⟨h, rfl⟩, hb⟩
theorem rsign_yes {g : Bool} {xs es : List Int} {w w' : World} {r : Int} (h : ROk g xs es) (hr : sg g xs.length = r) (hb : Below w.heap.size w w') : IntEnd (RatSignIs g xs es) w w' (.returned (.int .i64 r)) := ⟨r, rfl, .inl ⟨h, hr.symm⟩, hb⟩
theorem rsign_zero {g : Bool} {xs es : List Int} {n : Nat} (h : ROk g xs es) (hl : xs.length = 0) (hn : n = 0) : sg g n = 0 := by
  subst hn
  have e := List.eq_nil_of_length_eq_zero hl
  cases g
  · rfl
  · exact absurd e (h.1.2 rfl)
theorem rcmp_no {g1 g2 : Bool} {xs es ys fs : List Int} {w w' : World} (h : ¬ (ROk g1 xs es ∧ ROk g2 ys fs)) (hb : Below w.heap.size w w') : IntEnd (RatCmpIs g1 xs es g2 ys fs) w w' (.returned (.int .i64 0)) := ⟨0, rfl, .inr ⟨h, rfl⟩, hb⟩
theorem crossOk {N : Int} {g : Bool} {l : List Int} (h : Hid (CrossIs N g l)) : BOk g l := h.out.1
theorem rcmp_fin {g1 g2 ga gb : Bool} {xs es ys fs la lb : List Int} {r : Int} (k1 : ROk g1 xs es) (k2 : ROk g2 ys fs) (ha : CrossIs (bval g1 xs * val fs) ga la) (hb : CrossIs (bval g2 ys * val es) gb lb) (h : BigIntCmpIs ga la gb lb r) : RatCmpIs g1 xs es g2 ys fs r := by
  rcases h with ⟨_, h⟩ | ⟨h, _⟩
  · rw [ha.2.1, hb.2.1] at h; exact .inl ⟨⟨k1, k2⟩, h⟩
  · exact absurd ⟨ha.1, hb.1⟩ h
set_option maxHeartbeats 3200000 in
theorem impl_ratSign0 (g1 : Bool) (A1 : Option Addr) (n1 c1 : Nat) (xs : List Int) (B1 : Option Addr) (m1 d1 : Nat) (es : List Int) (w : World) (h1 : InI w A1 n1 xs) (r1 : Room A1 n1 c1) (k1 : InI w B1 m1 es) (s1 : Room B1 m1 d1) :
    Calls Tryz.prog 11 #[.agg #[.bool g1, .slice A1 n1 c1, .slice B1 m1 d1]] w fun e w' => IntEnd (RatSignIs g1 xs es) w w' e := by
  have hn1 := h1.2.1
  have hm1 := k1.2.1
  obtain ⟨W0, hW0⟩ : ∃ W, W = (w.alloc (.cells #[.bool g1, .slice A1 n1 c1, .slice B1 m1 d1] 27)) := ⟨_, rfl⟩
  have hy0_0 : Hid (Box W0 (w.heap.size) 27 #[.bool g1, .slice A1 n1 c1, .slice B1 m1 d1]) := by rw [hW0]; exact (Box.at' (by simp))
  have BW_0 : Hid (Below w.heap.size w W0) := by rw [hW0]; exact ((Below.refl w.heap.size w).alloc (by simp) _)
  have hsz0 : w.heap.size + 1 ≤ W0.heap.size := by rw [hW0]; simp
  have HI1 := Lib.hid (h1.below BW_0.out)
  have HJ1 := Lib.hid (k1.below BW_0.out)
  have R1 := Lib.hid r1
  have S1 := Lib.hid s1
  clear h1 k1 r1 s1
  go_enter Tryz.func11, Tryz.ntmps11
  go_wp2_with fail
  rw [← hW0]
  clear hW0
  refine (impl_ratOk' g1 A1 n1 c1 xs B1 m1 d1 es _ HI1.out HJ1.out).mono ?_
  rintro e wa ⟨⟨b, rfl, hi⟩, hb⟩
  have hy0_1 := Lib.hid (hy0_0.out.below hb hy0_0.out.lt)
  have BW_1 := Lib.hid (BW_0.out.trans (hb.mono BW_0.out.size))
  replace HI1 := Lib.hid (HI1.out.below hb)
  replace HJ1 := Lib.hid (HJ1.out.below hb)
  clear hb
  have ehy00 := hy0_1.out.cell 0
  have ehy01 := hy0_1.out.cell 1
  have ehy02 := hy0_1.out.cell 2
  simp at ehy00 ehy01 ehy02
  cases b
  · have hno : ¬ ROk g1 xs es := fun h => by have := hi.2 h; cases this
    clear hi
    have HF := Lib.hid (rsign_no (w := w) hno BW_1.out)
    go_wp2_with fail
    go_ret
    exact HF.out
  have K1 := Lib.hid (hi.1 rfl)
  clear hi
  have hn1 : n1 ≤ 24 := by have := K1.out.2.2.2.2.1; rwa [HI1.out.1] at this
  have hm1 : m1 ≤ 24 := by have := K1.out.2.2.2.2.2; rwa [HJ1.out.1] at this
  obtain ⟨s, hs⟩ : ∃ s, sg g1 n1 = s := ⟨_, rfl⟩
  have HS := Lib.hid hs
  have hbd := sg_bd g1 n1
  rw [hs] at hbd
  clear hs
  go_wp2_with fail
  clear ehy00 ehy01 ehy02
  refine (impl_signOf g1 A1 n1 c1 s _ HS.out (by omega)).mono ?_
  rintro e wb ⟨rfl, hb⟩
  have hy0_2 := Lib.hid (hy0_1.out.below hb hy0_1.out.lt)
  have BW_2 := Lib.hid (BW_1.out.trans (hb.mono BW_1.out.size))
  clear hb
  have HF := Lib.hid (rsign_yes (w := w) (r := s) K1.out (by rw [HI1.out.1]; exact HS.out) BW_2.out)
  go_wp2_with fail
  go_ret
  exact HF.out
theorem impl_ratSign (g1 : Bool) (A1 : Option Addr) (n1 c1 : Nat) (xs : List Int) (B1 : Option Addr) (m1 d1 : Nat) (es : List Int) (w : World) (h1 : InI w A1 n1 xs) (r1 : Room A1 n1 c1) (k1 : InI w B1 m1 es) (s1 : Room B1 m1 d1) :
    Calls Tryz.prog 11 #[.agg #[.bool g1, .slice A1 n1 c1, .slice B1 m1 d1]] w fun e w' => ∃ r, e = .returned (.int .i64 r) ∧ RatSignIs g1 xs es r ∧ Below w.heap.size w w' :=
  (impl_ratSign0 g1 A1 n1 c1 xs B1 m1 d1 es w h1 r1 k1 s1).mono fun _ _ h => h
set_option maxHeartbeats 3200000 in
theorem impl_ratCmp0 (g1 : Bool) (A1 : Option Addr) (n1 c1 : Nat) (xs : List Int) (B1 : Option Addr) (m1 d1 : Nat) (es : List Int) (g2 : Bool) (A2 : Option Addr) (n2 c2 : Nat) (ys : List Int) (B2 : Option Addr) (m2 d2 : Nat) (fs : List Int) (w : World) (h1 : InI w A1 n1 xs) (r1 : Room A1 n1 c1) (k1 : InI w B1 m1 es) (s1 : Room B1 m1 d1) (h2 : InI w A2 n2 ys) (r2 : Room A2 n2 c2) (k2 : InI w B2 m2 fs) (s2 : Room B2 m2 d2) :
    Calls Tryz.prog 13 #[.agg #[.bool g1, .slice A1 n1 c1, .slice B1 m1 d1], .agg #[.bool g2, .slice A2 n2 c2, .slice B2 m2 d2]] w fun e w' => IntEnd (RatCmpIs g1 xs es g2 ys fs) w w' e := by
  have hn1 := h1.2.1
  have hn2 := h2.2.1
  have hm1 := k1.2.1
  have hm2 := k2.2.1
  obtain ⟨W0, hW0⟩ : ∃ W, W = ((w.alloc (.cells #[.bool g1, .slice A1 n1 c1, .slice B1 m1 d1] 27)).alloc (.cells #[.bool g2, .slice A2 n2 c2, .slice B2 m2 d2] 27)) := ⟨_, rfl⟩
  have hy0_0 : Hid (Box W0 (w.heap.size) 27 #[.bool g1, .slice A1 n1 c1, .slice B1 m1 d1]) := by rw [hW0]; exact ((Box.at' (by simp)).alloc _)
  have hy1_0 : Hid (Box W0 (w.heap.size + 1) 27 #[.bool g2, .slice A2 n2 c2, .slice B2 m2 d2]) := by rw [hW0]; exact (Box.at' (by simp))
  have BW_0 : Hid (Below w.heap.size w W0) := by rw [hW0]; exact (((Below.refl w.heap.size w).alloc (by simp) _).alloc (by simp) _)
  have hsz0 : w.heap.size + 1 + 1 ≤ W0.heap.size := by rw [hW0]; simp
  have HI1 := Lib.hid (h1.below BW_0.out)
  have HI2 := Lib.hid (h2.below BW_0.out)
  have HJ1 := Lib.hid (k1.below BW_0.out)
  have HJ2 := Lib.hid (k2.below BW_0.out)
  have R1 := Lib.hid r1
  have R2 := Lib.hid r2
  have S1 := Lib.hid s1
  have S2 := Lib.hid s2
  clear h1 h2 k1 k2 r1 r2 s1 s2
  go_enter Tryz.func13, Tryz.ntmps13
  go_wp2_with fail
  rw [← hW0]
  clear hW0
  refine (impl_ratOk' g1 A1 n1 c1 xs B1 m1 d1 es _ HI1.out HJ1.out).mono ?_
  rintro e wa ⟨⟨b, rfl, hi⟩, hb⟩
  have hy0_1 := Lib.hid (hy0_0.out.below hb hy0_0.out.lt)
  have hy1_1 := Lib.hid (hy1_0.out.below hb hy1_0.out.lt)
  have BW_1 := Lib.hid (BW_0.out.trans (hb.mono BW_0.out.size))
  replace HI1 := Lib.hid (HI1.out.below hb)
  replace HI2 := Lib.hid (HI2.out.below hb)
  replace HJ1 := Lib.hid (HJ1.out.below hb)
  replace HJ2 := Lib.hid (HJ2.out.below hb)
  clear hb
  have ehy00 := hy0_1.out.cell 0
  have ehy01 := hy0_1.out.cell 1
  have ehy02 := hy0_1.out.cell 2
  have ehy10 := hy1_1.out.cell 0
  have ehy11 := hy1_1.out.cell 1
  have ehy12 := hy1_1.out.cell 2
  simp at ehy00 ehy01 ehy02 ehy10 ehy11 ehy12
  cases b
  · have hno : ¬ (ROk g1 xs es ∧ ROk g2 ys fs) := fun h => by have := hi.2 h.1; cases this
    clear hi
    have HF := Lib.hid (rcmp_no (w := w) hno BW_1.out)
    go_wp2_with fail
    go_ret
    exact HF.out
  have K1 := Lib.hid (hi.1 rfl)
  clear hi
  go_wp2_with fail
  refine (impl_ratOk' g2 A2 n2 c2 ys B2 m2 d2 fs _ HI2.out HJ2.out).mono ?_
  rintro e wb ⟨⟨b, rfl, hi⟩, hb⟩
  have hy0_2 := Lib.hid (hy0_1.out.below hb hy0_1.out.lt)
  have hy1_2 := Lib.hid (hy1_1.out.below hb hy1_1.out.lt)
  have BW_2 := Lib.hid (BW_1.out.trans (hb.mono BW_1.out.size))
  replace HI1 := Lib.hid (HI1.out.below hb)
  replace HI2 := Lib.hid (HI2.out.below hb)
  replace HJ1 := Lib.hid (HJ1.out.below hb)
  replace HJ2 := Lib.hid (HJ2.out.below hb)
  clear hb
  clear ehy00 ehy01 ehy02 ehy10 ehy11 ehy12
  have ehy00 := hy0_2.out.cell 0
  have ehy01 := hy0_2.out.cell 1
  have ehy02 := hy0_2.out.cell 2
  have ehy10 := hy1_2.out.cell 0
  have ehy11 := hy1_2.out.cell 1
  have ehy12 := hy1_2.out.cell 2
  simp at ehy00 ehy01 ehy02 ehy10 ehy11 ehy12
  cases b
  · have hno : ¬ (ROk g1 xs es ∧ ROk g2 ys fs) := fun h => by have := hi.2 h.2; cases this
    clear hi
    have HF := Lib.hid (rcmp_no (w := w) hno BW_2.out)
    go_wp2_with fail
    go_ret
    exact HF.out
  have K2 := Lib.hid (hi.1 rfl)
  clear hi
  have hn1 : n1 ≤ 24 := by have := K1.out.2.2.2.2.1; rwa [HI1.out.1] at this
  have hn2 : n2 ≤ 24 := by have := K2.out.2.2.2.2.1; rwa [HI2.out.1] at this
  have hm1 : m1 ≤ 24 := by have := K1.out.2.2.2.2.2; rwa [HJ1.out.1] at this
  have hm2 : m2 ≤ 24 := by have := K2.out.2.2.2.2.2; rwa [HJ2.out.1] at this
  go_wp2_with fail
  clear ehy00 ehy01 ehy02 ehy10 ehy11 ehy12
  have hy0_3 := Lib.hid hy0_2.out.drew
  have hy1_3 := Lib.hid hy1_2.out.drew
  have BW_3 := Lib.hid BW_2.out.drew
  replace HI1 := Lib.hid HI1.out.drew
  replace HI2 := Lib.hid HI2.out.drew
  replace HJ1 := Lib.hid HJ1.out.drew
  replace HJ2 := Lib.hid HJ2.out.drew
  have cvhy00 : Hid ((#[.bool g1, .slice A1 n1 c1, .slice B1 m1 d1] : Array Value)[0]? = some (.bool g1)) := rfl
  have cvhy01 : Hid ((#[.bool g1, .slice A1 n1 c1, .slice B1 m1 d1] : Array Value)[1]? = some (.slice A1 n1 c1)) := rfl
  have cvhy02 : Hid ((#[.bool g1, .slice A1 n1 c1, .slice B1 m1 d1] : Array Value)[2]? = some (.slice B1 m1 d1)) := rfl
  have cvhy10 : Hid ((#[.bool g2, .slice A2 n2 c2, .slice B2 m2 d2] : Array Value)[0]? = some (.bool g2)) := rfl
  have cvhy11 : Hid ((#[.bool g2, .slice A2 n2 c2, .slice B2 m2 d2] : Array Value)[1]? = some (.slice A2 n2 c2)) := rfl
  have cvhy12 : Hid ((#[.bool g2, .slice A2 n2 c2, .slice B2 m2 d2] : Array Value)[2]? = some (.slice B2 m2 d2)) := rfl
  go_region_held3 (fun w' => w'.cell? ⟨w.heap.size, 0, none⟩ = some (.bool g1) ∧ w'.cell? ⟨w.heap.size, 1, none⟩ = some (.slice A1 n1 c1) ∧ w'.cell? ⟨w.heap.size, 2, none⟩ = some (.slice B1 m1 d1) ∧ w'.cell? ⟨w.heap.size + 1, 0, none⟩ = some (.bool g2) ∧ w'.cell? ⟨w.heap.size + 1, 1, none⟩ = some (.slice A2 n2 c2) ∧ w'.cell? ⟨w.heap.size + 1, 2, none⟩ = some (.slice B2 m2 d2)) (first | with_reducible exact ⟨cellS hy0_6 cvhy00, cellS hy0_6 cvhy01, cellS hy0_6 cvhy02, cellS hy1_6 cvhy10, cellS hy1_6 cvhy11, cellS hy1_6 cvhy12⟩ | with_reducible exact ⟨cellS hy0_6 cvhy00, cellS hy0_6 cvhy01, cellS hy0_6 cvhy02, cellS hy1_6 cvhy10, cellS hy1_6 cvhy11, cellS hy1_6 cvhy12⟩ | with_reducible exact ⟨cellS hy0_5 cvhy00, cellS hy0_5 cvhy01, cellS hy0_5 cvhy02, cellS hy1_5 cvhy10, cellS hy1_5 cvhy11, cellS hy1_5 cvhy12⟩ | with_reducible exact ⟨cellS hy0_4 cvhy00, cellS hy0_4 cvhy01, cellS hy0_4 cvhy02, cellS hy1_4 cvhy10, cellS hy1_4 cvhy11, cellS hy1_4 cvhy12⟩ | with_reducible exact ⟨cellS hy0_3 cvhy00, cellS hy0_3 cvhy01, cellS hy0_3 cvhy02, cellS hy1_3 cvhy10, cellS hy1_3 cvhy11, cellS hy1_3 cvhy12⟩) (first | (go_at_call 37; refine (impl_bigIntCmp' ga Aa na ca la gb Ab nb cb lb _ ⟨HNa.out.symm, (by omega), Reads.of_own HOa.out, limbs_bd HCa.out.1.1.1.1⟩ ⟨HNb.out.symm, (by omega), Reads.of_own HOb.out, limbs_bd HCb.out.1.1.1.1⟩).mono ?_; rintro e w6 ⟨r, rfl, hq, hb⟩; have HR := Lib.hid (rcmp_fin K1.out K2.out HCa.out HCb.out hq); clear hq; have hy0_6 := Lib.hid (hy0_5.out.below hb hy0_5.out.lt); have hy1_6 := Lib.hid (hy1_5.out.below hb hy1_5.out.lt); have BW_6 := Lib.hid (BW_5.out.trans (hb.mono BW_5.out.size)); clear hb) | (go_at_call 21; (with_reducible refine (impl_crossed g2 A2 n2 c2 ys B2 m2 d2 fs g1 A1 n1 c1 xs B1 m1 d1 es _ HI2.out R2.out HJ1.out S1.out).mono ?_); rintro e w5 ⟨gb, lb, vb, rfl, hq, ⟨hlb, ho⟩, hb⟩; have HCb := Lib.hid (cross_mk K2.out K1.out hq); have hy0_5 := Lib.hid (hy0_4.out.below hb hy0_4.out.lt); have hy1_5 := Lib.hid (hy1_4.out.below hb hy1_4.out.lt); have BW_5 := Lib.hid (BW_4.out.trans (hb.mono BW_4.out.size)); replace HI1 := Lib.hid (HI1.out.below hb); replace HI2 := Lib.hid (HI2.out.below hb); replace HJ1 := Lib.hid (HJ1.out.below hb); replace HJ2 := Lib.hid (HJ2.out.below hb); replace HOa := Lib.hid (own_below HOa.out hb); clear hb; obtain ⟨Ab, cb, rfl⟩ := own_slice ho; obtain ⟨nb, hnb⟩ : ∃ N, N = lb.length := ⟨_, rfl⟩; rw [← hnb] at hlb ho ⊢; have HNb := Lib.hid hnb; have HOb := Lib.hid ho; clear ho hnb; have hsb : nb ≤ 60 := (by have := HCb.out.1.1.2; rwa [← HNb.out] at this); clear hq) | (go_at_call 21; (with_reducible refine (impl_crossed g1 A1 n1 c1 xs B1 m1 d1 es g2 A2 n2 c2 ys B2 m2 d2 fs _ HI1.out R1.out HJ2.out S2.out).mono ?_); rintro e w4 ⟨ga, la, va, rfl, hq, ⟨hla, ho⟩, hb⟩; have HCa := Lib.hid (cross_mk K1.out K2.out hq); have hy0_4 := Lib.hid (hy0_3.out.below hb hy0_3.out.lt); have hy1_4 := Lib.hid (hy1_3.out.below hb hy1_3.out.lt); have BW_4 := Lib.hid (BW_3.out.trans (hb.mono BW_3.out.size)); replace HI1 := Lib.hid (HI1.out.below hb); replace HI2 := Lib.hid (HI2.out.below hb); replace HJ1 := Lib.hid (HJ1.out.below hb); replace HJ2 := Lib.hid (HJ2.out.below hb); clear hb; obtain ⟨Aa, ca, rfl⟩ := own_slice ho; obtain ⟨na, hna⟩ : ∃ N, N = la.length := ⟨_, rfl⟩; rw [← hna] at hla ho ⊢; have HNa := Lib.hid hna; have HOa := Lib.hid ho; clear ho hna; have hsa : na ≤ 60 := (by have := HCa.out.1.1.2; rwa [← HNa.out] at this); clear hq))
  go_wp2_with fail
  go_ret
  exact ⟨_, rfl, HR.out, BW_6.out⟩
theorem impl_ratCmp (g1 : Bool) (A1 : Option Addr) (n1 c1 : Nat) (xs : List Int) (B1 : Option Addr) (m1 d1 : Nat) (es : List Int) (g2 : Bool) (A2 : Option Addr) (n2 c2 : Nat) (ys : List Int) (B2 : Option Addr) (m2 d2 : Nat) (fs : List Int) (w : World) (h1 : InI w A1 n1 xs) (r1 : Room A1 n1 c1) (k1 : InI w B1 m1 es) (s1 : Room B1 m1 d1) (h2 : InI w A2 n2 ys) (r2 : Room A2 n2 c2) (k2 : InI w B2 m2 fs) (s2 : Room B2 m2 d2) :
    Calls Tryz.prog 13 #[.agg #[.bool g1, .slice A1 n1 c1, .slice B1 m1 d1], .agg #[.bool g2, .slice A2 n2 c2, .slice B2 m2 d2]] w fun e w' => ∃ r, e = .returned (.int .i64 r) ∧ RatCmpIs g1 xs es g2 ys fs r ∧ Below w.heap.size w w' :=
  (impl_ratCmp0 g1 A1 n1 c1 xs B1 m1 d1 es g2 A2 n2 c2 ys B2 m2 d2 fs w h1 r1 k1 s1 h2 r2 k2 s2).mono fun _ _ h => h
end Go.Proofs.YtkigfakfadoopaaGreatDoor
namespace Go.Proofs.YtkigfakfadoopaaGreatDoor
set_option maxRecDepth 100000
open Go.RowKit Go.Deep

section
variable {g1 g2 : Bool} {xs es ys fs : List Int} {r : Int}
theorem pick_no {P C : Prop} (h : ¬ P) : PickIs P C g1 xs es g2 ys fs false [] [] := .inr (.inr ⟨h, rfl, rfl, rfl⟩)
theorem cmp_is (k1 : ROk g1 xs es) (k2 : ROk g2 ys fs) (h : RatCmpIs g1 xs es g2 ys fs r) : r = cmpV (bval g1 xs * val fs) (bval g2 ys * val es) := by
  rcases h with ⟨_, h⟩ | ⟨h, _⟩
  · exact h
  · exact absurd ⟨k1, k2⟩ h
theorem cmpV_m1 {a b : Int} : cmpV a b = -1 ↔ a < b := by
  unfold cmpV
  split
  · simp [*]
  · split <;> simp <;> omega
theorem cmpV_p1 {a b : Int} : cmpV a b = 1 ↔ b < a := by
  unfold cmpV
  split
  · simp; omega
  · split <;> simp <;> omega
theorem min_second (k1 : ROk g1 xs es) (k2 : ROk g2 ys fs) (h : r = cmpV (bval g2 ys * val es) (bval g1 xs * val fs)) (hr : r = -1) : RatMinIs g1 xs es g2 ys fs g2 ys fs :=
  .inr (.inl ⟨⟨k1, k2⟩, by have := cmpV_m1.1 (h.symm.trans hr); omega, rfl, rfl, rfl⟩)
theorem min_first (k1 : ROk g1 xs es) (k2 : ROk g2 ys fs) (h : r = cmpV (bval g2 ys * val es) (bval g1 xs * val fs)) (hr : ¬ r = -1) : RatMinIs g1 xs es g2 ys fs g1 xs es :=
  .inl ⟨⟨k1, k2⟩, by rw [h, cmpV_m1] at hr; omega, rfl, rfl, rfl⟩
theorem max_second (k1 : ROk g1 xs es) (k2 : ROk g2 ys fs) (h : r = cmpV (bval g2 ys * val es) (bval g1 xs * val fs)) (hr : r = 1) : RatMaxIs g1 xs es g2 ys fs g2 ys fs :=
  .inr (.inl ⟨⟨k1, k2⟩, by have := cmpV_p1.1 (h.symm.trans hr); omega, rfl, rfl, rfl⟩)
theorem max_first (k1 : ROk g1 xs es) (k2 : ROk g2 ys fs) (h : r = cmpV (bval g2 ys * val es) (bval g1 xs * val fs)) (hr : ¬ r = 1) : RatMaxIs g1 xs es g2 ys fs g1 xs es :=
  .inl ⟨⟨k1, k2⟩, by rw [h, cmpV_p1] at hr; omega, rfl, rfl, rfl⟩
end
end Go.Proofs.YtkigfakfadoopaaGreatDoor
namespace Go.Proofs.YtkigfakfadoopaaGreatDoor
set_option maxRecDepth 100000
open Go.RowKit Go.Deep

theorem ne_some {a b : Nat} (h : a ≠ b) : some a ≠ some b := fun e => h (by simpa using e)
/-- Two results of appends to literals of their own, in whatever order. -/
theorem apart_two' {u v : Value} {B1 H1 B2 H2 S1 S2 : Nat} (hv : ∀ k, v.ownBlock = some k → k = B1 ∨ k = H1) (hv' : ∀ k, v.ownBlock = some k → k < S1) (hu : ∀ k, u.ownBlock = some k → k = B2 ∨ k = H2) (hu' : ∀ k, u.ownBlock = some k → k < S2)
    (a : B1 ≠ B2) (b : H2 < S2 → B1 ≠ H2) (c : H1 < S1 → H1 ≠ B2) (d : H1 < S1 → H2 < S2 → H1 ≠ H2) : Apart u v := by
  intro k hk hk'
  have h1 := hv k hk'
  have h2 := hv' k hk'
  have h3 := hu k hk
  have h4 := hu' k hk
  rcases h1 with rfl | rfl <;> rcases h3 with h3 | h3
  · exact a h3
  · exact b (by omega) h3
  · exact c h2 h3
  · exact d h2 (by omega) h3
section
variable {g1 g2 : Bool} {xs es ys fs : List Int} {r : Int}
theorem cmpV_le {a b : Int} : cmpV a b ≤ 0 ↔ a ≤ b := by
  unfold cmpV
  split
  · simp; omega
  · split <;> simp <;> omega
theorem cmpV_ge {a b : Int} : 0 ≤ cmpV a b ↔ b ≤ a := by
  unfold cmpV
  split
  · simp; omega
  · split <;> simp <;> omega
theorem smin_first (k1 : ROk g1 xs es) (k2 : ROk g2 ys fs) (h : r = cmpV (bval g1 xs * val fs) (bval g2 ys * val es)) (hr : r ≤ 0) : RatMinIs g1 xs es g2 ys fs g1 xs es :=
  .inl ⟨⟨k1, k2⟩, cmpV_le.1 (h ▸ hr), rfl, rfl, rfl⟩
theorem smin_second (k1 : ROk g1 xs es) (k2 : ROk g2 ys fs) (h : r = cmpV (bval g1 xs * val fs) (bval g2 ys * val es)) (hr : ¬ r ≤ 0) : RatMinIs g1 xs es g2 ys fs g2 ys fs :=
  .inr (.inl ⟨⟨k1, k2⟩, fun c => hr (h ▸ cmpV_le.2 c), rfl, rfl, rfl⟩)
theorem smax_first (k1 : ROk g1 xs es) (k2 : ROk g2 ys fs) (h : r = cmpV (bval g1 xs * val fs) (bval g2 ys * val es)) (hr : 0 ≤ r) : RatMaxIs g1 xs es g2 ys fs g1 xs es :=
  .inl ⟨⟨k1, k2⟩, cmpV_ge.1 (h ▸ hr), rfl, rfl, rfl⟩
theorem smax_second (k1 : ROk g1 xs es) (k2 : ROk g2 ys fs) (h : r = cmpV (bval g1 xs * val fs) (bval g2 ys * val es)) (hr : ¬ 0 ≤ r) : RatMaxIs g1 xs es g2 ys fs g2 ys fs :=
  .inr (.inl ⟨⟨k1, k2⟩, fun c => hr (h ▸ cmpV_ge.2 c), rfl, rfl, rfl⟩)
end
end Go.Proofs.YtkigfakfadoopaaGreatDoor
