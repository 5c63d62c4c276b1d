/- Contracts of the elimination, by the model: quotients, elements told by their cells, copies. -/
import Derived.Test.YthjbfdifeffilaaGreatElimE
import Derived.Test.YthjbfdifeffilaaGreatMatS1
import Derived.Test.YthjbfdifeffilaaGreatMatI6
namespace Go.Proofs.YthjbfdifeffilaaGreat
set_option maxRecDepth 100000
open Go.RowKit

set_option maxHeartbeats 3200000 in
theorem spec_l05Div (g1 : Bool) (A1 : Option Addr) (n1 c1 : Nat) (xs : List Int) (B1 : Option Addr) (m1 d1 : Nat) (es : List Int) (g2 : Bool) (A2 : Option Addr) (n2 c2 : Nat) (ys : List Int) (B2 : Option Addr) (m2 d2 : Nat) (fs : List Int) (w : World) (h1 : InI w A1 n1 xs) (r1 : Room A1 n1 c1) (k1 : InI w B1 m1 es) (s1 : Room B1 m1 d1) (h2 : InI w A2 n2 ys) (r2 : Room A2 n2 c2) (k2 : InI w B2 m2 fs) (s2 : Room B2 m2 d2)(q1 : ROk g1 xs es) (q2 : ROk g2 ys fs) :
    Calls Tryz.prog 141 #[.agg #[.bool g1, .slice A1 n1 c1, .slice B1 m1 d1], .agg #[.bool g2, .slice A2 n2 c2, .slice B2 m2 d2]] w fun e w' => RatEnd (RatDivIs g1 xs es g2 ys fs) w w' e := by
  have hn1 := h1.2.1
  have hn2 := h2.2.1
  have hm1 := k1.2.1
  have hm2 := k2.2.1
  obtain ⟨W0, hW0⟩ : ∃ W, W = (((w.alloc (.cells #[.bool g1, .slice A1 n1 c1, .slice B1 m1 d1] 35)).alloc (.cells #[.bool g2, .slice A2 n2 c2, .slice B2 m2 d2] 35)).alloc (.cells #[.bool false, .slice none 0 0, .slice none 0 0] 35)) := ⟨_, rfl⟩
  have hy0_0 : Hid (Box W0 (w.heap.size) 35 #[.bool g1, .slice A1 n1 c1, .slice B1 m1 d1]) := by rw [hW0]; exact (((Box.at' (by simp)).alloc _).alloc _)
  have hy1_0 : Hid (Box W0 (w.heap.size + 1) 35 #[.bool g2, .slice A2 n2 c2, .slice B2 m2 d2]) := by rw [hW0]; exact ((Box.at' (by simp)).alloc _)
  have hs_0 : Hid (Box W0 (w.heap.size + 1 + 1) 35 #[.bool false, .slice none 0 0, .slice none 0 0]) := by rw [hW0]; exact (Box.at' (by simp))
  have BW_0 : Hid (Below w.heap.size w W0) := by rw [hW0]; exact ((((Below.refl w.heap.size w).alloc (by simp) _).alloc (by simp) _).alloc (by simp; omega) _)
  have hsz0 : w.heap.size + 1 + 1 + 1 ≤ W0.heap.size := by rw [hW0]; simp
  have HI1 := Lib.hid (h1.below BW_0.out)
  have HI2 := Lib.hid (h2.below BW_0.out)
  have HJ1 := Lib.hid (k1.below BW_0.out)
  have HJ2 := Lib.hid (k2.below BW_0.out)
  have R1 := Lib.hid r1
  have R2 := Lib.hid r2
  have S1 := Lib.hid s1
  have S2 := Lib.hid s2
  clear h1 h2 k1 k2 r1 r2 s1 s2
  go_enter Tryz.func141, Tryz.ntmps141
  go_wp2_with fail
  rw [← hW0]
  clear hW0
  have K1 := Lib.hid q1
  have K2 := Lib.hid q2
  clear q1 q2
  obtain ⟨t, ht⟩ : ∃ t, (g1 == g2) = t := ⟨_, rfl⟩
  have HT : Hid ((g1 != g2) = !t) := by rw [← ht]; rfl
  have hy0_1 := Lib.hid hy0_0.out.drew
  have hy1_1 := Lib.hid hy1_0.out.drew
  have hs_1 := Lib.hid hs_0.out.drew
  have BW_1 := Lib.hid BW_0.out.drew
  replace HI1 := Lib.hid HI1.out.drew
  replace HI2 := Lib.hid HI2.out.drew
  replace HJ1 := Lib.hid HJ1.out.drew
  replace HJ2 := Lib.hid HJ2.out.drew
  have cvhy00 : Hid ((#[.bool g1, .slice A1 n1 c1, .slice B1 m1 d1] : Array Value)[0]? = some (.bool g1)) := rfl
  have cvhy01 : Hid ((#[.bool g1, .slice A1 n1 c1, .slice B1 m1 d1] : Array Value)[1]? = some (.slice A1 n1 c1)) := rfl
  have cvhy02 : Hid ((#[.bool g1, .slice A1 n1 c1, .slice B1 m1 d1] : Array Value)[2]? = some (.slice B1 m1 d1)) := rfl
  have cvhy10 : Hid ((#[.bool g2, .slice A2 n2 c2, .slice B2 m2 d2] : Array Value)[0]? = some (.bool g2)) := rfl
  have cvhy11 : Hid ((#[.bool g2, .slice A2 n2 c2, .slice B2 m2 d2] : Array Value)[1]? = some (.slice A2 n2 c2)) := rfl
  have cvhy12 : Hid ((#[.bool g2, .slice A2 n2 c2, .slice B2 m2 d2] : Array Value)[2]? = some (.slice B2 m2 d2)) := rfl
  go_region_held3 (fun w' => w'.cell? ⟨w.heap.size, 0, none⟩ = some (.bool g1) ∧ w'.cell? ⟨w.heap.size, 1, none⟩ = some (.slice A1 n1 c1) ∧ w'.cell? ⟨w.heap.size, 2, none⟩ = some (.slice B1 m1 d1) ∧ w'.cell? ⟨w.heap.size + 1, 0, none⟩ = some (.bool g2) ∧ w'.cell? ⟨w.heap.size + 1, 1, none⟩ = some (.slice A2 n2 c2) ∧ w'.cell? ⟨w.heap.size + 1, 2, none⟩ = some (.slice B2 m2 d2)) (first | with_reducible exact ⟨cellS hy0_4 cvhy00, cellS hy0_4 cvhy01, cellS hy0_4 cvhy02, cellS hy1_4 cvhy10, cellS hy1_4 cvhy11, cellS hy1_4 cvhy12⟩ | with_reducible exact ⟨cellS (hFar (hFar (hFar hy0_4 (by dsimp only; omega) _) (by dsimp only; omega) _) (by dsimp only; omega) _) cvhy00, cellS (hFar (hFar (hFar hy0_4 (by dsimp only; omega) _) (by dsimp only; omega) _) (by dsimp only; omega) _) cvhy01, cellS (hFar (hFar (hFar hy0_4 (by dsimp only; omega) _) (by dsimp only; omega) _) (by dsimp only; omega) _) cvhy02, cellS (hFar (hFar (hFar hy1_4 (by dsimp only; omega) _) (by dsimp only; omega) _) (by dsimp only; omega) _) cvhy10, cellS (hFar (hFar (hFar hy1_4 (by dsimp only; omega) _) (by dsimp only; omega) _) (by dsimp only; omega) _) cvhy11, cellS (hFar (hFar (hFar hy1_4 (by dsimp only; omega) _) (by dsimp only; omega) _) (by dsimp only; omega) _) cvhy12⟩ | with_reducible exact ⟨cellS hy0_3 cvhy00, cellS hy0_3 cvhy01, cellS hy0_3 cvhy02, cellS hy1_3 cvhy10, cellS hy1_3 cvhy11, cellS hy1_3 cvhy12⟩ | with_reducible exact ⟨cellS hy0_2 cvhy00, cellS hy0_2 cvhy01, cellS hy0_2 cvhy02, cellS hy1_2 cvhy10, cellS hy1_2 cvhy11, cellS hy1_2 cvhy12⟩ | with_reducible exact ⟨cellS hy0_1 cvhy00, cellS hy0_1 cvhy01, cellS hy0_1 cvhy02, cellS hy1_1 cvhy10, cellS hy1_1 cvhy11, cellS hy1_1 cvhy12⟩) (first | (go_at_call 115; refine (spec_low (!t) Aa na ca la Ab nb cb lb _ ⟨HNa.out.symm, (by omega), Reads.of_own HOa.out, limbs_bd HCa.out.1.1.1⟩ (room_own HOa.out) ⟨HNb.out.symm, (by omega), Reads.of_own HOb.out, limbs_bd HCb.out.1.1.1⟩ (room_own HOb.out) HCa.out.1 HCb.out.1).mono ?_; rintro e wz ⟨s, r, v, dd, u, rfl, hq, ⟨hl1, ho1⟩, ⟨hl2, ho2⟩, hap, hb⟩; have HQ := Lib.hid (low_div_fin K1.out K2.out HT.out HCa.out HCb.out hq); have HAP := Lib.hid hap; have hszl := BW_3.out.size; have hy0_4 := Lib.hid (hy0_3.out.below hb hy0_3.out.lt); have hy1_4 := Lib.hid (hy1_3.out.below hb hy1_3.out.lt); have hs_4 := Lib.hid (hs_3.out.below hb hs_3.out.lt); have BW_4 := Lib.hid (BW_3.out.trans (hb.mono BW_3.out.size)); clear hb; clear hq hap; obtain ⟨A9, c9, rfl⟩ := own_slice ho1; obtain ⟨B9, d9, rfl⟩ := own_slice ho2; obtain ⟨N9, hN9⟩ : ∃ N, N = r.length := ⟨_, rfl⟩; obtain ⟨M9, hM9⟩ : ∃ N, N = dd.length := ⟨_, rfl⟩; rw [← hN9] at hl1 ho1 HAP ⊢; rw [← hM9] at hl2 ho2 HAP ⊢; have HN := Lib.hid hN9.symm; have HM := Lib.hid hM9.symm; have HO := Lib.hid ho1; have HU := Lib.hid ho2; clear ho1 ho2 hN9 hM9; have ehs0 := hs_4.out.cell 0; have ehs1 := hs_4.out.cell 1; have ehs2 := hs_4.out.cell 2; have fhs0 := hs_4.out.free 0; have fhs1 := hs_4.out.free 1; have fhs2 := hs_4.out.free 2; simp at ehs0 ehs1 ehs2) | (go_at_call 117; (with_reducible refine (spec_mul B1 m1 d1 es A2 n2 c2 ys _ HJ1.out.canon HI2.out.canon K1.out.dr K2.out.nr).mono ?_); rintro e w3 ⟨lb, Ab, cb, rfl, hcan, hv, hlb, ho, hb⟩; have HCb := Lib.hid (prod_ok hcan hv K1.out.db K2.out.nb); have hy0_3 := Lib.hid (hy0_2.out.below hb hy0_2.out.lt); have hy1_3 := Lib.hid (hy1_2.out.below hb hy1_2.out.lt); have hs_3 := Lib.hid (hs_2.out.below hb hs_2.out.lt); have BW_3 := Lib.hid (BW_2.out.trans (hb.mono BW_2.out.size)); replace HI1 := Lib.hid (HI1.out.below hb); replace HI2 := Lib.hid (HI2.out.below hb); replace HJ1 := Lib.hid (HJ1.out.below hb); replace HJ2 := Lib.hid (HJ2.out.below hb); replace HOa := Lib.hid (own_below HOa.out hb); clear hb; obtain ⟨nb, hN⟩ : ∃ N, N = lb.length := ⟨_, rfl⟩; rw [← hN] at hlb ho ⊢; have HNb := Lib.hid hN; have HOb := Lib.hid ho; have hsb : nb ≤ 60 := (by have := HCb.out.1.2; rwa [← hN] at this); clear hcan hv ho hN) | (go_at_call 117; (with_reducible refine (spec_mul A1 n1 c1 xs B2 m2 d2 fs _ HI1.out.canon HJ2.out.canon K1.out.nr K2.out.dr).mono ?_); rintro e w2 ⟨la, Aa, ca, rfl, hcan, hv, hla, ho, hb⟩; have HCa := Lib.hid (prod_ok hcan hv K1.out.nb K2.out.db); have hy0_2 := Lib.hid (hy0_1.out.below hb hy0_1.out.lt); have hy1_2 := Lib.hid (hy1_1.out.below hb hy1_1.out.lt); have hs_2 := Lib.hid (hs_1.out.below hb hs_1.out.lt); have BW_2 := Lib.hid (BW_1.out.trans (hb.mono BW_1.out.size)); replace HI1 := Lib.hid (HI1.out.below hb); replace HI2 := Lib.hid (HI2.out.below hb); replace HJ1 := Lib.hid (HJ1.out.below hb); replace HJ2 := Lib.hid (HJ2.out.below hb); clear hb; obtain ⟨na, hN⟩ : ∃ N, N = la.length := ⟨_, rfl⟩; rw [← hN] at hla ho ⊢; have HNa := Lib.hid hN; have HOa := Lib.hid ho; have hsa : na ≤ 60 := (by have := HCa.out.1.2; rwa [← hN] at this); clear hcan hv ho hN))
  go_wp2_with fail
  refine bodyPost_ret (v := .agg #[.bool s, .slice A9 N9 c9, .slice B9 M9 d9]) (by simp [results, Tryz.results141, ehs0, ehs1, ehs2, go_sem]) rfl ?_
  exact ratEnd_store hs_4.out (by omega) BW_4.out HQ.out HN.out HM.out (by omega) (by omega) HO.out (by omega) HU.out (by omega) HAP.out
/-- An element of a list of the call's own that holds a known fraction. -/
theorem OwnV.elr {w : World} {base G n c t : Nat} {L : List El} {rs : List RD} {r : RD} (h : OwnV w base (.slice (some ⟨G, 0, none⟩) n c) n L) (hh : Has L rs) (hr : rs[t]? = some r) :
    ∃ A c' B d, L[t]? = some (qEl r A c' B d) ∧ (qEl r A c' B d).own w base ∧ At3 w G (t * 3) (.bool r.g) (.slice A r.xs.length c') (.slice B r.ds.length d) := by
  have hlt : t < L.length := by rw [hh.length]; exact (List.getElem?_eq_some_iff.1 hr).1
  obtain ⟨g, A, k, c', xs, B, m, d, ys, hL, hc, _⟩ := h.el (i := t) (by rw [← h.1]; exact hlt)
  obtain ⟨r', hr', k1, k2, k3, k4, k5⟩ := hh.get hL
  obtain rfl : r = r' := by rw [hr] at hr'; exact Option.some.inj hr'
  dsimp only at k1 k2 k3 k4 k5
  subst k1 k2 k3 k4 k5
  have ho := h.elem hlt
  obtain ⟨_, he⟩ := List.getElem?_eq_some_iff.1 hL
  rw [he] at ho
  exact ⟨A, c', B, d, hL, ho, hc⟩
set_option maxHeartbeats 1600000 in
theorem spec_l06AtC (p : Int) (K i j t b o n c : Nat) (g : Bool) (A1 : Option Addr) (n1 c1 : Nat) (B1 : Option Addr) (m1 d1 : Nat) (w : World) (ht : i * K + j = t) (hlt : t < n) (hn : n ≤ 1048576) (hat : At3 w b (o + t * 3) (.bool g) (.slice A1 n1 c1) (.slice B1 m1 d1)) (_hn1 : n1 ≤ 1048576) (_hm1 : m1 ≤ 1048576) (_hbs : b < w.heap.size) (_hi : i ≤ 24) (_hK : K ≤ 24) :
    Calls Tryz.prog 105 #[.agg #[.int .i64 p, .int .i64 K, .slice (some ⟨b, o, none⟩) n c], .int .i64 i, .int .i64 j] w fun e w' => e = .returned (.agg #[.bool g, .slice A1 n1 c1, .slice B1 m1 d1]) ∧ Below w.heap.size w w' := by
  obtain ⟨u, hu⟩ : ∃ u, u = i * K := ⟨_, rfl⟩
  have hik : (i : Int) * (K : Int) = u := by rw [hu]; exact (Int.natCast_mul _ _).symm
  rw [← hu] at ht
  have huj : (u : Int) + (j : Int) = (t : Int) := by omega
  obtain ⟨e0, e1, e2⟩ := hat
  have ht0 : (0 : Int) ≤ (t : Int) := by omega
  have ht1 : (t : Int) < (n : Int) := by omega
  clear hu ht
  go_enter Tryz.func105, Tryz.ntmps105
  go_wp2_with fail
  refine bodyPost_ret (v := .agg #[.bool g, .slice A1 n1 c1, .slice B1 m1 d1]) (by simp [results, Tryz.results105, go_sem]) rfl ?_
  exact ⟨rfl, ((Below.refl w.heap.size w).alloc (Nat.le_refl _) _).alloc (by simp) _⟩
def CopyVEnd (n : Nat) (rs : List RD) (w w' : World) (e : Ending) : Prop := ∃ A c L, e = .returned (.slice A n c) ∧ OwnV w' w.heap.size (.slice A n c) n L ∧ Has L rs ∧ Below w.heap.size w w'
def CopyMSEnd (P K n : Nat) (rs : List RD) (w w' : World) (e : Ending) : Prop := ∃ A c L, e = .returned (.agg #[.int .i64 P, .int .i64 K, .slice A n c]) ∧ OwnV w' w.heap.size (.slice A n c) n L ∧ Has L rs ∧ Below w.heap.size w w'
end Go.Proofs.YthjbfdifeffilaaGreat
