/- Contracts of the factoring, by the model: quotients of numbers that may be too large; a variable that holds a fraction beside a list that is written. -/
import Derived.Test.YtdehcddjkcpnfaaGreatFA
import Derived.Test.YtdehcddjkcpnfaaGreatElS1
import Derived.Test.YtdehcddjkcpnfaaGreatMatS3
import Derived.Test.YtdehcddjkcpnfaaGreatSymS
import Derived.Test.YtdehcddjkcpnfaaGreatTA
import Derived.Test.YtdehcddjkcpnfaaGreatVecB3
namespace Go.Proofs.YtdehcddjkcpnfaaGreat
set_option maxRecDepth 100000
open Go.RowKit

theorem low_div_finG {g1 g2 t : Bool} {xs es ys fs la lb : List Int} {g : Bool} {l d : List Int} (k1 : GRat g1 xs es) (k2 : ROk g2 ys fs) (ht : (g1 != g2) = !t) (ha : Ok la ∧ val la = val xs * val fs) (hb : Ok lb ∧ val lb = val es * val ys) (h : RIs True (bval (!t) la) (val lb) g l d) : RatDivIs g1 xs es g2 ys fs g l d := by
  rcases k1 with k1 | ⟨_, rfl, rfl⟩
  · exact low_div_fin k1 k2 ht ha hb h
  · have hz : val lb = 0 := by rw [hb.2]; simp [val]
    rw [hz] at h
    rcases h with ⟨_, ⟨h0, _⟩, _⟩ | ⟨_, z⟩
    · exact absurd rfl h0
    · refine .inr ⟨fun q => ?_, z⟩
      obtain ⟨_, _, _, _, q1, _⟩ := q
      exact q1.1 (by simp [val])
set_option maxHeartbeats 3200000 in
theorem spec_l05DivG (g1 : Bool) (A1 : Option Addr) (n1 c1 : Nat) (xs : List Int) (B1 : Option Addr) (m1 d1 : Nat) (es : List Int) (g2 : Bool) (A2 : Option Addr) (n2 c2 : Nat) (ys : List Int) (B2 : Option Addr) (m2 d2 : Nat) (fs : List Int) (w : World) (h1 : InI w A1 n1 xs) (r1 : Room A1 n1 c1) (k1 : InI w B1 m1 es) (s1 : Room B1 m1 d1) (h2 : InI w A2 n2 ys) (r2 : Room A2 n2 c2) (k2 : InI w B2 m2 fs) (s2 : Room B2 m2 d2)(q1 : GRat g1 xs es) (q2 : ROk g2 ys fs) :
    Calls Tryz.prog 146 #[.agg #[.bool g1, .slice A1 n1 c1, .slice B1 m1 d1], .agg #[.bool g2, .slice A2 n2 c2, .slice B2 m2 d2]] w fun e w' => RatEnd (RatDivIs g1 xs es g2 ys fs) w w' e := by
  have hn1 := h1.2.1
  have hn2 := h2.2.1
  have hm1 := k1.2.1
  have hm2 := k2.2.1
  obtain ⟨W0, hW0⟩ : ∃ W, W = (((w.alloc (.cells #[.bool g1, .slice A1 n1 c1, .slice B1 m1 d1] 30)).alloc (.cells #[.bool g2, .slice A2 n2 c2, .slice B2 m2 d2] 30)).alloc (.cells #[.bool false, .slice none 0 0, .slice none 0 0] 30)) := ⟨_, rfl⟩
  have hy0_0 : Hid (Box W0 (w.heap.size) 30 #[.bool g1, .slice A1 n1 c1, .slice B1 m1 d1]) := by rw [hW0]; exact (((Box.at' (by simp)).alloc _).alloc _)
  have hy1_0 : Hid (Box W0 (w.heap.size + 1) 30 #[.bool g2, .slice A2 n2 c2, .slice B2 m2 d2]) := by rw [hW0]; exact ((Box.at' (by simp)).alloc _)
  have hs_0 : Hid (Box W0 (w.heap.size + 1 + 1) 30 #[.bool false, .slice none 0 0, .slice none 0 0]) := by rw [hW0]; exact (Box.at' (by simp))
  have BW_0 : Hid (Below w.heap.size w W0) := by rw [hW0]; exact ((((Below.refl w.heap.size w).alloc (by simp) _).alloc (by simp) _).alloc (by simp; omega) _)
  have hsz0 : w.heap.size + 1 + 1 + 1 ≤ W0.heap.size := by rw [hW0]; simp
  have HI1 := Lib.hid (h1.below BW_0.out)
  have HI2 := Lib.hid (h2.below BW_0.out)
  have HJ1 := Lib.hid (k1.below BW_0.out)
  have HJ2 := Lib.hid (k2.below BW_0.out)
  have R1 := Lib.hid r1
  have R2 := Lib.hid r2
  have S1 := Lib.hid s1
  have S2 := Lib.hid s2
  clear h1 h2 k1 k2 r1 r2 s1 s2
  go_enter Tryz.func146, Tryz.ntmps146
  go_wp2_with fail
  rw [← hW0]
  clear hW0
  have K1 := Lib.hid q1
  have K2 := Lib.hid q2
  clear q1 q2
  obtain ⟨t, ht⟩ : ∃ t, (g1 == g2) = t := ⟨_, rfl⟩
  have HT : Hid ((g1 != g2) = !t) := by rw [← ht]; rfl
  have hy0_1 := Lib.hid hy0_0.out.drew
  have hy1_1 := Lib.hid hy1_0.out.drew
  have hs_1 := Lib.hid hs_0.out.drew
  have BW_1 := Lib.hid BW_0.out.drew
  replace HI1 := Lib.hid HI1.out.drew
  replace HI2 := Lib.hid HI2.out.drew
  replace HJ1 := Lib.hid HJ1.out.drew
  replace HJ2 := Lib.hid HJ2.out.drew
  have cvhy00 : Hid ((#[.bool g1, .slice A1 n1 c1, .slice B1 m1 d1] : Array Value)[0]? = some (.bool g1)) := rfl
  have cvhy01 : Hid ((#[.bool g1, .slice A1 n1 c1, .slice B1 m1 d1] : Array Value)[1]? = some (.slice A1 n1 c1)) := rfl
  have cvhy02 : Hid ((#[.bool g1, .slice A1 n1 c1, .slice B1 m1 d1] : Array Value)[2]? = some (.slice B1 m1 d1)) := rfl
  have cvhy10 : Hid ((#[.bool g2, .slice A2 n2 c2, .slice B2 m2 d2] : Array Value)[0]? = some (.bool g2)) := rfl
  have cvhy11 : Hid ((#[.bool g2, .slice A2 n2 c2, .slice B2 m2 d2] : Array Value)[1]? = some (.slice A2 n2 c2)) := rfl
  have cvhy12 : Hid ((#[.bool g2, .slice A2 n2 c2, .slice B2 m2 d2] : Array Value)[2]? = some (.slice B2 m2 d2)) := rfl
  go_region_held3 (fun w' => w'.cell? ⟨w.heap.size, 0, none⟩ = some (.bool g1) ∧ w'.cell? ⟨w.heap.size, 1, none⟩ = some (.slice A1 n1 c1) ∧ w'.cell? ⟨w.heap.size, 2, none⟩ = some (.slice B1 m1 d1) ∧ w'.cell? ⟨w.heap.size + 1, 0, none⟩ = some (.bool g2) ∧ w'.cell? ⟨w.heap.size + 1, 1, none⟩ = some (.slice A2 n2 c2) ∧ w'.cell? ⟨w.heap.size + 1, 2, none⟩ = some (.slice B2 m2 d2)) (first | with_reducible exact ⟨cellS hy0_4 cvhy00, cellS hy0_4 cvhy01, cellS hy0_4 cvhy02, cellS hy1_4 cvhy10, cellS hy1_4 cvhy11, cellS hy1_4 cvhy12⟩ | with_reducible exact ⟨cellS (hFar (hFar (hFar hy0_4 (by dsimp only; omega) _) (by dsimp only; omega) _) (by dsimp only; omega) _) cvhy00, cellS (hFar (hFar (hFar hy0_4 (by dsimp only; omega) _) (by dsimp only; omega) _) (by dsimp only; omega) _) cvhy01, cellS (hFar (hFar (hFar hy0_4 (by dsimp only; omega) _) (by dsimp only; omega) _) (by dsimp only; omega) _) cvhy02, cellS (hFar (hFar (hFar hy1_4 (by dsimp only; omega) _) (by dsimp only; omega) _) (by dsimp only; omega) _) cvhy10, cellS (hFar (hFar (hFar hy1_4 (by dsimp only; omega) _) (by dsimp only; omega) _) (by dsimp only; omega) _) cvhy11, cellS (hFar (hFar (hFar hy1_4 (by dsimp only; omega) _) (by dsimp only; omega) _) (by dsimp only; omega) _) cvhy12⟩ | with_reducible exact ⟨cellS hy0_3 cvhy00, cellS hy0_3 cvhy01, cellS hy0_3 cvhy02, cellS hy1_3 cvhy10, cellS hy1_3 cvhy11, cellS hy1_3 cvhy12⟩ | with_reducible exact ⟨cellS hy0_2 cvhy00, cellS hy0_2 cvhy01, cellS hy0_2 cvhy02, cellS hy1_2 cvhy10, cellS hy1_2 cvhy11, cellS hy1_2 cvhy12⟩ | with_reducible exact ⟨cellS hy0_1 cvhy00, cellS hy0_1 cvhy01, cellS hy0_1 cvhy02, cellS hy1_1 cvhy10, cellS hy1_1 cvhy11, cellS hy1_1 cvhy12⟩) (first | (go_at_call 156; refine (spec_low (!t) Aa na ca la Ab nb cb lb _ ⟨HNa.out.symm, (by omega), Reads.of_own HOa.out, limbs_bd HCa.out.1.1.1⟩ (room_own HOa.out) ⟨HNb.out.symm, (by omega), Reads.of_own HOb.out, limbs_bd HCb.out.1.1.1⟩ (room_own HOb.out) HCa.out.1 HCb.out.1).mono ?_; rintro e wz ⟨s, r, v, dd, u, rfl, hq, ⟨hl1, ho1⟩, ⟨hl2, ho2⟩, hap, hb⟩; have HQ := Lib.hid (low_div_finG K1.out K2.out HT.out HCa.out HCb.out hq); have HAP := Lib.hid hap; have hszl := BW_3.out.size; have hy0_4 := Lib.hid (hy0_3.out.below hb hy0_3.out.lt); have hy1_4 := Lib.hid (hy1_3.out.below hb hy1_3.out.lt); have hs_4 := Lib.hid (hs_3.out.below hb hs_3.out.lt); have BW_4 := Lib.hid (BW_3.out.trans (hb.mono BW_3.out.size)); clear hb; clear hq hap; obtain ⟨A9, c9, rfl⟩ := own_slice ho1; obtain ⟨B9, d9, rfl⟩ := own_slice ho2; obtain ⟨N9, hN9⟩ : ∃ N, N = r.length := ⟨_, rfl⟩; obtain ⟨M9, hM9⟩ : ∃ N, N = dd.length := ⟨_, rfl⟩; rw [← hN9] at hl1 ho1 HAP ⊢; rw [← hM9] at hl2 ho2 HAP ⊢; have HN := Lib.hid hN9.symm; have HM := Lib.hid hM9.symm; have HO := Lib.hid ho1; have HU := Lib.hid ho2; clear ho1 ho2 hN9 hM9; have ehs0 := hs_4.out.cell 0; have ehs1 := hs_4.out.cell 1; have ehs2 := hs_4.out.cell 2; have fhs0 := hs_4.out.free 0; have fhs1 := hs_4.out.free 1; have fhs2 := hs_4.out.free 2; simp at ehs0 ehs1 ehs2) | (go_at_call 157; (with_reducible refine (spec_mul B1 m1 d1 es A2 n2 c2 ys _ HJ1.out.canon HI2.out.canon K1.out.dr K2.out.nr).mono ?_); rintro e w3 ⟨lb, Ab, cb, rfl, hcan, hv, hlb, ho, hb⟩; have HCb := Lib.hid (prod_ok hcan hv K1.out.db K2.out.nb); have hy0_3 := Lib.hid (hy0_2.out.below hb hy0_2.out.lt); have hy1_3 := Lib.hid (hy1_2.out.below hb hy1_2.out.lt); have hs_3 := Lib.hid (hs_2.out.below hb hs_2.out.lt); have BW_3 := Lib.hid (BW_2.out.trans (hb.mono BW_2.out.size)); replace HI1 := Lib.hid (HI1.out.below hb); replace HI2 := Lib.hid (HI2.out.below hb); replace HJ1 := Lib.hid (HJ1.out.below hb); replace HJ2 := Lib.hid (HJ2.out.below hb); replace HOa := Lib.hid (own_below HOa.out hb); clear hb; obtain ⟨nb, hN⟩ : ∃ N, N = lb.length := ⟨_, rfl⟩; rw [← hN] at hlb ho ⊢; have HNb := Lib.hid hN; have HOb := Lib.hid ho; have hsb : nb ≤ 60 := (by have := HCb.out.1.2; rwa [← hN] at this); clear hcan hv ho hN) | (go_at_call 157; (with_reducible refine (spec_mul A1 n1 c1 xs B2 m2 d2 fs _ HI1.out.canon HJ2.out.canon K1.out.nr K2.out.dr).mono ?_); rintro e w2 ⟨la, Aa, ca, rfl, hcan, hv, hla, ho, hb⟩; have HCa := Lib.hid (prod_ok hcan hv K1.out.nb K2.out.db); have hy0_2 := Lib.hid (hy0_1.out.below hb hy0_1.out.lt); have hy1_2 := Lib.hid (hy1_1.out.below hb hy1_1.out.lt); have hs_2 := Lib.hid (hs_1.out.below hb hs_1.out.lt); have BW_2 := Lib.hid (BW_1.out.trans (hb.mono BW_1.out.size)); replace HI1 := Lib.hid (HI1.out.below hb); replace HI2 := Lib.hid (HI2.out.below hb); replace HJ1 := Lib.hid (HJ1.out.below hb); replace HJ2 := Lib.hid (HJ2.out.below hb); clear hb; obtain ⟨na, hN⟩ : ∃ N, N = la.length := ⟨_, rfl⟩; rw [← hN] at hla ho ⊢; have HNa := Lib.hid hN; have HOa := Lib.hid ho; have hsa : na ≤ 60 := (by have := HCa.out.1.2; rwa [← hN] at this); clear hcan hv ho hN))
  go_wp2_with fail
  refine bodyPost_ret (v := .agg #[.bool s, .slice A9 N9 c9, .slice B9 M9 d9]) (by simp [results, Tryz.results146, ehs0, ehs1, ehs2, go_sem]) rfl ?_
  exact ratEnd_store hs_4.out (by omega) BW_4.out HQ.out HN.out HM.out (by omega) (by omega) HO.out (by omega) HU.out (by omega) HAP.out
/-- From w to w' the blocks below lo and from hi on are as they were. -/
structure Keeps (lo hi : Nat) (w w' : World) : Prop where
  size : w.heap.size ≤ w'.heap.size
  block : ∀ b, b < w.heap.size → (b < lo ∨ hi ≤ b) → w'.heap[b]? = w.heap[b]?
section
variable {w w' w'' : World} {lo hi : Nat}
theorem Keeps.of_below (h : Below w.heap.size w w') : Keeps lo hi w w' := ⟨h.size, fun b hb _ => h.block b hb⟩
theorem Keeps.refl (lo hi : Nat) (w : World) : Keeps lo hi w w := ⟨Nat.le_refl _, fun _ _ _ => rfl⟩
theorem Keeps.trans (h : Keeps lo hi w w') (k : Keeps lo hi w' w'') : Keeps lo hi w w'' := ⟨Nat.le_trans h.size k.size, fun b hb ho => (k.block b (Nat.lt_of_lt_of_le hb h.size) ho).trans (h.block b hb ho)⟩
theorem Keeps.setCell {g i : Nat} (h : Keeps lo hi w w') (h1 : lo ≤ g) (h2 : g < hi) (u : Value) : Keeps lo hi w (w'.setCell ⟨g, i, none⟩ u) :=
  ⟨by have := h.size; simp; exact this, fun b hb ho => (Below.heap_setCell w' ⟨g, i, none⟩ u b (by dsimp only; omega)).trans (h.block b hb ho)⟩
theorem Keeps.grown {row : Option Nat} (h : Keeps lo hi w w') (hg : w'.grownBy w'' row) (hr : ∀ g, row = some g → lo ≤ g ∧ g < hi) : Keeps lo hi w w'' :=
  ⟨Nat.le_trans h.size hg.size, fun b hb ho => (hg.block b (Nat.lt_of_lt_of_le hb h.size) fun e => by have := hr b e.symm; omega).trans (h.block b hb ho)⟩
end
/-- A list of limbs that lies in no block from lo to hi. -/
def NotIn (lo hi : Nat) (A : Option Addr) (xs : List Int) : Prop := xs = [] ∨ ∃ b o, A = some ⟨b, o, none⟩ ∧ (b < lo ∨ hi ≤ b)
theorem InI.keep {w w' : World} {A : Option Addr} {n lo hi : Nat} {xs : List Int} (h : InI w A n xs) (hf : NotIn lo hi A xs) (hk : Keeps lo hi w w') : InI w' A n xs := by
  refine ⟨h.1, h.2.1, ?_, h.2.2.2⟩
  rcases h.2.2.1 with h0 | ⟨b, o, hA, hlt, hc⟩
  · exact .inl h0
  · rcases hf with rfl | ⟨b', o', hA', hne⟩
    · exact .inl rfl
    · rw [hA] at hA'
      cases hA'
      exact .inr ⟨b, o, hA, Nat.lt_of_lt_of_le hlt hk.size, fun j hj => (World.cell?_of_block (w := w) (a := ⟨b, o + j, none⟩) (hk.block b hlt hne)).trans (hc j hj)⟩
theorem InI.not_old {w : World} {A : Option Addr} {n lo hi : Nat} {xs : List Int} (h : InI w A n xs) (hG : w.heap.size ≤ lo) : NotIn lo hi A xs := by
  rcases h.2.2.1 with h0 | ⟨b, o, hA, hlt, _⟩
  · exact .inl (by simpa using h0)
  · exact .inr ⟨b, o, hA, .inl (by omega)⟩
theorem own_not {w : World} {base lo hi n c : Nat} {A : Option Addr} {xs : List Int} (h : w.ownsRow base 3 1 (.slice A n c) n (xs.map (.int .i64))) (hG : hi ≤ base) : NotIn lo hi A xs := by
  by_cases h0 : n = 0
  · refine .inl ?_
    have := h.1
    rw [h0] at this
    exact List.eq_nil_of_length_eq_zero (by simpa using this)
  · obtain ⟨g, rfl, hg, _⟩ := own_at' h (by omega)
    exact .inr ⟨g, 0, rfl, .inr (by omega)⟩
/-- A variable (block gs) that holds a fraction, whatever memory it shares, but none from lo to hi. -/
structure VarR (w : World) (lo hi gs : Nat) (q : RD) (A : Option Addr) (n c : Nat) (B : Option Addr) (m d : Nat) : Prop where
  box : Box w gs 30 #[.bool q.g, .slice A n c, .slice B m d]
  i : InI w A n q.xs
  ra : Room A n c
  j : InI w B m q.ds
  rb : Room B m d
  fa : NotIn lo hi A q.xs
  fb : NotIn lo hi B q.ds
section
variable {w w' : World} {lo hi gs : Nat} {q : RD} {A : Option Addr} {n c : Nat} {B : Option Addr} {m d : Nat}
theorem VarR.below (h : VarR w lo hi gs q A n c B m d) (hb : Below w.heap.size w w') : VarR w' lo hi gs q A n c B m d := ⟨h.box.below hb h.box.lt, h.i.below hb, h.ra, h.j.below hb, h.rb, h.fa, h.fb⟩
theorem VarR.drew (h : VarR w lo hi gs q A n c B m d) : VarR w.drew lo hi gs q A n c B m d := h.below (Below.refl _ _).drew
theorem VarR.keep (h : VarR w lo hi gs q A n c B m d) (hgs : hi ≤ gs) (hk : Keeps lo hi w w') : VarR w' lo hi gs q A n c B m d :=
  ⟨(hk.block gs h.box.lt (.inr hgs)).trans h.box, h.i.keep h.fa hk, h.ra, h.j.keep h.fb hk, h.rb, h.fa, h.fb⟩
end
/-- A variable is set to a fraction that a call has handed back. -/
theorem var_store {W w : World} {lo hi gs b0 : Nat} {cs : Array Value} {q : RD} {A B : Option Addr} {c d : Nat} (hbx : Box w gs 30 cs) (hcs : cs.size = 3) (h1 : w.ownsRow b0 3 1 (.slice A q.xs.length c) q.xs.length (q.xs.map (.int .i64))) (h2 : w.ownsRow b0 3 1 (.slice B q.ds.length d) q.ds.length (q.ds.map (.int .i64)))
    (hq : q.ok ∨ q = RD.zero) (hG : hi ≤ b0) (hW : Below W.heap.size W w) (hg : W.heap.size ≤ gs) :
    VarR (((w.setCell ⟨gs, 0, none⟩ (.bool q.g)).setCell ⟨gs, 1, none⟩ (.slice A q.xs.length c)).setCell ⟨gs, 2, none⟩ (.slice B q.ds.length d)) lo hi gs q A q.xs.length c B q.ds.length d ∧ Below W.heap.size W (((w.setCell ⟨gs, 0, none⟩ (.bool q.g)).setCell ⟨gs, 1, none⟩ (.slice A q.xs.length c)).setCell ⟨gs, 2, none⟩ (.slice B q.ds.length d)) := by
  have hsh := (RD.gr hq).short
  have h := ((hbx.set_ 0 (.bool q.g)).set_ 1 (.slice A q.xs.length c)).set_ 2 (.slice B q.ds.length d)
  have e : ((cs.setIfInBounds 0 (.bool q.g)).setIfInBounds 1 (.slice A q.xs.length c)).setIfInBounds 2 (.slice B q.ds.length d) = #[.bool q.g, .slice A q.xs.length c, .slice B q.ds.length d] := by
    match cs, hcs with
    | ⟨[_, _, _]⟩, _ => rfl
  rw [e] at h
  exact ⟨⟨h, in_gr hsh.1 (RD.gr hq).nr (own_store3 h1 hbx (by decide) _ _ _), room_own h1, in_gr hsh.2 (RD.gr hq).dr (own_store3 h2 hbx (by decide) _ _ _), room_own h2, own_not h1 hG, own_not h2 hG⟩, below_store3 hW hg _ _ _⟩
/-- The factor that is made (in a variable of its own, lb), the numbers found so far. -/
structure FacSt (n N : Nat) (rs : List RD) (W0 : World) (G cL lb T0 : Nat) (P : Nat → Nat → Bool) (wr : World) (x : Value) (kd : Nat) (L K : List El) : Prop where
  own : OwnV wr W0.heap.size (.slice (some ⟨G, 0, none⟩) N cL) N L
  has : Has L (lowP n rs P)
  dow : OwnV wr T0 x kd K
  dha : Has K ((numF n rs).take kd)
  box : Box wr lb 47 #[.int .i64 n, .int .i64 n, .slice (some ⟨G, 0, none⟩) N cL]
  bel : Below W0.heap.size W0 wr
  glb : G < lb
  lbt : lb < T0
  w0g : W0.heap.size ≤ G
  far : ∀ j, footV (.slice (some ⟨G, 0, none⟩) N cL) L j → ¬ footV x K j
section
variable {n N : Nat} {rs : List RD} {W0 : World} {G cL lb T0 : Nat} {P : Nat → Nat → Bool} {wr w' : World} {x : Value} {kd : Nat} {L K : List El}
theorem FacSt.below (h : FacSt n N rs W0 G cL lb T0 P wr x kd L K) (hb : Below wr.heap.size wr w') : FacSt n N rs W0 G cL lb T0 P w' x kd L K :=
  ⟨h.own.below hb, h.has, h.dow.below hb, h.dha, h.box.below hb h.box.lt, h.bel.trans (hb.mono h.bel.size), h.glb, h.lbt, h.w0g, h.far⟩
theorem FacSt.congr {Q : Nat → Nat → Bool} (h : FacSt n N rs W0 G cL lb T0 P wr x kd L K) (hQ : ∀ r c, r < n → c < r → P r c = Q r c) : FacSt n N rs W0 G cL lb T0 Q wr x kd L K :=
  ⟨h.own, by rw [← lowP_congr hQ]; exact h.has, h.dow, h.dha, h.box, h.bel, h.glb, h.lbt, h.w0g, h.far⟩
/-- An element of the factor is put in: into the list's block alone. -/
theorem FacSt.put {Q : Nat → Nat → Bool} {i k b0 : Nat} {g : Bool} {r ds : List Int} {A B : Option Addr} {c d : Nat} (h : FacSt n N rs W0 G cL lb T0 P wr x kd L K) (hi : i < n) (hk : k < i) (hN : N = n * n)
    (hQ : ∀ r c, r < n → c < r → (Q r c = true ↔ P r c = true ∨ (r = i ∧ c = k)))
    (h1 : wr.ownsRow b0 3 1 (.slice A r.length c) r.length (r.map (.int .i64))) (h2 : wr.ownsRow b0 3 1 (.slice B ds.length d) ds.length (ds.map (.int .i64))) (hap : Apart (.slice B ds.length d) (.slice A r.length c)) (hb0 : ∀ k, footV (.slice (some ⟨G, 0, none⟩) N cL) L k → k < b0) (hb1 : ∀ k, footV x K k → k < b0) (hbb : W0.heap.size ≤ b0) (he : RD.mk g r ds = fL n rs i k) :
    FacSt n N rs W0 G cL lb T0 Q (((wr.setCell ⟨G, (i * n + k) * 3, none⟩ (.bool g)).setCell ⟨G, (i * n + k) * 3 + 1, none⟩ (.slice A r.length c)).setCell ⟨G, (i * n + k) * 3 + 2, none⟩ (.slice B ds.length d)) x kd (L.set (i * n + k) ⟨g, .slice A r.length c, r.length, r.map (.int .i64), .slice B ds.length d, ds.length, ds.map (.int .i64)⟩) K := by
  have hlt : i * n + k < N := by rw [hN]; exact cell_lt hi (by omega)
  have heo : (El.mk g (.slice A r.length c) r.length (r.map (.int .i64)) (.slice B ds.length d) ds.length (ds.map (.int .i64))).own wr b0 := ⟨h1, h2, hap⟩
  have hfar : ∀ y ∈ L, Far y (El.mk g (.slice A r.length c) r.length (r.map (.int .i64)) (.slice B ds.length d) ds.length (ds.map (.int .i64))) := fun y hy j hj hj' => by
    have e1 := hb0 j (.inr ⟨y, hy, hj⟩)
    have e2 := (heo.lt j hj').1
    omega
  have hst := (h.own.store hlt (heo.lower hbb) hfar).1
  refine ⟨hst, ?_, ?_, h.dha, ?_, ?_, h.glb, h.lbt, h.w0g, ?_⟩
  · rw [← lowP_set hi hk hQ, ← he]
    exact h.has.set _ ⟨rfl, rfl, rfl, rfl, rfl⟩
  · refine h.dow.dep fun j hj => ?_
    have := (h.dow.lt j hj).1
    have e := h.glb
    have e' := h.lbt
    rw [Below.heap_setCell _ _ _ j (by dsimp only; omega), Below.heap_setCell _ _ _ j (by dsimp only; omega), Below.heap_setCell _ _ _ j (by dsimp only; omega)]
  · have e := h.glb
    exact ((h.box.far (p := ⟨G, _, none⟩) (by dsimp only; omega) _).far (p := ⟨G, _, none⟩) (by dsimp only; omega) _).far (p := ⟨G, _, none⟩) (by dsimp only; omega) _
  · exact ((h.bel.setCell h.w0g _).setCell h.w0g _).setCell h.w0g _
  · rintro j (hj | ⟨y, hy, hj⟩) hd
    · exact h.far j (.inl hj) hd
    · rcases List.mem_or_eq_of_mem_set hy with hy | rfl
      · exact h.far j (.inr ⟨y, hy, hj⟩) hd
      · have e1 := (heo.lt j hj).1
        have e2 := hb1 j hd
        omega
/-- A number is appended: into the numbers' block, or into a new one. -/
theorem FacSt.app {V' : Value} {e : El} {o : Obj} {w2 : World} {b0 : Nat} (h : FacSt n N rs W0 G cL lb T0 P w2 x kd L K) (hg : (w2.alloc o).grownBy w' x.ownBlock) (hK : OwnV w' T0 V' (kd + 1) (K ++ [e])) (hh : Has (K ++ [e]) ((numF n rs).take (kd + 1))) (hb0 : ∀ k, footV (.slice (some ⟨G, 0, none⟩) N cL) L k → k < b0) (he : ∀ j, e.foot j → b0 ≤ j) : FacSt n N rs W0 G cL lb T0 P w' V' (kd + 1) L (K ++ [e]) := by
  have hbl : ∀ b, b < w2.heap.size → some b ≠ x.ownBlock → w'.heap[b]? = w2.heap[b]? := fun b hb hne => (hg.block b (by simp; omega) hne).trans (Below.heap_alloc w2 o b hb)
  have e1 := h.glb
  have e2 := h.lbt
  have e3 := h.w0g
  have hown : OwnV w' W0.heap.size (.slice (some ⟨G, 0, none⟩) N cL) N L := h.own.dep fun j hj => hbl j (h.own.lt j hj).2 fun e => by
    have hx := (h.dow.lt j (.inl e.symm)).1
    rcases hj with hj | ⟨y, hy, hj⟩
    · have : j = G := by simpa [Value.ownBlock] using hj.symm
      omega
    · exact el_other (h.own.2.2.1 y hy) h.dow.2.1 (by decide) j hj e.symm
  refine ⟨hown, h.has, hK, hh, ?_, ?_, h.glb, h.lbt, h.w0g, ?_⟩
  · exact (hbl lb h.box.lt fun e => by have := (h.dow.lt lb (.inl e.symm)).1; omega).trans h.box
  · refine (h.bel.alloc h.bel.size o).grown hg (by have := h.bel.size; simp; omega) (fun j hj => ?_)
    have := (h.dow.lt j (.inl hj)).1
    omega
  · intro j hj hd
    have hlo := (hK.lt j hd).1
    rcases hj with hj | ⟨y, hy, hj⟩
    · have : j = G := by simpa [Value.ownBlock] using hj.symm
      omega
    · rcases hd with hd | ⟨z, hz, hd⟩
      · exact el_other (hown.2.2.1 y hy) hK.2.1 (by decide) j hj hd
      · rcases List.mem_append.1 hz with hz | hz
        · exact h.far j (.inr ⟨y, hy, hj⟩) (.inr ⟨z, hz, hd⟩)
        · obtain rfl := List.mem_singleton.1 hz
          have a := he j hd
          have b := hb0 j (.inr ⟨y, hy, hj⟩)
          omega
end
end Go.Proofs.YtdehcddjkcpnfaaGreat
namespace Go.Proofs.YtdehcddjkcpnfaaGreat
set_option maxRecDepth 100000
open Go.RowKit

def FacEnd (n N : Nat) (rs : List RD) (w w' : World) (e : Ending) : Prop :=
  (FacOk n rs ∧ ∃ G c L x K b2, e = .returned (.tuple #[.agg #[.int .i64 n, .int .i64 n, .slice (some ⟨G, 0, none⟩) N c], x, .bool true]) ∧ OwnV w' w.heap.size (.slice (some ⟨G, 0, none⟩) N c) N L ∧ Has L (lowF n rs) ∧ OwnV w' b2 x n K ∧ Has K (numF n rs) ∧ w.heap.size ≤ b2 ∧ (∀ j, footV (.slice (some ⟨G, 0, none⟩) N c) L j → ¬ footV x K j) ∧ Below w.heap.size w w') ∨
  (¬ FacOk n rs ∧ e = .returned (.tuple #[.agg #[.int .i64 0, .int .i64 0, .slice none 0 0], .slice none 0 0, .bool false]) ∧ Below w.heap.size w w')
section
variable {n N : Nat} {rs : List RD} {W0 : World} {G cL lb T0 : Nat} {P : Nat → Nat → Bool} {wr : World} {x : Value} {kd : Nat} {L K : List El}
theorem FacSt.at_ {i k : Nat} (h : FacSt n N rs W0 G cL lb T0 P wr x kd L K) (hi : i < n) (hk : k < i) (hP : P i k = true) {fl : RD} (hf : fl = fL n rs i k) :
    ∃ A c' B d, At3 wr G ((i * n + k) * 3) (.bool fl.g) (.slice A fl.xs.length c') (.slice B fl.ds.length d) ∧ InI wr A fl.xs.length fl.xs ∧ Room A fl.xs.length c' ∧ InI wr B fl.ds.length fl.ds ∧ Room B fl.ds.length d := by
  subst hf
  have hc : (lowP n rs P)[i * n + k]? = some (fL n rs i k) := by rw [cell_at (lowP_length n rs P) hi (by omega), cell_lowP hi hk hP]
  obtain ⟨A, c', B, d, _, ho, hat⟩ := h.own.elr h.has hc
  have gr := RD.gr (fL_good n rs i k)
  exact ⟨A, c', B, d, hat, in_gr gr.short.1 gr.nr ho.1, room_own ho.1, in_gr gr.short.2 gr.dr ho.2.1, room_own ho.2.1⟩
theorem FacSt.dat {j : Nat} (h : FacSt n N rs W0 G cL lb T0 P wr x kd L K) (hj : j < kd) (hn : kd ≤ n) (hpos : ∀ t, t < kd → (fD n rs t).pos) {fd : RD} (hf : fd = fD n rs j) :
    ∃ Gd cd A c' B d, x = .slice (some ⟨Gd, 0, none⟩) kd cd ∧ Gd < wr.heap.size ∧ At3 wr Gd (j * 3) (.bool fd.g) (.slice A fd.xs.length c') (.slice B fd.ds.length d) ∧ InI wr A fd.xs.length fd.xs ∧ Room A fd.xs.length c' ∧ InI wr B fd.ds.length fd.ds ∧ Room B fd.ds.length d := by
  subst hf
  have hd := h.dow
  obtain ⟨A0, cd, rfl⟩ := hd.slice
  obtain ⟨Gd, rfl, _, hlt⟩ := own_at' hd.2.1 (by omega)
  have hc : ((numF n rs).take kd)[j]? = some (fD n rs j) := by
    rw [List.getElem?_take, if_pos hj]
    simp [numF, show j < n by omega]
  obtain ⟨A, c', B, d, _, ho, hat⟩ := hd.elr h.dha hc
  have gr := RD.gr (r := fD n rs j) (.inl (hpos j hj).1)
  exact ⟨Gd, cd, A, c', B, d, rfl, hlt, hat, in_gr gr.short.1 gr.nr ho.1, room_own ho.1, in_gr gr.short.2 gr.dr ho.2.1, room_own ho.2.1⟩
end
theorem FacSt.xblk {n N : Nat} {rs : List RD} {W0 : World} {G cL lb T0 : Nat} {P : Nat → Nat → Bool} {wr : World} {x : Value} {kd : Nat} {L K : List El} (h : FacSt n N rs W0 G cL lb T0 P wr x kd L K) : ∀ g, x.ownBlock = some g → W0.heap.size ≤ g ∧ g < wr.heap.size := fun g hg => by
  have h1 := h.dow.lt g (.inl hg)
  have h2 := h.glb
  have h3 := h.lbt
  have h4 := h.w0g
  omega
theorem lowP_ok {n : Nat} {rs : List RD} {P : Nat → Nat → Bool} (h : FacOk n rs) : ∀ x ∈ lowP n rs P, x.ok := by
  refine mk_all.2 fun r c hr hc => ?_
  by_cases e : c < r ∧ P r c = true
  · rw [if_pos e]; exact h.row hr e.1
  · rw [if_neg e]
    by_cases e2 : r = c
    · rw [if_pos e2]; exact R1_ok
    · rw [if_neg e2]; exact R0_ok
theorem fac_no {n k : Nat} {rs : List RD} (hk : k < n) (h : ¬ (fD n rs k).pos) : ¬ FacOk n rs := fun q => h (q k hk)
set_option maxHeartbeats 12800000 in
theorem spec_l08Factor1 (n N : Nat) (A : Option Addr) (c : Nat) (rs : List RD) (w : World) (h : InV w A N rs) (hN : N = n * n) (hn : n ≤ 24) (h0 : 0 < n) (hok : ∀ r ∈ rs, r.ok) :
    Calls Tryz.prog 78 #[.agg #[.int .i64 n, .int .i64 n, .slice A N c]] w fun e w' => FacEnd n N rs w w' e := by
  obtain ⟨i0, hi, hz0, hz1, hz2⟩ := info_parts Tryz.infoR
  have hm := mul_le_576 hn hn
  have hNp : 0 < N := by rw [hN]; exact Nat.mul_pos h0 h0
  have hrl : rs.length = n * n := by rw [← hN]; exact h.1
  obtain ⟨W0, hW0⟩ : ∃ W, W = ((w.alloc (.cells #[.int .i64 n, .int .i64 n, .slice A N c] 47)).alloc (.cells #[.int .i64 0, .int .i64 0, .slice none 0 0] 47)) := ⟨_, rfl⟩
  have hm0_0 : Hid (Box W0 (w.heap.size) 47 #[.int .i64 n, .int .i64 n, .slice A N c]) := by rw [hW0]; exact ((Box.at' (by simp)).alloc _)
  have ht_0 : Hid (Box W0 (w.heap.size + 1) 47 #[.int .i64 0, .int .i64 0, .slice none 0 0]) := by rw [hW0]; exact (Box.at' (by simp))
  have BW_0 : Hid (Below w.heap.size w W0) := by rw [hW0]; exact (((Below.refl w.heap.size w).alloc (by simp) _).alloc (by simp) _)
  have hsz0 : w.heap.size + 1 + 1 ≤ W0.heap.size := by rw [hW0]; simp
  have HV := Lib.hid (h.below BW_0.out)
  have HOKS := Lib.hid hok
  have HN := Lib.hid hN
  rw [← hN] at hm
  clear h hok hN
  go_enter Tryz.func78, Tryz.ntmps78
  go_wp2_with fail
  rw [← hW0]
  clear hW0
  refine (spec_l06Identity n _ hn).mono ?_
  rintro e w1 hh0
  unfold HoldMEnd at hh0
  rw [← HN.out] at hh0
  obtain ⟨AL, cL, L0, rfl, ho, hh, hb⟩ := hh0
  obtain ⟨G, rfl, hG0, hG1⟩ := own_at' ho.2.1 hNp
  obtain ⟨W3, hW3⟩ : ∃ W, W = (w1.alloc (.cells #[.int .i64 n, .int .i64 n, .slice (some ⟨G, 0, none⟩) N cL] 47)).alloc (.cells #[] 30) := ⟨_, rfl⟩
  have hb3 : Below w1.heap.size w1 W3 := by rw [hW3]; exact ((Below.refl _ _).alloc (Nat.le_refl _) _).alloc (by simp) _
  have HST : Hid (FacSt n N rs W0 G cL w1.heap.size (w1.heap.size + 1) (fun _ c => decide (c < 0)) W3 (.slice (some ⟨w1.heap.size + 1, 0, none⟩) 0 0) 0 L0 []) := by
    refine ⟨ho.below hb3, ?_, ?_, by simp [Has], by rw [hW3]; exact (Box.new _ _ _).alloc _, hb.trans (hb3.mono hb.size), hG1, Nat.lt_succ_self _, hG0, ?_⟩
    · rw [show lowP n rs (fun _ c => decide (c < 0)) = ident n from (lowP_congr (fun r c _ _ => by simp)).trans (lowP_ident n rs)]; exact hh
    · refine ⟨rfl, ?_, by simp, by simp⟩
      have e := World.ownsRow_lit (w1.alloc (.cells #[.int .i64 n, .int .i64 n, .slice (some ⟨G, 0, none⟩) N cL] 47)) (e := 30) (size := 3) #[] 0 (Nat.le_refl _) (by simp) (by simp)
      rw [hW3]
      simpa [flat] using e
    · intro j hj hd
      have e1 := (ho.lt j hj).2
      rcases hd with hd | ⟨z, hz, _⟩
      · simp [Value.ownBlock] at hd; omega
      · simp at hz
  clear ho hh hb hb3
  go_wp2_with fail
  rw [← hW3]
  clear hW3
  go_loopw [7, 8] (fun x y wq => ∃ (k : Nat) (L K : List El), k ≤ n ∧ y = .int .i64 k ∧ Hid (FacSt n N rs W0 G cL w1.heap.size (w1.heap.size + 1) (fun _ c => decide (c < k)) wq x k L K) ∧ Hid (∀ t, t < k → (fD n rs t).pos)) (fun _ y _ => n - (intOf y).toNat)
  case atStart => exact ⟨0, _, _, Nat.zero_le _, rfl, HST.out, fun t ht => absurd ht (Nat.not_lt_zero t)⟩
  case round =>
    obtain ⟨k, L, K, hle, rfl, HF, HP⟩ := hrel
    have HVr := Lib.hid (HV.out.below HF.out.bel)
    have hm0_r := Lib.hid (hm0_0.out.below HF.out.bel hm0_0.out.lt)
    by_cases hlt : k < n
    · have hii : (k : Int) < (n : Int) := by omega
      obtain ⟨t, ht⟩ : ∃ t, t = k * n + k := ⟨_, rfl⟩
      have htN : t < N := by rw [ht, HN.out]; exact cell_lt hlt hlt
      obtain ⟨bA, oA, rfl, hbA, r, hr, A1, n1, c1, B1, m1, d1, hat, i1, ra, j1, rb⟩ := HV.out.at_ t htN
      have hrc : r = cell n rs k k := by
        have e := cell_at hrl hlt hlt
        rw [← ht, hr] at e
        exact Option.some.inj e
      have HRC := Lib.hid hrc
      have HT := Lib.hid ht
      have HATR := Lib.hid (hat.below hbA HF.out.bel)
      have HXR : Hid ((InI wr A1 n1 r.xs ∧ Room A1 n1 c1 ∧ InI wr B1 m1 r.ds ∧ Room B1 m1 d1) ∧ NotIn W0.heap.size wr.heap.size A1 r.xs ∧ NotIn W0.heap.size wr.heap.size B1 r.ds) := ⟨⟨i1.below HF.out.bel, ra, j1.below HF.out.bel, rb⟩, i1.not_old (Nat.le_refl _), j1.not_old (Nat.le_refl _)⟩
      have hn1 := i1.2.1
      have hm1 := j1.2.1
      have hbr : bA < wr.heap.size := Nat.lt_of_lt_of_le hbA HF.out.bel.size
      clear ht hrc hr hat i1 ra j1 rb
      have ehm00 := hm0_r.out.cell 0
      have ehm01 := hm0_r.out.cell 1
      have ehm02 := hm0_r.out.cell 2
      simp at ehm00 ehm01 ehm02
      go_wp2_with fail
      clear ehm00 ehm01 ehm02
      refine (spec_l06AtC n n k k t bA oA N c r.g A1 n1 c1 B1 m1 d1 _ HT.out.symm htN (by omega) HATR.out hn1 hm1 hbr (by omega) hn).mono ?_
      rintro e w4 ⟨rfl, hb4⟩
      have HF4 := Lib.hid (HF.out.below hb4)
      have hs4 := hb4.size
      obtain ⟨W5, hW5⟩ : ∃ W, W = w4.alloc (.cells #[.bool r.g, .slice A1 n1 c1, .slice B1 m1 d1] 30) := ⟨_, rfl⟩
      have hb5 : Below w4.heap.size w4 W5 := by rw [hW5]; exact (Below.refl _ _).alloc (Nat.le_refl _) _
      have HB5 := Lib.hid hb5
      have hbw := hb4.trans (hb5.mono hb4.size)
      have HX5 : Hid (VarR W5 W0.heap.size wr.heap.size w4.heap.size r A1 n1 c1 B1 m1 d1) := ⟨by rw [hW5]; exact Box.new _ _ _, HXR.out.1.1.below hbw, HXR.out.1.2.1, HXR.out.1.2.2.1.below hbw, HXR.out.1.2.2.2, HXR.out.2.1, HXR.out.2.2⟩
      obtain ⟨sz, hsz⟩ : ∃ s, s = wr.heap.size := ⟨_, rfl⟩
      rw [← hsz] at HX5
      have HF0 := HF
      have HXB := Lib.hid HF.out.xblk
      rw [← hsz] at HXB
      clear hb4 hb5 hbw HATR HXR
      go_wp2_with fail
      rw [← hW5]
      clear hW5
      go_loopw [10] (fun z wq => ∃ (j : Nat) (q : RD) (Aq : Option Addr) (nq cq : Nat) (Bq : Option Addr) (mq dq : Nat), j ≤ k ∧ z = .int .i64 j ∧ Hid (VarR wq W0.heap.size sz w4.heap.size q Aq nq cq Bq mq dq) ∧ Hid (q = restF (cell n rs k k) (fL n rs k) (fL n rs k) (fD n rs) j) ∧ Hid (Below w4.heap.size w4 wq)) (fun z _ => k - (intOf z).toNat)
      case atStart => exact ⟨0, r, _, _, _, _, _, _, Nat.zero_le _, rfl, HX5, HRC, HB5⟩
      case round =>
        obtain ⟨j, q, Aq, nq, cq, Bq, mq, dq, hjk, rfl, HX, HQ, HB⟩ := hrel
        have HFq := Lib.hid (HF4.out.below HB.out)
        by_cases hjl : j < k
        · have hij : (j : Int) < (k : Int) := by omega
          obtain ⟨fl, hfl⟩ : ∃ f, f = fL n rs k j := ⟨_, rfl⟩
          obtain ⟨fd, hfd⟩ : ∃ f, f = fD n rs j := ⟨_, rfl⟩
          have GY : Hid (GRat fl.g fl.xs fl.ds) := RD.gr (by rw [hfl]; exact fL_good n rs k j)
          have GD : Hid (GRat fd.g fd.xs fd.ds) := RD.gr (.inl (by rw [hfd]; exact (HP.out j hjl).1))
          obtain ⟨Ay, cy, By, dy, haty, iy, ry, jy, rzy⟩ := HFq.out.at_ hlt hjl (by simpa using hjl) hfl
          obtain ⟨Gd, cd, Ad, cd', Bd, dd', rfl, hGd, hatd, idd, ra, jd, rb⟩ := HFq.out.dat hjl (by omega) HP.out hfd
          obtain ⟨t2, ht2⟩ : ∃ t, t = k * n + j := ⟨_, rfl⟩
          have htN2 : t2 < N := by rw [ht2, HN.out]; exact cell_lt hlt (by omega)
          have HATY : Hid (At3 wr G (0 + t2 * 3) (.bool fl.g) (.slice Ay fl.xs.length cy) (.slice By fl.ds.length dy)) := by rw [Nat.zero_add, ht2]; exact haty
          have HATD : Hid (At3 wr Gd (j * 3) (.bool fd.g) (.slice Ad fd.xs.length cd') (.slice Bd fd.ds.length dd')) := hatd
          have IY := Lib.hid iy
          have JY := Lib.hid jy
          have ID := Lib.hid idd
          have JD := Lib.hid jd
          have RY : Hid (Room Ay fl.xs.length cy) := ry
          have RZ : Hid (Room By fl.ds.length dy) := rzy
          have RA : Hid (Room Ad fd.xs.length cd') := ra
          have RB : Hid (Room Bd fd.ds.length dd') := rb
          have hy1 := iy.2.1
          have hy2 := jy.2.1
          have hd1 := idd.2.1
          have hd2 := jd.2.1
          have HT2 := Lib.hid ht2
          have HFL := Lib.hid hfl
          have HFD := Lib.hid hfd
          have hm1_q := Lib.hid HFq.out.box
          have hGw : G < wr.heap.size := Nat.lt_trans HFq.out.glb HFq.out.box.lt
          clear ht2 hfl hfd haty hatd iy jy idd jd ry rzy ra rb
          have ehm10 := hm1_q.out.cell 0
          have ehm11 := hm1_q.out.cell 1
          have ehm12 := hm1_q.out.cell 2
          simp at ehm10 ehm11 ehm12
          go_wp2_with fail
          clear ehm10 ehm11 ehm12
          refine (spec_l06AtC n n k j t2 G 0 N cL fl.g Ay fl.xs.length cy By fl.ds.length dy _ HT2.out.symm htN2 (by omega) HATY.out hy1 hy2 hGw (by omega) hn).mono ?_
          rintro e w5 ⟨rfl, hb5⟩
          have hs5 := hb5.size
          obtain ⟨W6, hW6⟩ : ∃ W, W = w5.alloc (.cells #[.bool fl.g, .slice Ay fl.xs.length cy, .slice By fl.ds.length dy] 30) := ⟨_, rfl⟩
          have hb6 : Below w5.heap.size w5 W6 := by rw [hW6]; exact (Below.refl _ _).alloc (Nat.le_refl _) _
          have hbw := hb5.trans (hb6.mono hb5.size)
          have hy6 : Box W6 w5.heap.size 30 #[.bool fl.g, .slice Ay fl.xs.length cy, .slice By fl.ds.length dy] := by rw [hW6]; exact Box.new _ _ _
          have CC : Hid (AtL W6.drew [(⟨w4.heap.size, 0, none⟩, .bool q.g), (⟨w4.heap.size, 1, none⟩, .slice Aq nq cq), (⟨w4.heap.size, 2, none⟩, .slice Bq mq dq), (⟨w5.heap.size, 0, none⟩, .bool fl.g), (⟨w5.heap.size, 1, none⟩, .slice Ay fl.xs.length cy), (⟨w5.heap.size, 2, none⟩, .slice By fl.ds.length dy), (⟨Gd, j * 3, none⟩, .bool fd.g), (⟨Gd, j * 3 + 1, none⟩, .slice Ad fd.xs.length cd'), (⟨Gd, j * 3 + 2, none⟩, .slice Bd fd.ds.length dd')]) :=
            AtL.drew (AtL.append (HX.out.below hbw).box.atL3 (AtL.append hy6.atL3 (at3L (HATD.out.below hGd hbw) (Nat.lt_of_lt_of_le hGd hbw.size))))
          replace HX := Lib.hid (HX.out.below hbw).drew
          replace IY := Lib.hid (IY.out.below hbw).drew
          replace JY := Lib.hid (JY.out.below hbw).drew
          replace ID := Lib.hid (ID.out.below hbw).drew
          replace JD := Lib.hid (JD.out.below hbw).drew
          have BB_5 := Lib.hid (HB.out.trans (hbw.mono HB.out.size)).drew
          have HSX : Hid (restF (cell n rs k k) (fL n rs k) (fL n rs k) (fD n rs) (j + 1) = rsub q (rmul (rmul fl fl) fd)) := by
            rw [HQ.out, HFL.out, HFD.out]; rfl
          have HCG : Hid ((cell n rs k k).ok ∨ cell n rs k k = RD.zero) := .inl (HOKS.out _ (cell_mem hrl hlt hlt))
          have GQ : Hid (GRat q.g q.xs q.ds) := RD.gr (by rw [HQ.out]; exact restF_good HCG.out _)
          have hnq := HX.out.i.2.1
          have hmq := HX.out.j.2.1
          have hj0 : (0 : Int) ≤ (j : Int) := by omega
          have HSZ : Hid (sz ≤ w4.heap.size) := by rw [hsz]; exact hs4
          clear hb5 hb6 hbw hy6 HATY HATD HFL HFD HT2 htN2
          go_wp2_with fail
          rw [← hW6]
          clear hW6
          refine wp_region_last (S := (fun w' => w'.cell? ⟨w4.heap.size, 0, none⟩ = some (.bool q.g) ∧ w'.cell? ⟨w4.heap.size, 1, none⟩ = some (.slice Aq nq cq) ∧ w'.cell? ⟨w4.heap.size, 2, none⟩ = some (.slice Bq mq dq) ∧ w'.cell? ⟨w5.heap.size, 0, none⟩ = some (.bool fl.g) ∧ w'.cell? ⟨w5.heap.size, 1, none⟩ = some (.slice Ay fl.xs.length cy) ∧ w'.cell? ⟨w5.heap.size, 2, none⟩ = some (.slice By fl.ds.length dy) ∧ w'.cell? ⟨Gd, j * 3, none⟩ = some (.bool fd.g) ∧ w'.cell? ⟨Gd, j * 3 + 1, none⟩ = some (.slice Ad fd.xs.length cd') ∧ w'.cell? ⟨Gd, j * 3 + 2, none⟩ = some (.slice Bd fd.ds.length dd'))) 10 (by kernel_rfl) ?_ (fun hHeld => ?_)
          · (try dsimp only); (first | with_reducible exact atL9 CC)
          refine wpAnyL_go (i := 0) (d := some 38) (v := ?_) (y := 9) [0] (by rfl) (by kernel_rfl) (fun _ _ _ h => h) (by assumption) ?_ ?_
          rotate_left 1
          · (intro oS hoS wS hSw; obtain rfl := Option.some.inj hoS; (try dsimp only at hSw); go_simp; try with_reducible rfl)
          (try simp only [Act.put, List.setIfInBounds_toArray])
          refine wpAnyL_go (i := 1) (d := some 39) (v := ?_) (y := 9) [8, 3, 1] (by rfl) (by kernel_rfl) (fun _ _ _ h => h) (by assumption) ?_ ?_
          rotate_left 1
          · (intro oS hoS wS hSw; obtain rfl := Option.some.inj hoS; (try dsimp only at hSw); go_simp; try with_reducible rfl)
          (try simp only [Act.put, List.setIfInBounds_toArray])
          refine wpAnyL_go (i := 2) (d := some 40) (v := ?_) (y := 9) [8, 3, 2] (by rfl) (by kernel_rfl) (fun _ _ _ h => h) (by assumption) ?_ ?_
          rotate_left 1
          · (intro oS hoS wS hSw; obtain rfl := Option.some.inj hoS; (try dsimp only at hSw); go_simp; try with_reducible rfl)
          (try simp only [Act.put, List.setIfInBounds_toArray])
          refine wpAnyL_go (i := 4) (d := some 42) (v := ?_) (y := 9) [8, 7, 6, 4] (by rfl) (by kernel_rfl) (fun _ _ _ h => h) (by assumption) ?_ ?_
          rotate_left 1
          · (intro oS hoS wS hSw; obtain rfl := Option.some.inj hoS; (try dsimp only at hSw); go_simp; try with_reducible rfl)
          (try simp only [Act.put, List.setIfInBounds_toArray])
          refine wpAnyL_go (i := 5) (d := some 43) (v := ?_) (y := 9) [8, 7, 6, 5] (by rfl) (by kernel_rfl) (fun _ _ _ h => h) (by assumption) ?_ ?_
          rotate_left 1
          · (intro oS hoS wS hSw; obtain rfl := Option.some.inj hoS; (try dsimp only at hSw); go_simp; try with_reducible rfl)
          (try simp only [Act.put, List.setIfInBounds_toArray])
          refine wpAnyL_go (i := 6) (d := some 44) (v := ?_) (y := 9) [8, 7, 6] (by rfl) (by kernel_rfl) (fun _ _ _ h => h) (by assumption) ?_ ?_
          rotate_left 1
          · (intro oS hoS wS hSw; obtain rfl := Option.some.inj hoS; (try dsimp only at hSw); go_simp; try with_reducible rfl)
          (try simp only [Act.put, List.setIfInBounds_toArray])
          refine wpAnyL_go (i := 7) (d := some 45) (v := ?_) (y := 9) [8, 7] (by rfl) (by kernel_rfl) (fun _ _ _ h => h) (by assumption) ?_ ?_
          rotate_left 1
          · (intro oS hoS wS hSw; obtain rfl := Option.some.inj hoS; (try dsimp only at hSw); go_simp; try with_reducible rfl)
          (try simp only [Act.put, List.setIfInBounds_toArray])
          refine wpAnyL_one 3 (by kernel_rfl) (by decide) rfl (fun KK hK => ?_)
          go_simp
          (go_at_call 143; (with_reducible refine (spec_l04MulG fl.g Ay fl.xs.length cy fl.xs By fl.ds.length dy fl.ds fl.g Ay fl.xs.length cy fl.xs By fl.ds.length dy fl.ds _ IY.out RY.out JY.out RZ.out IY.out RY.out JY.out RZ.out GY.out GY.out).mono ?_); rintro e w6 ⟨gz6, rz6, vz6, dz6, uz6, rfl, hq6, q1, q2, hap6, hb6⟩; obtain ⟨Az6, cz6, rfl⟩ := own_slice q1.2; obtain ⟨Bz6, ez6, rfl⟩ := own_slice q2.2; have HQ6 : Hid (RD.mk gz6 rz6 dz6 = rmul fl fl) := rmul_of (r := fl) (s := fl) hq6; have HO6 := Lib.hid q1.2; have HU6 := Lib.hid q2.2; have HAP6 := Lib.hid hap6; have HGD6 : Hid ((RD.mk gz6 rz6 dz6).ok ∨ RD.mk gz6 rz6 dz6 = RD.zero) := (by rw [HQ6.out]; exact rmul_good _ _); have G6 : Hid (GRat gz6 rz6 dz6) := RD.gr HGD6.out; have hl6 : rz6.length ≤ 24 := G6.out.short.1; have hm6 : dz6.length ≤ 24 := G6.out.short.2; have BB_6 := Lib.hid (BB_5.out.trans (hb6.mono BB_5.out.size)); replace CC := Lib.hid (CC.out.below hb6); replace HX := Lib.hid (HX.out.below hb6); replace IY := Lib.hid (IY.out.below hb6); replace JY := Lib.hid (JY.out.below hb6); replace ID := Lib.hid (ID.out.below hb6); replace JD := Lib.hid (JD.out.below hb6); clear hq6 q1 q2 hap6 hb6)
          (try go_wp2_with fail)
          refine hK.out _ _ ?_ (fun hHeld => ?_)
          · (try dsimp only); (first | with_reducible exact atL9 CC)
          clear hK KK
          (try simp only [Act.put, List.setIfInBounds_toArray])
          refine wpAnyL_one 8 (by kernel_rfl) (by decide) rfl (fun KK hK => ?_)
          go_simp
          (go_at_call 143; (with_reducible refine (spec_l04MulG gz6 Az6 rz6.length cz6 rz6 Bz6 dz6.length ez6 dz6 fd.g Ad fd.xs.length cd' fd.xs Bd fd.ds.length dd' fd.ds _ (in_gr hl6 G6.out.nr HO6.out) (room_own HO6.out) (in_gr hm6 G6.out.dr HU6.out) (room_own HU6.out) ID.out RA.out JD.out RB.out G6.out GD.out).mono ?_); rintro e w7 ⟨gz7, rz7, vz7, dz7, uz7, rfl, hq7, q1, q2, hap7, hb7⟩; obtain ⟨Az7, cz7, rfl⟩ := own_slice q1.2; obtain ⟨Bz7, ez7, rfl⟩ := own_slice q2.2; have HQ7 : Hid (RD.mk gz7 rz7 dz7 = rmul (rmul fl fl) fd) := (rmul_of (r := ⟨gz6, rz6, dz6⟩) (s := fd) hq7).trans (by rw [HQ6.out]); have HO7 := Lib.hid q1.2; have HU7 := Lib.hid q2.2; have HAP7 := Lib.hid hap7; have HGD7 : Hid ((RD.mk gz7 rz7 dz7).ok ∨ RD.mk gz7 rz7 dz7 = RD.zero) := (by rw [HQ7.out]; exact rmul_good _ _); have G7 : Hid (GRat gz7 rz7 dz7) := RD.gr HGD7.out; have hl7 : rz7.length ≤ 24 := G7.out.short.1; have hm7 : dz7.length ≤ 24 := G7.out.short.2; have BB_7 := Lib.hid (BB_6.out.trans (hb7.mono BB_6.out.size)); replace CC := Lib.hid (CC.out.below hb7); replace HX := Lib.hid (HX.out.below hb7); replace IY := Lib.hid (IY.out.below hb7); replace JY := Lib.hid (JY.out.below hb7); replace ID := Lib.hid (ID.out.below hb7); replace JD := Lib.hid (JD.out.below hb7); clear hq7 q1 q2 hap7 hb7)
          (try go_wp2_with fail)
          refine hK.out _ _ ?_ (fun hHeld => ?_)
          · (try dsimp only); (first | with_reducible exact atL9 CC)
          clear hK KK
          (try simp only [Act.put, List.setIfInBounds_toArray])
          refine wpAnyL_one 9 (by kernel_rfl) (by decide) rfl (fun KK hK => ?_)
          go_simp
          (go_at_call 142; (with_reducible refine (spec_l05SubG q.g Aq nq cq q.xs Bq mq dq q.ds gz7 Az7 rz7.length cz7 rz7 Bz7 dz7.length ez7 dz7 _ HX.out.i HX.out.ra HX.out.j HX.out.rb (in_gr hl7 G7.out.nr HO7.out) (room_own HO7.out) (in_gr hm7 G7.out.dr HU7.out) (room_own HU7.out) GQ.out G7.out).mono ?_); rintro e w8 ⟨gz8, rz8, vz8, dz8, uz8, rfl, hq8, q1, q2, hap8, hb8⟩; obtain ⟨Az8, cz8, rfl⟩ := own_slice q1.2; obtain ⟨Bz8, ez8, rfl⟩ := own_slice q2.2; have HQ8 : Hid (RD.mk gz8 rz8 dz8 = restF (cell n rs k k) (fL n rs k) (fL n rs k) (fD n rs) (j + 1)) := ((rsub_of (r := q) (s := ⟨gz7, rz7, dz7⟩) hq8).trans (by rw [HQ7.out])).trans HSX.out.symm; have HO8 := Lib.hid q1.2; have HU8 := Lib.hid q2.2; have HAP8 := Lib.hid hap8; have HGD8 : Hid ((RD.mk gz8 rz8 dz8).ok ∨ RD.mk gz8 rz8 dz8 = RD.zero) := (by rw [HQ8.out]; exact restF_good HCG.out _); have G8 : Hid (GRat gz8 rz8 dz8) := RD.gr HGD8.out; have hl8 : rz8.length ≤ 24 := G8.out.short.1; have hm8 : dz8.length ≤ 24 := G8.out.short.2; have BB_8 := Lib.hid (BB_7.out.trans (hb8.mono BB_7.out.size)); replace CC := Lib.hid (CC.out.below hb8); replace HX := Lib.hid (HX.out.below hb8); replace IY := Lib.hid (IY.out.below hb8); replace JY := Lib.hid (JY.out.below hb8); replace ID := Lib.hid (ID.out.below hb8); replace JD := Lib.hid (JD.out.below hb8); clear hq8 q1 q2 hap8 hb8; have hst := var_store (W := w4) (lo := W0.heap.size) (hi := sz) (q := ⟨gz8, rz8, dz8⟩) HX.out.box rfl HO8.out HU8.out HGD8.out (show sz ≤ w7.heap.size by have := BB_7.out.size; have := HSZ.out; omega) BB_8.out (Nat.le_refl _); have HS9 := Lib.hid hst.1; have HB9 := Lib.hid hst.2; have fc0 := HX.out.box.cell 0; have fc1 := HX.out.box.cell 1; have fc2 := HX.out.box.cell 2; have fs0 := HX.out.box.free 0; have fs1 := HX.out.box.free 1; have fs2 := HX.out.box.free 2; simp at fc0 fc1 fc2 fs0 fs1 fs2; clear hst)
          (try go_wp2_with fail)
          refine hK.out _ _ ?_ (fun hHeld => ?_)
          · (try dsimp only); (first | with_reducible exact atL9 CC)
          clear hK KK
          (try simp only [Act.put, List.setIfInBounds_toArray])
          refine wpAnyL_last (by kernel_rfl) rfl (fun KK hK => ?_)
          go_simp
          refine hK.out _ _ ?_
          clear hK KK
          (try simp only [Act.put, List.setIfInBounds_toArray])
          refine wpAnyL_done (by kernel_rfl) ?_ _
          all_goals
            clear fc0 fc1 fc2 fs0 fs1 fs2
            go_wp2_with fail
            go_roundw
            case rel => exact ⟨j + 1, ⟨gz8, rz8, dz8⟩, _, _, _, _, _, _, by omega, by go_num, HS9.out, HQ8.out, HB9.out⟩
            case measure => simp [intOf]; omega
        · obtain rfl : k = j := by omega
          have HCG : Hid ((cell n rs k k).ok ∨ cell n rs k k = RD.zero) := .inl (HOKS.out _ (cell_mem hrl hlt hlt))
          have HGQ : Hid (q.ok ∨ q = RD.zero) := by rw [HQ.out]; exact restF_good HCG.out _
          have HQD : Hid (q = fD n rs k) := by rw [fD_eq]; exact HQ.out
          have hnq := HX.out.i.2.1
          have hmq := HX.out.j.2.1
          have ex0 := HX.out.box.cell 0
          have ex1 := HX.out.box.cell 1
          have ex2 := HX.out.box.cell 2
          simp at ex0 ex1 ex2
          go_wp2_with fail
          clear ex0 ex1 ex2
          refine (spec_l05Bad q.g Aq nq cq Bq mq dq q.ds _ HX.out.j.1 hmq).mono ?_
          rintro e w5 ⟨b5, rfl, hq5, hb5⟩
          have hx5 := Lib.hid (HX.out.below hb5)
          have HF5 := Lib.hid (HFq.out.below hb5)
          have B5 := Lib.hid (HB.out.trans (hb5.mono HB.out.size))
          have ht_5 := Lib.hid (ht_0.out.below HF5.out.bel ht_0.out.lt)
          have BW_5 := Lib.hid (BW_0.out.trans (HF5.out.bel.mono BW_0.out.size))
          have ex0 := hx5.out.box.cell 0
          have ex1 := hx5.out.box.cell 1
          have ex2 := hx5.out.box.cell 2
          simp at ex0 ex1 ex2
          have eht0 := ht_5.out.cell 0
          have eht1 := ht_5.out.cell 1
          have eht2 := ht_5.out.cell 2
          have fht0 := ht_5.out.free 0
          have fht1 := ht_5.out.free 1
          have fht2 := ht_5.out.free 2
          simp at eht0 eht1 eht2
          cases b5
          case true =>
            have HZ : Hid (¬ FacOk n rs) := fac_no hlt (fun h => (good_nil HGQ.out).1 (hq5.1 rfl) (by rw [HQD.out]; exact h.1))
            clear hq5 hb5
            go_wp2_with fail
            refine bodyPost_ret (v := .tuple #[.agg #[.int .i64 0, .int .i64 0, .slice none 0 0], .slice none 0 0, .bool false]) (by simp [results, Tryz.results78, eht0, eht1, eht2, go_sem]) rfl ?_
            exact .inr ⟨HZ.out, rfl, below_store3 BW_5.out (by omega) _ _ _⟩
          have HQK : Hid q.ok := by
            rcases HGQ.out with h | h
            · exact h
            · have h2 := hq5.2 (by rw [h]; rfl)
              cases h2
          clear hq5 hb5
          cases hqg : q.g
          case true =>
            have HZ : Hid (¬ FacOk n rs) := fac_no hlt (fun h => by have h2 := h.2.1; rw [← HQD.out, hqg] at h2; cases h2)
            rw [hqg] at ex0
            clear hqg
            go_wp2_with fail
            refine bodyPost_ret (v := .tuple #[.agg #[.int .i64 0, .int .i64 0, .slice none 0 0], .slice none 0 0, .bool false]) (by simp [results, Tryz.results78, eht0, eht1, eht2, go_sem]) rfl ?_
            exact .inr ⟨HZ.out, rfl, below_store3 BW_5.out (by omega) _ _ _⟩
          have HQG := Lib.hid hqg
          rw [hqg] at ex0
          clear hqg
          clear eht0 fht0 eht1 fht1 eht2 fht2
          go_wp2_with fail
          clear ex0 ex1 ex2
          refine (spec_l05Nil false Aq nq cq q.xs Bq mq dq _ hx5.out.i.1 hnq).mono ?_
          rintro e w6 ⟨b6, rfl, hq6, hb6⟩
          have hx6 := Lib.hid (hx5.out.below hb6)
          have HF6 := Lib.hid (HF5.out.below hb6)
          have B6 := Lib.hid (B5.out.trans (hb6.mono B5.out.size))
          have ht_6 := Lib.hid (ht_5.out.below hb6 ht_5.out.lt)
          have BW_6 := Lib.hid (BW_5.out.trans (hb6.mono BW_5.out.size))
          cases b6
          case true =>
            have HZ : Hid (¬ FacOk n rs) := fac_no hlt (fun h => h.2.2 (by rw [← HQD.out]; exact hq6.1 rfl))
            clear hq6 hb6
            have eht0 := ht_6.out.cell 0
            have eht1 := ht_6.out.cell 1
            have eht2 := ht_6.out.cell 2
            have fht0 := ht_6.out.free 0
            have fht1 := ht_6.out.free 1
            have fht2 := ht_6.out.free 2
            simp at eht0 eht1 eht2
            go_wp2_with fail
            refine bodyPost_ret (v := .tuple #[.agg #[.int .i64 0, .int .i64 0, .slice none 0 0], .slice none 0 0, .bool false]) (by simp [results, Tryz.results78, eht0, eht1, eht2, go_sem]) rfl ?_
            exact .inr ⟨HZ.out, rfl, below_store3 BW_6.out (by omega) _ _ _⟩
          have HPO : Hid (fD n rs k).pos := by
            rw [← HQD.out]
            exact ⟨HQK.out, HQG.out, fun h => by have h2 := hq6.2 h; cases h2⟩
          clear hq6 hb6 ht_5 BW_5 ht_6 BW_6 hx5 HF5 B5 HFq HX HB
          have ex0 := hx6.out.box.cell 0
          have ex1 := hx6.out.box.cell 1
          have ex2 := hx6.out.box.cell 2
          simp at ex0 ex1 ex2
          go_wp2_with fail
          clear ex0 ex1 ex2
          refine (spec_l04Copy q.g Aq nq cq q.xs Bq mq dq q.ds _ hx6.out.i hx6.out.ra hx6.out.j hx6.out.rb (by have := HQK.out.2.2.2.2.1; omega) (by have := HQK.out.2.2.2.2.2; omega)).mono ?_
          rintro e w7 ⟨g7, r7, v7, d7, u7', rfl, hq7, q1, q2, hap, hb7⟩
          obtain ⟨k1, k2, k3⟩ := hq7
          obtain ⟨A7, c7, rfl⟩ := own_slice q1.2
          obtain ⟨B7, e7, rfl⟩ := own_slice q2.2
          have hT6 : w1.heap.size + 1 ≤ w6.heap.size := HF6.out.box.lt
          have hs7 := hb7.size
          have HE0 : Hid ((El.mk g7 (.slice A7 r7.length c7) r7.length (r7.map (.int .i64)) (.slice B7 d7.length e7) d7.length (d7.map (.int .i64))).own w7 w6.heap.size) := ⟨q1.2, q2.2, hap⟩
          have HE := Lib.hid (HE0.out.lower hT6)
          have HFR := Lib.hid (HF6.out.dow.far_new HE0.out (Nat.le_refl _))
          have HF7 := Lib.hid (HF6.out.below hb7)
          have HO7 := Lib.hid HF7.out.dow
          have hx7 := Lib.hid (hx6.out.below hb7)
          have B7' := Lib.hid (B6.out.trans (hb7.mono B6.out.size))
          have HH := Lib.hid (has_append (g := g7) (r := r7) (d := d7) (v := .slice A7 r7.length c7) (u := .slice B7 d7.length e7) HF7.out.dha (by rw [k1, k2, k3, HQD.out]; simp [numF, hlt]))
          have HB6 : Hid (∀ t, footV (.slice (some ⟨G, 0, none⟩) N cL) L t → t < w6.heap.size) := fun t ht => (HF6.out.own.lt t ht).2
          clear q1 q2 hap k1 k2 k3 hb7 B6 HF6 hx6
          go_wp2_with (at_builtin; refine wpList_append_el rfl _ _ 26 rfl (w1.heap.size + 1) i0 (.agg #[.bool false, .slice none 0 0, .slice none 0 0]) 56 Tryz.underlying26 hi hz0 hz1 hz2 rfl _ k K rfl HO7.out ⟨g7, .slice A7 r7.length c7, r7.length, r7.map (.int .i64), .slice B7 d7.length e7, d7.length, d7.map (.int .i64)⟩ rfl HE.out HFR.out rfl rfl (by unfold maxLen; omega) (by omega) (by omega) _ ?_)
          intro V' w8 s1 hg
          have HF8 := Lib.hid (HF7.out.app hg s1 HH.out HB6.out fun j hj => (HE0.out.lt j hj).1)
          have HKP : Hid (Keeps W0.heap.size sz w7 w8) := (Keeps.of_below ((Below.refl w7.heap.size w7).alloc (Nat.le_refl _) _)).grown hg HXB.out
          have hx8 := Lib.hid (hx7.out.keep (by rw [hsz]; exact hs4) HKP.out)
          obtain ⟨A8, c8, rfl⟩ := s1.slice
          have HF8' : Hid (FacSt n N rs W0 G cL w1.heap.size (w1.heap.size + 1) (fun r c => decide (c < k ∨ (c = k ∧ r < k + 1))) w8 (.slice A8 (k + 1) c8) (k + 1) L _) := HF8.out.congr (fun r c hr hc => by simp only [decide_eq_decide]; omega)
          clear s1 hg HF8 HF7 HO7 hx7 HE HE0 HFR HH HB6 HKP
          go_wp2_with fail
          go_loopw [12] (fun z wq => ∃ (i : Nat) (L3 K3 : List El), k + 1 ≤ i ∧ i ≤ n ∧ z = .int .i64 i ∧ Hid (FacSt n N rs W0 G cL w1.heap.size (w1.heap.size + 1) (fun r c => decide (c < k ∨ (c = k ∧ r < i))) wq (.slice A8 (k + 1) c8) (k + 1) L3 K3) ∧ Hid (VarR wq W0.heap.size sz w4.heap.size q Aq nq cq Bq mq dq)) (fun z _ => n - (intOf z).toNat)
          case atStart => exact ⟨k + 1, L, _, Nat.le_refl _, hlt, by go_num, HF8', hx8⟩
          case round =>
            obtain ⟨i, L3, K3, hki, hin, rfl, HF9, HX9⟩ := hrel
            by_cases hil : i < n
            · have hini : (i : Int) < (n : Int) := by omega
              obtain ⟨t3, ht3⟩ : ∃ t, t = i * n + k := ⟨_, rfl⟩
              have htN3 : t3 < N := by rw [ht3, HN.out]; exact cell_lt hil hlt
              obtain ⟨b2, o2, hAA, hb2, r2, hr2, A2, n2, c2, B2, m2, d2, hat2, i2, ra2, j2, rb2⟩ := HV.out.at_ t3 htN3
              cases hAA
              have hrc2 : r2 = cell n rs i k := by
                have e := cell_at hrl hil hlt
                rw [← ht3, hr2] at e
                exact Option.some.inj e
              have HRC2 := Lib.hid hrc2
              have HT3 := Lib.hid ht3
              have HATR2 := Lib.hid (hat2.below hbA HF9.out.bel)
              have HXR2 : Hid ((InI wr A2 n2 r2.xs ∧ Room A2 n2 c2 ∧ InI wr B2 m2 r2.ds ∧ Room B2 m2 d2) ∧ NotIn W0.heap.size sz A2 r2.xs ∧ NotIn W0.heap.size sz B2 r2.ds) := ⟨⟨i2.below HF9.out.bel, ra2, j2.below HF9.out.bel, rb2⟩, i2.not_old (Nat.le_refl _), j2.not_old (Nat.le_refl _)⟩
              have hn2 := i2.2.1
              have hm2 := j2.2.1
              have hbr2 : bA < wr.heap.size := Nat.lt_of_lt_of_le hbA HF9.out.bel.size
              have hm0_y := Lib.hid (hm0_0.out.below HF9.out.bel hm0_0.out.lt)
              clear ht3 hrc2 hr2 hat2 i2 ra2 j2 rb2
              have ehm00 := hm0_y.out.cell 0
              have ehm01 := hm0_y.out.cell 1
              have ehm02 := hm0_y.out.cell 2
              simp at ehm00 ehm01 ehm02
              go_wp2_with fail
              clear ehm00 ehm01 ehm02
              refine (spec_l06AtC n n i k t3 bA oA N c r2.g A2 n2 c2 B2 m2 d2 _ HT3.out.symm htN3 (by omega) HATR2.out hn2 hm2 hbr2 (by omega) hn).mono ?_
              rintro e w10 ⟨rfl, hb10⟩
              have HF10 := Lib.hid (HF9.out.below hb10)
              have HX10 := Lib.hid (HX9.out.below hb10)
              have hs10 := hb10.size
              obtain ⟨W11, hW11⟩ : ∃ W, W = w10.alloc (.cells #[.bool r2.g, .slice A2 n2 c2, .slice B2 m2 d2] 30) := ⟨_, rfl⟩
              have hb11 : Below w10.heap.size w10 W11 := by rw [hW11]; exact (Below.refl _ _).alloc (Nat.le_refl _) _
              have HB11 := Lib.hid hb11
              have hbw := hb10.trans (hb11.mono hb10.size)
              have HY11 : Hid (VarR W11 W0.heap.size sz w10.heap.size r2 A2 n2 c2 B2 m2 d2) := ⟨by rw [hW11]; exact Box.new _ _ _, HXR2.out.1.1.below hbw, HXR2.out.1.2.1, HXR2.out.1.2.2.1.below hbw, HXR2.out.1.2.2.2, HXR2.out.2.1, HXR2.out.2.2⟩
              clear hb10 hb11 hbw HATR2 HXR2
              go_wp2_with fail
              rw [← hW11]
              clear hW11
              have HP1 : Hid (∀ t, t < k + 1 → (fD n rs t).pos) := fun t ht => by
                by_cases e : t = k
                · subst e; exact HPO.out
                · exact HP.out t (by omega)
              go_loopw [14] (fun z wq => ∃ (j : Nat) (p : RD) (Ap : Option Addr) (np cp : Nat) (Bp : Option Addr) (mp dp : Nat), j ≤ k ∧ z = .int .i64 j ∧ Hid (VarR wq W0.heap.size sz w10.heap.size p Ap np cp Bp mp dp) ∧ Hid (p = restF (cell n rs i k) (fL n rs i) (fL n rs k) (fD n rs) j) ∧ Hid (Below w10.heap.size w10 wq)) (fun z _ => k - (intOf z).toNat)
              case atStart => exact ⟨0, r2, _, _, _, _, _, _, Nat.zero_le _, rfl, HY11, HRC2, HB11⟩
              case round =>
                obtain ⟨j, p, Ap, np, cp, Bp, mp, dp, hjk, rfl, HY, HPQ, HB⟩ := hrel
                have HFq := Lib.hid (HF10.out.below HB.out)
                have HCI : Hid ((cell n rs i k).ok ∨ cell n rs i k = RD.zero) := .inl (HOKS.out _ (cell_mem hrl hil hlt))
                have GP : Hid (GRat p.g p.xs p.ds) := RD.gr (by rw [HPQ.out]; exact restF_good HCI.out _)
                by_cases hjl : j < k
                · have hij : (j : Int) < (k : Int) := by omega
                  have hjk1 : (j : Int) < (k : Int) + 1 := by omega
                  obtain ⟨fl, hfl⟩ : ∃ f, f = fL n rs i j := ⟨_, rfl⟩
                  obtain ⟨fk, hfk⟩ : ∃ f, f = fL n rs k j := ⟨_, rfl⟩
                  obtain ⟨fd, hfd⟩ : ∃ f, f = fD n rs j := ⟨_, rfl⟩
                  have GL : Hid (GRat fl.g fl.xs fl.ds) := RD.gr (by rw [hfl]; exact fL_good n rs i j)
                  have GK : Hid (GRat fk.g fk.xs fk.ds) := RD.gr (by rw [hfk]; exact fL_good n rs k j)
                  have GD : Hid (GRat fd.g fd.xs fd.ds) := RD.gr (.inl (by rw [hfd]; exact (HP.out j hjl).1))
                  obtain ⟨Ay, cy, By, dy, haty, iy, ry, jy, rzy⟩ := HFq.out.at_ hil (show j < i by omega) (decide_eq_true (Or.inl hjl)) hfl
                  obtain ⟨Ak, ck, Bk, dk, hatk, ik, rk, jk, rzk⟩ := HFq.out.at_ hlt hjl (decide_eq_true (Or.inl hjl)) hfk
                  obtain ⟨Gd, cd, Ad, cd', Bd, dd', hcd, hGd, hatd, idd, ra, jd, rb⟩ := HFq.out.dat (show j < k + 1 by omega) (by omega) HP1.out hfd
                  cases hcd
                  obtain ⟨t4, ht4⟩ : ∃ t, t = i * n + j := ⟨_, rfl⟩
                  obtain ⟨t5, ht5⟩ : ∃ t, t = k * n + j := ⟨_, rfl⟩
                  have htN_t4 : t4 < N := by rw [ht4, HN.out]; exact cell_lt hil (by omega)
                  have htN_t5 : t5 < N := by rw [ht5, HN.out]; exact cell_lt hlt (by omega)
                  have HT_t4 := Lib.hid ht4
                  have HT_t5 := Lib.hid ht5
                  have HA1 : Hid (At3 wr.drew G (0 + t4 * 3) (.bool fl.g) (.slice Ay fl.xs.length cy) (.slice By fl.ds.length dy)) := by rw [Nat.zero_add, ht4]; exact haty
                  have HA2 : Hid (At3 wr.drew G (0 + t5 * 3) (.bool fk.g) (.slice Ak fk.xs.length ck) (.slice Bk fk.ds.length dk)) := by rw [Nat.zero_add, ht5]; exact hatk
                  have HGL : Hid (G < wr.drew.heap.size) := Nat.lt_trans HFq.out.glb HFq.out.box.lt
                  have IY : Hid (InI wr.drew _ _ _) := iy
                  have JY : Hid (InI wr.drew _ _ _) := jy
                  have IK : Hid (InI wr.drew _ _ _) := ik
                  have JK : Hid (InI wr.drew _ _ _) := jk
                  have ID : Hid (InI wr.drew _ _ _) := idd
                  have JD : Hid (InI wr.drew _ _ _) := jd
                  have RY : Hid (Room Ay fl.xs.length cy) := ry
                  have RZ : Hid (Room By fl.ds.length dy) := rzy
                  have RK : Hid (Room Ak fk.xs.length ck) := rk
                  have RKZ : Hid (Room Bk fk.ds.length dk) := rzk
                  have RA : Hid (Room Ad fd.xs.length cd') := ra
                  have RB : Hid (Room Bd fd.ds.length dd') := rb
                  have hy1 := iy.2.1
                  have hy2 := jy.2.1
                  have hk1 := ik.2.1
                  have hk2 := jk.2.1
                  have hd1 := idd.2.1
                  have hd2 := jd.2.1
                  have hN20 : N ≤ 1048576 := by omega
                  have hi24_t4 : i ≤ 24 := by omega
                  have hi24_t5 : k ≤ 24 := by omega
                  have HSX : Hid (restF (cell n rs i k) (fL n rs i) (fL n rs k) (fD n rs) (j + 1) = rsub p (rmul (rmul fl fk) fd)) := by
                    rw [HPQ.out, hfl, hfk, hfd]; rfl
                  have CC : Hid (AtL wr.drew [(⟨w10.heap.size, 0, none⟩, .bool p.g), (⟨w10.heap.size, 1, none⟩, .slice Ap np cp), (⟨w10.heap.size, 2, none⟩, .slice Bp mp dp), (⟨w1.heap.size, 0, none⟩, .int .i64 n), (⟨w1.heap.size, 1, none⟩, .int .i64 n), (⟨w1.heap.size, 2, none⟩, .slice (some ⟨G, 0, none⟩) N cL), (⟨Gd, j * 3, none⟩, .bool fd.g), (⟨Gd, j * 3 + 1, none⟩, .slice Ad fd.xs.length cd'), (⟨Gd, j * 3 + 2, none⟩, .slice Bd fd.ds.length dd')]) :=
                    AtL.drew (AtL.append HY.out.box.atL3 (AtL.append HFq.out.box.atL3 (at3L hatd hGd)))
                  replace HY := Lib.hid HY.out.drew
                  have BB_5 : Hid (Below w10.heap.size w10 wr.drew) := Lib.hid HB.out.drew
                  have hnp := HY.out.i.2.1
                  have hmp := HY.out.j.2.1
                  have hj0 : (0 : Int) ≤ (j : Int) := by omega
                  have HSZ : Hid (sz ≤ w10.heap.size) := by rw [hsz]; exact Nat.le_trans hs4 (Nat.le_of_lt HX10.out.box.lt)
                  clear ht4 ht5 hfl hfk hfd haty hatk hatd iy jy ik jk idd jd ry rzy rk rzk ra rb hGd
                  go_wp2_with fail
                  refine wp_region_last (S := (fun w' => w'.cell? ⟨w10.heap.size, 0, none⟩ = some (.bool p.g) ∧ w'.cell? ⟨w10.heap.size, 1, none⟩ = some (.slice Ap np cp) ∧ w'.cell? ⟨w10.heap.size, 2, none⟩ = some (.slice Bp mp dp) ∧ w'.cell? ⟨w1.heap.size, 0, none⟩ = some (.int .i64 n) ∧ w'.cell? ⟨w1.heap.size, 1, none⟩ = some (.int .i64 n) ∧ w'.cell? ⟨w1.heap.size, 2, none⟩ = some (.slice (some ⟨G, 0, none⟩) N cL) ∧ w'.cell? ⟨Gd, j * 3, none⟩ = some (.bool fd.g) ∧ w'.cell? ⟨Gd, j * 3 + 1, none⟩ = some (.slice Ad fd.xs.length cd') ∧ w'.cell? ⟨Gd, j * 3 + 2, none⟩ = some (.slice Bd fd.ds.length dd'))) 16 (by kernel_rfl) ?_ (fun hHeld => ?_)
                  · (try dsimp only); (first | with_reducible exact atL9 CC)
                  refine wpAnyL_go (i := 0) (d := some 81) (v := ?_) (y := 15) [0] (by rfl) (by kernel_rfl) (fun _ _ _ h => h) (by assumption) ?_ ?_
                  rotate_left 1
                  · (intro oS hoS wS hSw; obtain rfl := Option.some.inj hoS; (try dsimp only at hSw); go_simp; try with_reducible rfl)
                  (try simp only [Act.put, List.setIfInBounds_toArray])
                  refine wpAnyL_go (i := 1) (d := some 82) (v := ?_) (y := 15) [14, 9, 4, 1] (by rfl) (by kernel_rfl) (fun _ _ _ h => h) (by assumption) ?_ ?_
                  rotate_left 1
                  · (intro oS hoS wS hSw; obtain rfl := Option.some.inj hoS; (try dsimp only at hSw); go_simp; try with_reducible rfl)
                  (try simp only [Act.put, List.setIfInBounds_toArray])
                  refine wpAnyL_go (i := 2) (d := some 83) (v := ?_) (y := 15) [14, 9, 4, 2] (by rfl) (by kernel_rfl) (fun _ _ _ h => h) (by assumption) ?_ ?_
                  rotate_left 1
                  · (intro oS hoS wS hSw; obtain rfl := Option.some.inj hoS; (try dsimp only at hSw); go_simp; try with_reducible rfl)
                  (try simp only [Act.put, List.setIfInBounds_toArray])
                  refine wpAnyL_go (i := 3) (d := some 84) (v := ?_) (y := 15) [14, 9, 4, 3] (by rfl) (by kernel_rfl) (fun _ _ _ h => h) (by assumption) ?_ ?_
                  rotate_left 1
                  · (intro oS hoS wS hSw; obtain rfl := Option.some.inj hoS; (try dsimp only at hSw); go_simp; try with_reducible rfl)
                  (try simp only [Act.put, List.setIfInBounds_toArray])
                  refine wpAnyL_go (i := 5) (d := some 86) (v := ?_) (y := 15) [14, 9, 8, 5] (by rfl) (by kernel_rfl) (fun _ _ _ h => h) (by assumption) ?_ ?_
                  rotate_left 1
                  · (intro oS hoS wS hSw; obtain rfl := Option.some.inj hoS; (try dsimp only at hSw); go_simp; try with_reducible rfl)
                  (try simp only [Act.put, List.setIfInBounds_toArray])
                  refine wpAnyL_go (i := 6) (d := some 87) (v := ?_) (y := 15) [14, 9, 8, 6] (by rfl) (by kernel_rfl) (fun _ _ _ h => h) (by assumption) ?_ ?_
                  rotate_left 1
                  · (intro oS hoS wS hSw; obtain rfl := Option.some.inj hoS; (try dsimp only at hSw); go_simp; try with_reducible rfl)
                  (try simp only [Act.put, List.setIfInBounds_toArray])
                  refine wpAnyL_go (i := 7) (d := some 88) (v := ?_) (y := 15) [14, 9, 8, 7] (by rfl) (by kernel_rfl) (fun _ _ _ h => h) (by assumption) ?_ ?_
                  rotate_left 1
                  · (intro oS hoS wS hSw; obtain rfl := Option.some.inj hoS; (try dsimp only at hSw); go_simp; try with_reducible rfl)
                  (try simp only [Act.put, List.setIfInBounds_toArray])
                  refine wpAnyL_go (i := 10) (d := some 91) (v := ?_) (y := 15) [14, 13, 12, 10] (by rfl) (by kernel_rfl) (fun _ _ _ h => h) (by assumption) ?_ ?_
                  rotate_left 1
                  · (intro oS hoS wS hSw; obtain rfl := Option.some.inj hoS; (try dsimp only at hSw); go_simp; try with_reducible rfl)
                  (try simp only [Act.put, List.setIfInBounds_toArray])
                  refine wpAnyL_go (i := 11) (d := some 92) (v := ?_) (y := 15) [14, 13, 12, 11] (by rfl) (by kernel_rfl) (fun _ _ _ h => h) (by assumption) ?_ ?_
                  rotate_left 1
                  · (intro oS hoS wS hSw; obtain rfl := Option.some.inj hoS; (try dsimp only at hSw); go_simp; try with_reducible rfl)
                  (try simp only [Act.put, List.setIfInBounds_toArray])
                  refine wpAnyL_go (i := 12) (d := some 93) (v := ?_) (y := 15) [14, 13, 12] (by rfl) (by kernel_rfl) (fun _ _ _ h => h) (by assumption) ?_ ?_
                  rotate_left 1
                  · (intro oS hoS wS hSw; obtain rfl := Option.some.inj hoS; (try dsimp only at hSw); go_simp; try with_reducible rfl)
                  (try simp only [Act.put, List.setIfInBounds_toArray])
                  refine wpAnyL_go (i := 13) (d := some 94) (v := ?_) (y := 15) [14, 13] (by rfl) (by kernel_rfl) (fun _ _ _ h => h) (by assumption) ?_ ?_
                  rotate_left 1
                  · (intro oS hoS wS hSw; obtain rfl := Option.some.inj hoS; (try dsimp only at hSw); go_simp; try with_reducible rfl)
                  (try simp only [Act.put, List.setIfInBounds_toArray])
                  refine wpAnyL_one 4 (by kernel_rfl) (by decide) rfl (fun KK hK => ?_)
                  go_simp
                  (go_at_call 141; (with_reducible refine (spec_l06AtC n n i j t4 G 0 N cL fl.g Ay fl.xs.length cy By fl.ds.length dy _ HT_t4.out.symm htN_t4 hN20 HA1.out hy1 hy2 HGL.out hi24_t4 hn).mono ?_); rintro e wc ⟨rfl, hbc⟩; replace HA1 := Lib.hid (HA1.out.below HGL.out hbc); replace HA2 := Lib.hid (HA2.out.below HGL.out hbc); replace HGL := Lib.hid (Nat.lt_of_lt_of_le HGL.out hbc.size); replace BB_5 := Lib.hid (BB_5.out.trans (hbc.mono BB_5.out.size)); replace CC := Lib.hid (CC.out.below hbc); replace HY := Lib.hid (HY.out.below hbc); replace IY := Lib.hid (IY.out.below hbc); replace JY := Lib.hid (JY.out.below hbc); replace IK := Lib.hid (IK.out.below hbc); replace JK := Lib.hid (JK.out.below hbc); replace ID := Lib.hid (ID.out.below hbc); replace JD := Lib.hid (JD.out.below hbc); clear hbc)
                  (try go_wp2_with fail)
                  refine hK.out _ _ ?_ (fun hHeld => ?_)
                  · (try dsimp only); (first | with_reducible exact atL9 CC)
                  clear hK KK
                  (try simp only [Act.put, List.setIfInBounds_toArray])
                  refine wpAnyL_one 8 (by kernel_rfl) (by decide) rfl (fun KK hK => ?_)
                  go_simp
                  (go_at_call 141; (with_reducible refine (spec_l06AtC n n k j t5 G 0 N cL fk.g Ak fk.xs.length ck Bk fk.ds.length dk _ HT_t5.out.symm htN_t5 hN20 HA2.out hk1 hk2 HGL.out hi24_t5 hn).mono ?_); rintro e wc ⟨rfl, hbc⟩; replace HA1 := Lib.hid (HA1.out.below HGL.out hbc); replace HA2 := Lib.hid (HA2.out.below HGL.out hbc); replace HGL := Lib.hid (Nat.lt_of_lt_of_le HGL.out hbc.size); replace BB_5 := Lib.hid (BB_5.out.trans (hbc.mono BB_5.out.size)); replace CC := Lib.hid (CC.out.below hbc); replace HY := Lib.hid (HY.out.below hbc); replace IY := Lib.hid (IY.out.below hbc); replace JY := Lib.hid (JY.out.below hbc); replace IK := Lib.hid (IK.out.below hbc); replace JK := Lib.hid (JK.out.below hbc); replace ID := Lib.hid (ID.out.below hbc); replace JD := Lib.hid (JD.out.below hbc); clear hbc)
                  (try go_wp2_with fail)
                  refine hK.out _ _ ?_ (fun hHeld => ?_)
                  · (try dsimp only); (first | with_reducible exact atL9 CC)
                  clear hK KK
                  (try simp only [Act.put, List.setIfInBounds_toArray])
                  refine wpAnyL_one 9 (by kernel_rfl) (by decide) rfl (fun KK hK => ?_)
                  go_simp
                  (go_at_call 143; (with_reducible refine (spec_l04MulG fl.g Ay fl.xs.length cy fl.xs By fl.ds.length dy fl.ds fk.g Ak fk.xs.length ck fk.xs Bk fk.ds.length dk fk.ds _ IY.out RY.out JY.out RZ.out IK.out RK.out JK.out RKZ.out GL.out GK.out).mono ?_); rintro e w6 ⟨gz6, rz6, vz6, dz6, uz6, rfl, hq6, q1, q2, hap6, hb6⟩; obtain ⟨Az6, cz6, rfl⟩ := own_slice q1.2; obtain ⟨Bz6, ez6, rfl⟩ := own_slice q2.2; have HQ6 : Hid (RD.mk gz6 rz6 dz6 = rmul fl fk) := rmul_of (r := fl) (s := fk) hq6; have HO6 := Lib.hid q1.2; have HU6 := Lib.hid q2.2; have HAP6 := Lib.hid hap6; have HGD6 : Hid ((RD.mk gz6 rz6 dz6).ok ∨ RD.mk gz6 rz6 dz6 = RD.zero) := (by rw [HQ6.out]; exact rmul_good _ _); have G6 : Hid (GRat gz6 rz6 dz6) := RD.gr HGD6.out; have hl6 : rz6.length ≤ 24 := G6.out.short.1; have hm6 : dz6.length ≤ 24 := G6.out.short.2; have BB_6 := Lib.hid (BB_5.out.trans (hb6.mono BB_5.out.size)); replace CC := Lib.hid (CC.out.below hb6); replace HY := Lib.hid (HY.out.below hb6); replace IY := Lib.hid (IY.out.below hb6); replace JY := Lib.hid (JY.out.below hb6); replace IK := Lib.hid (IK.out.below hb6); replace JK := Lib.hid (JK.out.below hb6); replace ID := Lib.hid (ID.out.below hb6); replace JD := Lib.hid (JD.out.below hb6); clear hq6 q1 q2 hap6 hb6)
                  (try go_wp2_with fail)
                  refine hK.out _ _ ?_ (fun hHeld => ?_)
                  · (try dsimp only); (first | with_reducible exact atL9 CC)
                  clear hK KK
                  (try simp only [Act.put, List.setIfInBounds_toArray])
                  refine wpAnyL_one 14 (by kernel_rfl) (by decide) rfl (fun KK hK => ?_)
                  go_simp
                  (go_at_call 143; (with_reducible refine (spec_l04MulG gz6 Az6 rz6.length cz6 rz6 Bz6 dz6.length ez6 dz6 fd.g Ad fd.xs.length cd' fd.xs Bd fd.ds.length dd' fd.ds _ (in_gr hl6 G6.out.nr HO6.out) (room_own HO6.out) (in_gr hm6 G6.out.dr HU6.out) (room_own HU6.out) ID.out RA.out JD.out RB.out G6.out GD.out).mono ?_); rintro e w7 ⟨gz7, rz7, vz7, dz7, uz7, rfl, hq7, q1, q2, hap7, hb7⟩; obtain ⟨Az7, cz7, rfl⟩ := own_slice q1.2; obtain ⟨Bz7, ez7, rfl⟩ := own_slice q2.2; have HQ7 : Hid (RD.mk gz7 rz7 dz7 = rmul (rmul fl fk) fd) := (rmul_of (r := ⟨gz6, rz6, dz6⟩) (s := fd) hq7).trans (by rw [HQ6.out]); have HO7 := Lib.hid q1.2; have HU7 := Lib.hid q2.2; have HAP7 := Lib.hid hap7; have HGD7 : Hid ((RD.mk gz7 rz7 dz7).ok ∨ RD.mk gz7 rz7 dz7 = RD.zero) := (by rw [HQ7.out]; exact rmul_good _ _); have G7 : Hid (GRat gz7 rz7 dz7) := RD.gr HGD7.out; have hl7 : rz7.length ≤ 24 := G7.out.short.1; have hm7 : dz7.length ≤ 24 := G7.out.short.2; have BB_7 := Lib.hid (BB_6.out.trans (hb7.mono BB_6.out.size)); replace CC := Lib.hid (CC.out.below hb7); replace HY := Lib.hid (HY.out.below hb7); replace IY := Lib.hid (IY.out.below hb7); replace JY := Lib.hid (JY.out.below hb7); replace IK := Lib.hid (IK.out.below hb7); replace JK := Lib.hid (JK.out.below hb7); replace ID := Lib.hid (ID.out.below hb7); replace JD := Lib.hid (JD.out.below hb7); clear hq7 q1 q2 hap7 hb7)
                  (try go_wp2_with fail)
                  refine hK.out _ _ ?_ (fun hHeld => ?_)
                  · (try dsimp only); (first | with_reducible exact atL9 CC)
                  clear hK KK
                  (try simp only [Act.put, List.setIfInBounds_toArray])
                  refine wpAnyL_one 15 (by kernel_rfl) (by decide) rfl (fun KK hK => ?_)
                  go_simp
                  (go_at_call 142; (with_reducible refine (spec_l05SubG p.g Ap np cp p.xs Bp mp dp p.ds gz7 Az7 rz7.length cz7 rz7 Bz7 dz7.length ez7 dz7 _ HY.out.i HY.out.ra HY.out.j HY.out.rb (in_gr hl7 G7.out.nr HO7.out) (room_own HO7.out) (in_gr hm7 G7.out.dr HU7.out) (room_own HU7.out) GP.out G7.out).mono ?_); rintro e w8 ⟨gz8, rz8, vz8, dz8, uz8, rfl, hq8, q1, q2, hap8, hb8⟩; obtain ⟨Az8, cz8, rfl⟩ := own_slice q1.2; obtain ⟨Bz8, ez8, rfl⟩ := own_slice q2.2; have HQ8 : Hid (RD.mk gz8 rz8 dz8 = restF (cell n rs i k) (fL n rs i) (fL n rs k) (fD n rs) (j + 1)) := ((rsub_of (r := p) (s := ⟨gz7, rz7, dz7⟩) hq8).trans (by rw [HQ7.out])).trans HSX.out.symm; have HO8 := Lib.hid q1.2; have HU8 := Lib.hid q2.2; have HAP8 := Lib.hid hap8; have HGD8 : Hid ((RD.mk gz8 rz8 dz8).ok ∨ RD.mk gz8 rz8 dz8 = RD.zero) := (by rw [HQ8.out]; exact restF_good HCI.out _); have G8 : Hid (GRat gz8 rz8 dz8) := RD.gr HGD8.out; have hl8 : rz8.length ≤ 24 := G8.out.short.1; have hm8 : dz8.length ≤ 24 := G8.out.short.2; have BB_8 := Lib.hid (BB_7.out.trans (hb8.mono BB_7.out.size)); replace CC := Lib.hid (CC.out.below hb8); replace HY := Lib.hid (HY.out.below hb8); replace IY := Lib.hid (IY.out.below hb8); replace JY := Lib.hid (JY.out.below hb8); replace IK := Lib.hid (IK.out.below hb8); replace JK := Lib.hid (JK.out.below hb8); replace ID := Lib.hid (ID.out.below hb8); replace JD := Lib.hid (JD.out.below hb8); clear hq8 q1 q2 hap8 hb8; have hst := var_store (W := w10) (lo := W0.heap.size) (hi := sz) (q := ⟨gz8, rz8, dz8⟩) HY.out.box rfl HO8.out HU8.out HGD8.out (show sz ≤ w7.heap.size by have := BB_7.out.size; have := HSZ.out; omega) BB_8.out (Nat.le_refl _); have HS9 := Lib.hid hst.1; have HB9 := Lib.hid hst.2; have fc0 := HY.out.box.cell 0; have fc1 := HY.out.box.cell 1; have fc2 := HY.out.box.cell 2; have fs0 := HY.out.box.free 0; have fs1 := HY.out.box.free 1; have fs2 := HY.out.box.free 2; simp at fc0 fc1 fc2 fs0 fs1 fs2; clear hst)
                  (try go_wp2_with fail)
                  refine hK.out _ _ ?_ (fun hHeld => ?_)
                  · (try dsimp only); (first | with_reducible exact atL9 CC)
                  clear hK KK
                  (try simp only [Act.put, List.setIfInBounds_toArray])
                  refine wpAnyL_last (by kernel_rfl) rfl (fun KK hK => ?_)
                  go_simp
                  refine hK.out _ _ ?_
                  clear hK KK
                  (try simp only [Act.put, List.setIfInBounds_toArray])
                  refine wpAnyL_done (by kernel_rfl) ?_ _
                  all_goals
                    clear fc0 fc1 fc2 fs0 fs1 fs2
                    go_wp2_with fail
                    go_roundw
                    case rel => exact ⟨j + 1, ⟨gz8, rz8, dz8⟩, _, _, _, _, _, _, by omega, by go_num, HS9.out, HQ8.out, HB9.out⟩
                    case measure => simp [intOf]; omega
                · obtain rfl : k = j := by omega
                  have hki0 : k < i := by omega
                  obtain ⟨u, hu⟩ : ∃ u, u = i * n := ⟨_, rfl⟩
                  have hui : (i : Int) * (n : Int) = u := by rw [hu]; exact (Int.natCast_mul _ _).symm
                  have hut : (u : Int) + (k : Int) = t3 := by have := HT3.out; omega
                  have hut' : u + k = t3 := by have := HT3.out; omega
                  have hw1 : IntKind.i64.wrap ((i : Int) * (n : Int)) = u := by rw [hui]; exact IntWalk.i64_in _ (by omega)
                  have hw2 : IntKind.i64.wrap ((u : Int) + (k : Int)) = t3 := by rw [hut]; exact IntWalk.i64_in _ (by omega)
                  have hw3 : IntKind.i64.wrap (u : Int) = u := IntWalk.i64_in _ (by omega)
                  have hw4 : IntKind.i64.wrap (t3 : Int) = t3 := IntWalk.i64_in _ (by omega)
                  have ht0 : (0 : Int) ≤ (t3 : Int) := by omega
                  have ht1 : (t3 : Int) < (N : Int) := by omega
                  have HX := Lib.hid (HX10.out.below HB.out).drew
                  have HF := Lib.hid (HFq.out.below (Below.refl wr.heap.size wr).drew)
                  have HQR' : Hid (ROk q.g q.xs q.ds) := HQK.out
                  have HLE : Hid (rdiv p q = fL n rs i k) := by rw [HPQ.out, HQD.out]; exact (fL_eq n rs i k).symm
                  have HQP : Hid (∀ r c, r < n → c < r → ((fun r c => decide (c < k ∨ (c = k ∧ r < i + 1))) r c = true ↔ (fun r c => decide (c < k ∨ (c = k ∧ r < i))) r c = true ∨ (r = i ∧ c = k))) := fun r c hr hc => by
                    simp only [decide_eq_true_eq]; omega
                  have HB6 : Hid (∀ t, footV (.slice (some ⟨G, 0, none⟩) N cL) L3 t → t < wr.drew.heap.size) := fun t ht => (HFq.out.own.lt t ht).2
                  have HD6 : Hid (∀ t, footV (.slice A8 (k + 1) c8) K3 t → t < wr.drew.heap.size) := fun t ht => (HFq.out.dow.lt t ht).2
                  have HW6 : Hid (W0.heap.size ≤ wr.drew.heap.size) := HFq.out.bel.size
                  have HWG : Hid (W0.heap.size ≤ G) := HFq.out.w0g
                  have HGS : Hid (G < sz) := by rw [hsz]; exact Nat.lt_trans HF0.out.glb HF0.out.box.lt
                  have HSW : Hid (sz ≤ w4.heap.size) := by rw [hsz]; exact hs4
                  have CC : Hid (AtL wr.drew [(⟨w10.heap.size, 0, none⟩, .bool p.g), (⟨w10.heap.size, 1, none⟩, .slice Ap np cp), (⟨w10.heap.size, 2, none⟩, .slice Bp mp dp), (⟨w4.heap.size, 0, none⟩, .bool q.g), (⟨w4.heap.size, 1, none⟩, .slice Aq nq cq), (⟨w4.heap.size, 2, none⟩, .slice Bq mq dq), (⟨w1.heap.size, 2, none⟩, .slice (some ⟨G, 0, none⟩) N cL)]) :=
                    AtL.append HY.out.drew.box.atL3 (AtL.append HX.out.box.atL3 ⟨⟨HF.out.box.lt, HF.out.box.cell 2⟩, trivial⟩)
                  replace HY := Lib.hid HY.out.drew
                  have BB_7 : Hid (Below wr.drew.heap.size wr.drew wr.drew) := Below.refl _ _
                  have hnp := HY.out.i.2.1
                  have hmp := HY.out.j.2.1
                  have hnq := HX.out.i.2.1
                  have hmq := HX.out.j.2.1
                  clear hu
                  go_wp2_with fail
                  refine wp_region_last (S := (fun w' => w'.cell? ⟨w10.heap.size, 0, none⟩ = some (.bool p.g) ∧ w'.cell? ⟨w10.heap.size, 1, none⟩ = some (.slice Ap np cp) ∧ w'.cell? ⟨w10.heap.size, 2, none⟩ = some (.slice Bp mp dp) ∧ w'.cell? ⟨w4.heap.size, 0, none⟩ = some (.bool q.g) ∧ w'.cell? ⟨w4.heap.size, 1, none⟩ = some (.slice Aq nq cq) ∧ w'.cell? ⟨w4.heap.size, 2, none⟩ = some (.slice Bq mq dq) ∧ w'.cell? ⟨w1.heap.size, 2, none⟩ = some (.slice (some ⟨G, 0, none⟩) N cL))) 11 (by kernel_rfl) ?_ (fun hHeld => ?_)
                  · (try dsimp only); (first | with_reducible exact atL7 CC)
                  refine wpAnyL_go (i := 0) (d := some 97) (v := ?_) (y := 10) [1, 0] (by rfl) (by kernel_rfl) (fun _ _ _ h => h) (by assumption) ?_ ?_
                  rotate_left 1
                  · (intro oS hoS wS hSw; obtain rfl := Option.some.inj hoS; (try dsimp only at hSw); go_simp; try with_reducible rfl)
                  (try simp only [Act.put, List.setIfInBounds_toArray])
                  refine wpAnyL_go (i := 1) (d := some 98) (v := ?_) (y := 10) [1] (by rfl) (by kernel_rfl) (fun _ _ _ h => h) (by assumption) ?_ ?_
                  rotate_left 1
                  · (intro oS hoS wS hSw; obtain rfl := Option.some.inj hoS; (try dsimp only at hSw); go_simp; try with_reducible rfl)
                  (try simp only [Act.put, List.setIfInBounds_toArray])
                  refine wpAnyL_go (i := 2) (d := some 99) (v := ?_) (y := 10) [6, 4, 2] (by rfl) (by kernel_rfl) (fun _ _ _ h => h) (by assumption) ?_ ?_
                  rotate_left 1
                  · (intro oS hoS wS hSw; obtain rfl := Option.some.inj hoS; (try dsimp only at hSw); go_simp; try with_reducible rfl)
                  (try simp only [Act.put, List.setIfInBounds_toArray])
                  refine wpAnyL_go (i := 3) (d := some 100) (v := ?_) (y := 10) [6, 4, 3] (by rfl) (by kernel_rfl) (fun _ _ _ h => h) (by assumption) ?_ ?_
                  rotate_left 1
                  · (intro oS hoS wS hSw; obtain rfl := Option.some.inj hoS; (try dsimp only at hSw); go_simp; try with_reducible rfl)
                  (try simp only [Act.put, List.setIfInBounds_toArray])
                  refine wpAnyL_go (i := 4) (d := some 101) (v := ?_) (y := 10) [6, 4] (by rfl) (by kernel_rfl) (fun _ _ _ h => h) (by assumption) ?_ ?_
                  rotate_left 1
                  · (intro oS hoS wS hSw; obtain rfl := Option.some.inj hoS; (try dsimp only at hSw); go_simp; try with_reducible rfl)
                  (try simp only [Act.put, List.setIfInBounds_toArray])
                  refine wpAnyL_go (i := 5) (d := some 102) (v := ?_) (y := 10) [6, 5] (by rfl) (by kernel_rfl) (fun _ _ _ h => h) (by assumption) ?_ ?_
                  rotate_left 1
                  · (intro oS hoS wS hSw; obtain rfl := Option.some.inj hoS; (try dsimp only at hSw); go_simp; try with_reducible rfl)
                  (try simp only [Act.put, List.setIfInBounds_toArray])
                  refine wpAnyL_go (i := 6) (d := some 103) (v := ?_) (y := 10) [6] (by rfl) (by kernel_rfl) (fun _ _ _ h => h) (by assumption) ?_ ?_
                  rotate_left 1
                  · (intro oS hoS wS hSw; obtain rfl := Option.some.inj hoS; (try dsimp only at hSw); go_simp; try with_reducible rfl)
                  (try simp only [Act.put, List.setIfInBounds_toArray])
                  refine wpAnyL_go (i := 7) (d := some 104) (v := ?_) (y := 9) [7] (by rfl) (by kernel_rfl) (fun _ _ _ h => h) (by assumption) ?_ ?_
                  rotate_left 1
                  · (intro oS hoS wS hSw; obtain rfl := Option.some.inj hoS; (try dsimp only at hSw); go_simp; try with_reducible rfl)
                  (try simp only [Act.put, List.setIfInBounds_toArray])
                  refine wpAnyL_go (i := 8) (d := some 105) (v := ?_) (y := 9) [8] (by rfl) (by kernel_rfl) (fun _ _ _ h => h) (by assumption) ?_ ?_
                  rotate_left 1
                  · (intro oS hoS wS hSw; obtain rfl := Option.some.inj hoS; (try dsimp only at hSw); go_simp; try with_reducible rfl)
                  (try simp only [Act.put, List.setIfInBounds_toArray])
                  refine wpAnyL_one 9 (by kernel_rfl) (by decide) rfl (fun KK hK => ?_)
                  go_simp
                  (go_at_call 146; (with_reducible refine (spec_l05DivG p.g Ap np cp p.xs Bp mp dp p.ds q.g Aq nq cq q.xs Bq mq dq q.ds _ HY.out.i HY.out.ra HY.out.j HY.out.rb HX.out.i HX.out.ra HX.out.j HX.out.rb GP.out HQR'.out).mono ?_); rintro e w8 ⟨gz8, rz8, vz8, dz8, uz8, rfl, hq8, q1, q2, hap8, hb8⟩; obtain ⟨Az8, cz8, rfl⟩ := own_slice q1.2; obtain ⟨Bz8, ez8, rfl⟩ := own_slice q2.2; have HQ8 : Hid (RD.mk gz8 rz8 dz8 = fL n rs i k) := (rdiv_of (r := p) (s := q) hq8).trans HLE.out; have HO8 := Lib.hid q1.2; have HU8 := Lib.hid q2.2; have HAP8 := Lib.hid hap8; have HGD8 : Hid ((RD.mk gz8 rz8 dz8).ok ∨ RD.mk gz8 rz8 dz8 = RD.zero) := (by rw [HQ8.out]; exact fL_good _ _ _ _); have G8 : Hid (GRat gz8 rz8 dz8) := RD.gr HGD8.out; have hl8 : rz8.length ≤ 24 := G8.out.short.1; have hm8 : dz8.length ≤ 24 := G8.out.short.2; have BB_8 := Lib.hid (BB_7.out.trans (hb8.mono BB_7.out.size)); replace CC := Lib.hid (CC.out.below hb8); replace HX := Lib.hid (HX.out.below hb8); replace HF := Lib.hid (HF.out.below hb8); clear hq8 q1 q2 hap8 hb8; obtain ⟨x0, x1, x2, p0, p1, p2, f0, f1, f2⟩ := HF.out.own.room htN3; have HS9 := Lib.hid (HF.out.put hil hki0 HN.out HQP.out HO8.out HU8.out HAP8.out HB6.out HD6.out HW6.out HQ8.out); rw [← HT3.out] at HS9; have HX9 := Lib.hid (HX.out.keep HSW.out ((((Keeps.refl W0.heap.size sz w8).setCell (g := G) (i := t3 * 3) HWG.out HGS.out (.bool gz8)).setCell (g := G) (i := t3 * 3 + 1) HWG.out HGS.out (.slice Az8 rz8.length cz8)).setCell (g := G) (i := t3 * 3 + 2) HWG.out HGS.out (.slice Bz8 dz8.length ez8))))
                  (try go_wp2_with fail)
                  refine hK.out _ _ ?_ (fun hHeld => ?_)
                  · (try dsimp only); (first | with_reducible exact atL7 CC)
                  clear hK KK
                  (try simp only [Act.put, List.setIfInBounds_toArray])
                  refine wpAnyL_go (i := 10) (d := some 107) (v := ?_) (y := 10) [] (by rfl) (by kernel_rfl) (fun _ _ _ h => h) (by assumption) ?_ ?_
                  rotate_left 1
                  · (intro oS hoS wS hSw; obtain rfl := Option.some.inj hoS; (try dsimp only at hSw); go_simp; try with_reducible rfl)
                  (try simp only [Act.put, List.setIfInBounds_toArray])
                  refine wpAnyL_last (by kernel_rfl) rfl (fun KK hK => ?_)
                  go_simp
                  refine hK.out _ _ ?_
                  clear hK KK
                  (try simp only [Act.put, List.setIfInBounds_toArray])
                  refine wpAnyL_done (by kernel_rfl) ?_ _
                  all_goals
                    clear p0 p1 p2 f0 f1 f2
                    go_wp2_with fail
                    go_roundw
                    case rel => exact ⟨i + 1, _, _, by omega, by omega, by go_num, HS9, HX9⟩
                    case measure => simp [intOf]; omega
            · obtain rfl : n = i := by omega
              have hm1_z := Lib.hid HF9.out.box
              have GDL : Hid (Goods (lowP n rs (fun r c => decide (c < k ∨ (c = k ∧ r < n))))) := ⟨by rw [lowP_length, ← HN.out]; omega, lowP_good⟩
              have IVL : Hid (InV wr (some ⟨G, 0, none⟩) N (lowP n rs (fun r c => decide (c < k ∨ (c = k ∧ r < n))))) := HF9.out.own.in_ HF9.out.has (by omega) GDL.out.fits
              have ehm10 := hm1_z.out.cell 0
              have ehm11 := hm1_z.out.cell 1
              have ehm12 := hm1_z.out.cell 2
              simp at ehm10 ehm11 ehm12
              go_wp2_with fail
              clear ehm10 ehm11 ehm12
              refine (spec_l05Fine (some ⟨G, 0, none⟩) N cL _ _ IVL.out GDL.out).mono ?_
              rintro e w12 ⟨b12, rfl, hq12, hb12⟩
              have HF12 := Lib.hid (HF9.out.below hb12)
              cases b12
              case false =>
                have HZ : Hid (¬ FacOk n rs) := fun h => by have h2 := hq12.2 (lowP_ok h); cases h2
                have ht_12 := Lib.hid (ht_0.out.below HF12.out.bel ht_0.out.lt)
                have BW_12 := Lib.hid (BW_0.out.trans (HF12.out.bel.mono BW_0.out.size))
                clear hq12 hb12
                have eht0 := ht_12.out.cell 0
                have eht1 := ht_12.out.cell 1
                have eht2 := ht_12.out.cell 2
                have fht0 := ht_12.out.free 0
                have fht1 := ht_12.out.free 1
                have fht2 := ht_12.out.free 2
                simp at eht0 eht1 eht2
                go_wp2_with fail
                refine bodyPost_ret (v := .tuple #[.agg #[.int .i64 0, .int .i64 0, .slice none 0 0], .slice none 0 0, .bool false]) (by simp [results, Tryz.results78, eht0, eht1, eht2, go_sem]) rfl ?_
                exact .inr ⟨HZ.out, rfl, below_store3 BW_12.out (by omega) _ _ _⟩
              have HF13 : Hid (FacSt n N rs W0 G cL w1.heap.size (w1.heap.size + 1) (fun _ c => decide (c < k + 1)) w12 (.slice A8 (k + 1) c8) (k + 1) L3 K3) := HF12.out.congr (fun r c hr hc => by simp only [decide_eq_decide]; omega)
              have HP13 : Hid (∀ t, t < k + 1 → (fD n rs t).pos) := fun t ht => by
                by_cases e : t = k
                · subst e; exact HPO.out
                · exact HP.out t (by omega)
              clear hq12 hb12
              go_wp2_with fail
              go_roundw
              case rel => exact ⟨k + 1, L3, K3, hlt, by go_num, HF13, HP13⟩
              case measure => simp [intOf]; omega
    · obtain rfl : n = k := by omega
      have ht_e := Lib.hid (ht_0.out.below HF.out.bel ht_0.out.lt)
      have BW_e := Lib.hid (BW_0.out.trans (HF.out.bel.mono BW_0.out.size))
      have hm1_e := Lib.hid HF.out.box
      have HLF : Hid (Has L (lowF n rs)) := by
        have e := HF.out.has
        rwa [lowP_full (fun r c hr hc => by simp; omega)] at e
      have HNF : Hid (Has K (numF n rs)) := by
        have e := HF.out.dha
        rwa [List.take_of_length_le (by rw [numF_length]; exact Nat.le_refl _)] at e
      have hsW := HF.out.bel.size
      have eht0 := ht_e.out.cell 0
      have eht1 := ht_e.out.cell 1
      have eht2 := ht_e.out.cell 2
      have fht0 := ht_e.out.free 0
      have fht1 := ht_e.out.free 1
      have fht2 := ht_e.out.free 2
      have ehm10 := hm1_e.out.cell 0
      have ehm11 := hm1_e.out.cell 1
      have ehm12 := hm1_e.out.cell 2
      simp at eht0 eht1 eht2 ehm10 ehm11 ehm12
      go_wp2_with fail
      refine bodyPost_ret (v := .tuple #[.agg #[.int .i64 n, .int .i64 n, .slice (some ⟨G, 0, none⟩) N cL], u7, .bool true]) (by simp [results, Tryz.results78, eht0, eht1, eht2, go_sem]) rfl ?_
      exact .inl ⟨HP.out, G, cL, L, _, K, w1.heap.size + 1, rfl, (HF.out.own.lower (by omega)).box_set3 ht_e.out _ _ _, HLF.out, HF.out.dow.box_set3 ht_e.out _ _ _, HNF.out, by omega, HF.out.far, below_store3 BW_e.out (by omega) _ _ _⟩
end Go.Proofs.YtdehcddjkcpnfaaGreat
namespace Go.Proofs.YtdehcddjkcpnfaaGreat
set_option maxRecDepth 100000
open Go.RowKit

def FacEnd2 (n : Nat) (rs : List RD) (w w' : World) (e : Ending) : Prop :=
  (FacOk n rs ∧ ∃ V L x K, e = .returned (.tuple #[.agg #[.int .i64 n, .int .i64 n, V], x, .bool true]) ∧ OwnV w' w.heap.size V (n * n) L ∧ Has L (lowF n rs) ∧ OwnV w' w.heap.size x n K ∧ Has K (numF n rs) ∧ (∀ j, footV V L j → ¬ footV x K j) ∧ Below w.heap.size w w') ∨
  (¬ FacOk n rs ∧ e = .returned (.tuple #[.agg #[.int .i64 0, .int .i64 0, .slice none 0 0], .slice none 0 0, .bool false]) ∧ Below w.heap.size w w')
set_option maxHeartbeats 1600000 in
theorem spec_l08Factor0 (A : Option Addr) (c : Nat) (w : World) :
    Calls Tryz.prog 78 #[.agg #[.int .i64 0, .int .i64 0, .slice A 0 c]] w fun e w' => FacEnd2 0 [] w w' e := by
  obtain ⟨W0, hW0⟩ : ∃ W, W = ((w.alloc (.cells #[.int .i64 0, .int .i64 0, .slice A 0 c] 47)).alloc (.cells #[.int .i64 0, .int .i64 0, .slice none 0 0] 47)) := ⟨_, rfl⟩
  have hm0_0 : Hid (Box W0 (w.heap.size) 47 #[.int .i64 0, .int .i64 0, .slice A 0 c]) := by rw [hW0]; exact ((Box.at' (by simp)).alloc _)
  have ht_0 : Hid (Box W0 (w.heap.size + 1) 47 #[.int .i64 0, .int .i64 0, .slice none 0 0]) := by rw [hW0]; exact (Box.at' (by simp))
  have BW_0 : Hid (Below w.heap.size w W0) := by rw [hW0]; exact (((Below.refl w.heap.size w).alloc (by simp) _).alloc (by simp) _)
  have hsz0 : w.heap.size + 1 + 1 ≤ W0.heap.size := by rw [hW0]; simp
  go_enter Tryz.func78, Tryz.ntmps78
  go_wp2_with fail
  rw [← hW0]
  clear hW0
  refine (spec_l06Identity 0 _ (by omega)).mono ?_
  rintro e w1 hh0
  unfold HoldMEnd at hh0
  obtain ⟨AL, cL, L0, rfl, ho, hh, hb⟩ := hh0
  obtain ⟨W3, hW3⟩ : ∃ W, W = (w1.alloc (.cells #[.int .i64 0, .int .i64 0, .slice AL 0 cL] 47)).alloc (.cells #[] 30) := ⟨_, rfl⟩
  have hb3 : Below w1.heap.size w1 W3 := by rw [hW3]; exact ((Below.refl _ _).alloc (Nat.le_refl _) _).alloc (by simp) _
  have HO : Hid (OwnV W3 W0.heap.size (.slice AL 0 cL) 0 L0) := ho.below hb3
  have hm1_3 : Hid (Box W3 w1.heap.size 47 #[.int .i64 0, .int .i64 0, .slice AL 0 cL]) := by rw [hW3]; exact (Box.new _ _ _).alloc _
  have HE : Hid (OwnV W3 (w1.heap.size + 1) (.slice (some ⟨w1.heap.size + 1, 0, none⟩) 0 0) 0 []) := by
    refine ⟨rfl, ?_, by simp, by simp⟩
    have e := World.ownsRow_lit (w1.alloc (.cells #[.int .i64 0, .int .i64 0, .slice AL 0 cL] 47)) (e := 30) (size := 3) #[] 0 (Nat.le_refl _) (by simp) (by simp)
    rw [hW3]
    simpa [flat] using e
  have ht_3 := Lib.hid ((ht_0.out.below hb ht_0.out.lt).below hb3 (ht_0.out.below hb ht_0.out.lt).lt)
  have BW_3 := Lib.hid (BW_0.out.trans ((hb.trans (hb3.mono hb.size)).mono BW_0.out.size))
  have hs1 := hb.size
  have hL0 : L0 = [] := List.eq_nil_of_length_eq_zero ho.1
  subst hL0
  have hAL : Hid (∀ j, footV (.slice AL 0 cL) ([] : List El) j → j < w1.heap.size) := fun j hj => (ho.lt j hj).2
  clear ho hh hb hb3
  go_wp2_with fail
  rw [← hW3]
  clear hW3
  go_loopw [7, 8] (fun x y wq => x = .slice (some ⟨w1.heap.size + 1, 0, none⟩) 0 0 ∧ y = .int .i64 0 ∧ wq = W3) (fun _ _ _ => 0)
  case atStart => exact ⟨rfl, rfl, rfl⟩
  case round =>
    obtain ⟨rfl, rfl, rfl⟩ := hrel
    have eht0 := ht_3.out.cell 0
    have eht1 := ht_3.out.cell 1
    have eht2 := ht_3.out.cell 2
    have fht0 := ht_3.out.free 0
    have fht1 := ht_3.out.free 1
    have fht2 := ht_3.out.free 2
    have ehm10 := hm1_3.out.cell 0
    have ehm11 := hm1_3.out.cell 1
    have ehm12 := hm1_3.out.cell 2
    simp at eht0 eht1 eht2 ehm10 ehm11 ehm12
    go_wp2_with fail
    refine bodyPost_ret (v := .tuple #[.agg #[.int .i64 0, .int .i64 0, .slice AL 0 cL], .slice (some ⟨w1.heap.size + 1, 0, none⟩) 0 0, .bool true]) (by simp [results, Tryz.results78, eht0, eht1, eht2, go_sem]) rfl ?_
    refine .inl ⟨fun k hk => absurd hk (Nat.not_lt_zero k), _, [], _, [], rfl, (HO.out.lower (by omega)).box_set3 ht_3.out _ _ _, (by have e := lowF_length 0 []; rw [List.eq_nil_of_length_eq_zero e]; exact trivial), (HE.out.lower (by omega)).box_set3 ht_3.out _ _ _, (by have e := numF_length 0 []; rw [List.eq_nil_of_length_eq_zero e]; exact trivial), fun j hj hj2 => ?_, below_store3 BW_3.out (by omega) _ _ _⟩
    have a := hAL.out j hj
    rcases hj2 with hj2 | ⟨y, hy, _⟩
    · simp [Value.ownBlock] at hj2; omega
    · simp at hy
theorem spec_l08Factor (n N : Nat) (A : Option Addr) (c : Nat) (rs : List RD) (w : World) (h : InV w A N rs) (hN : N = n * n) (hn : n ≤ 24) (hok : ∀ r ∈ rs, r.ok) :
    Calls Tryz.prog 78 #[.agg #[.int .i64 n, .int .i64 n, .slice A N c]] w fun e w' => FacEnd2 n rs w w' e := by
  by_cases h0 : n = 0
  · subst h0
    obtain rfl : N = 0 := by omega
    have hr : rs = [] := List.eq_nil_of_length_eq_zero h.1
    subst hr
    exact spec_l08Factor0 A c w
  · refine (spec_l08Factor1 n N A c rs w h hN hn (by omega) hok).mono ?_
    rintro e w' (⟨a, G, cc, L, x, K, b2, rfl, h1, h2, h3, h4, h5, h6, h7⟩ | ⟨a, rfl, h7⟩)
    · exact .inl ⟨a, _, L, x, K, rfl, by rw [← hN]; exact h1, h2, h3.lower h5, h4, h6, h7⟩
    · exact .inr ⟨a, rfl, h7⟩
set_option maxHeartbeats 3200000 in
theorem spec_factor0 (p k : Int) (A : Option Addr) (n c : Nat) (rs : List RD) (w : World) (h : InV w A n rs) (hp : -9223372036854775808 ≤ p ∧ p ≤ 9223372036854775807) (hk : -9223372036854775808 ≤ k ∧ k ≤ 9223372036854775807) :
    Calls Tryz.prog 25 #[.agg #[.int .i64 p, .int .i64 k, .slice A n c]] w fun e w' => FactorEnd p k rs w w' e := by
  obtain ⟨W0, hW0⟩ : ∃ W, W = ((w.alloc (.cells #[.int .i64 p, .int .i64 k, .slice A n c] 47)).alloc (.cells #[.int .i64 0, .int .i64 0, .slice none 0 0] 47)) := ⟨_, rfl⟩
  have hm0_0 : Hid (Box W0 (w.heap.size) 47 #[.int .i64 p, .int .i64 k, .slice A n c]) := by rw [hW0]; exact ((Box.at' (by simp)).alloc _)
  have ht_0 : Hid (Box W0 (w.heap.size + 1) 47 #[.int .i64 0, .int .i64 0, .slice none 0 0]) := by rw [hW0]; exact (Box.at' (by simp))
  have BW_0 : Hid (Below w.heap.size w W0) := by rw [hW0]; exact (((Below.refl w.heap.size w).alloc (by simp) _).alloc (by simp) _)
  have hsz0 : w.heap.size + 1 + 1 ≤ W0.heap.size := by rw [hW0]; simp
  have HV := Lib.hid (h.below BW_0.out)
  have HP := Lib.hid hp
  have HK := Lib.hid hk
  have hlen := Lib.hid h.1
  clear h hp hk
  go_enter Tryz.func25, Tryz.ntmps25
  go_wp2_with fail
  rw [← hW0]
  clear hW0
  refine (spec_isSymmetric0 p k A n c rs _ HV.out HP.out HK.out).mono ?_
  rintro e w1 ⟨b, rfl, hq, hb⟩
  have HQ := Lib.hid hq
  have HV1 := Lib.hid (HV.out.below hb)
  have hm0_1 := Lib.hid (hm0_0.out.below hb hm0_0.out.lt)
  have ht_1 := Lib.hid (ht_0.out.below hb ht_0.out.lt)
  have BW_1 := Lib.hid (BW_0.out.trans (hb.mono BW_0.out.size))
  clear hq hb
  cases b
  case false =>
    have HN : Hid (¬ FactorOk p k rs) := fun q => by have := HQ.out.2 q.1; cases this
    have eht0 := ht_1.out.cell 0
    have eht1 := ht_1.out.cell 1
    have eht2 := ht_1.out.cell 2
    have fht0 := ht_1.out.free 0
    have fht1 := ht_1.out.free 1
    have fht2 := ht_1.out.free 2
    simp at eht0 eht1 eht2
    go_wp2_with fail
    refine bodyPost_ret (v := .tuple #[.agg #[.int .i64 0, .int .i64 0, .slice none 0 0], .slice none 0 0, .bool false]) (by simp [results, Tryz.results25, eht0, eht1, eht2, go_sem]) rfl ?_
    exact factorEnd_no HN.out (below_store3 BW_1.out (by omega) _ _ _)
  have HS := Lib.hid (HQ.out.1 rfl)
  obtain ⟨N, rfl⟩ : ∃ N : Nat, p = N := ⟨p.toNat, by have := HS.out.1.1; omega⟩
  obtain rfl : k = (N : Int) := HS.out.2.1.symm
  have hN24 : N ≤ 24 := by have := HS.out.1.1; omega
  have HNN : Hid (n = N * N) := by have := mok_plen HS.out.1; rw [hlen.out] at this; exact this
  have ehm00 := hm0_1.out.cell 0
  have ehm01 := hm0_1.out.cell 1
  have ehm02 := hm0_1.out.cell 2
  simp at ehm00 ehm01 ehm02
  go_wp2_with fail
  clear ehm00 ehm01 ehm02
  refine (spec_l08Factor N n A c rs _ HV1.out HNN.out hN24 HS.out.1.all).mono ?_
  rintro e w2 hfe
  rcases hfe with ⟨hok, V, L, x, K, rfl, h1, h2, h3, h4, h5, hb⟩ | ⟨hno, rfl, hb⟩
  · have HFO : Hid (FactorOk N N rs) := ⟨⟨HS.out.1, rfl, HS.out.2.2⟩, by simpa using hok⟩
    have ht_2 := Lib.hid (ht_1.out.below hb ht_1.out.lt)
    have BW_2 := Lib.hid (BW_1.out.trans (hb.mono BW_1.out.size))
    have H1 := Lib.hid h1
    have H2 := Lib.hid h2
    have H3 := Lib.hid h3
    have H4 := Lib.hid h4
    have H5 := Lib.hid h5
    have hsw := BW_1.out.size
    obtain ⟨A2, c2, rfl⟩ := h1.slice
    clear h1 h2 h3 h4 h5 hb hok
    have eht0 := ht_2.out.cell 0
    have eht1 := ht_2.out.cell 1
    have eht2 := ht_2.out.cell 2
    have fht0 := ht_2.out.free 0
    have fht1 := ht_2.out.free 1
    have fht2 := ht_2.out.free 2
    simp at eht0 eht1 eht2
    go_wp2_with fail
    refine bodyPost_ret (v := .tuple #[.agg #[.int .i64 N, .int .i64 N, .slice A2 (N * N) c2], x, .bool true]) (by simp [results, Tryz.results25, eht0, eht1, eht2, go_sem]) rfl ?_
    exact factorEnd_yes HFO.out ((H1.out.lower hsw).box_set3 ht_2.out _ _ _) H2.out ((H3.out.lower hsw).box_set3 ht_2.out _ _ _) H4.out H5.out (below_store3 BW_2.out (by omega) _ _ _)
  · have HN : Hid (¬ FactorOk N N rs) := fun q => hno (by simpa using q.2)
    have ht_2 := Lib.hid (ht_1.out.below hb ht_1.out.lt)
    have BW_2 := Lib.hid (BW_1.out.trans (hb.mono BW_1.out.size))
    clear hb hno
    have eht0 := ht_2.out.cell 0
    have eht1 := ht_2.out.cell 1
    have eht2 := ht_2.out.cell 2
    have fht0 := ht_2.out.free 0
    have fht1 := ht_2.out.free 1
    have fht2 := ht_2.out.free 2
    simp at eht0 eht1 eht2
    go_wp2_with fail
    refine bodyPost_ret (v := .tuple #[.agg #[.int .i64 0, .int .i64 0, .slice none 0 0], .slice none 0 0, .bool false]) (by simp [results, Tryz.results25, eht0, eht1, eht2, go_sem]) rfl ?_
    exact factorEnd_no HN.out (below_store3 BW_2.out (by omega) _ _ _)
theorem spec_factor (p k : Int) (A : Option Addr) (n c : Nat) (rs : List RD) (w : World) (h : InV w A n rs) (hp : -9223372036854775808 ≤ p ∧ p ≤ 9223372036854775807) (hk : -9223372036854775808 ≤ k ∧ k ≤ 9223372036854775807) (_hc : n ≤ c) :
    Calls Tryz.prog 25 #[.agg #[.int .i64 p, .int .i64 k, .slice A n c]] w fun e w' => ∃ q j r V l U b, e = .returned (.tuple #[.agg #[.int .i64 q, .int .i64 j, V], U, .bool b]) ∧ FactorIs p k rs q j r l b ∧ ResMV w w' V r U l ∧ Below w.heap.size w w' := (spec_factor0 p k A n c rs w h hp hk).mono fun _ _ h => h
set_option maxHeartbeats 1600000 in
theorem spec_isPositive (p k : Int) (A : Option Addr) (n c : Nat) (rs : List RD) (w : World) (h : InV w A n rs) (hp : -9223372036854775808 ≤ p ∧ p ≤ 9223372036854775807) (hk : -9223372036854775808 ≤ k ∧ k ≤ 9223372036854775807) (_hc : n ≤ c) :
    Calls Tryz.prog 34 #[.agg #[.int .i64 p, .int .i64 k, .slice A n c]] w fun e w' => ∃ b, e = .returned (.bool b) ∧ IsPositiveIs p k rs b ∧ Below w.heap.size w w' := by
  obtain ⟨W0, hW0⟩ : ∃ W, W = (w.alloc (.cells #[.int .i64 p, .int .i64 k, .slice A n c] 47)) := ⟨_, rfl⟩
  have hm0_0 : Hid (Box W0 (w.heap.size) 47 #[.int .i64 p, .int .i64 k, .slice A n c]) := by rw [hW0]; exact (Box.at' (by simp))
  have BW_0 : Hid (Below w.heap.size w W0) := by rw [hW0]; exact ((Below.refl w.heap.size w).alloc (by simp) _)
  have hsz0 : w.heap.size + 1 ≤ W0.heap.size := by rw [hW0]; simp
  have HV := Lib.hid (h.below BW_0.out)
  have HP := Lib.hid hp
  have HK := Lib.hid hk
  clear h hp hk
  go_enter Tryz.func34, Tryz.ntmps34
  go_wp2_with fail
  rw [← hW0]
  clear hW0
  refine (spec_factor0 p k A n c rs _ HV.out HP.out HK.out).mono ?_
  rintro e w1 ⟨q, j, r, V, l, U, b, rfl, hq, hr, hb⟩
  have HF : Hid (IsPositiveIs p k rs b) := isPositive_of hq
  obtain ⟨_, L, K, ho, _, hu, _⟩ := hr
  obtain ⟨A1, c1, rfl⟩ := ho.slice
  have BW_1 := Lib.hid (BW_0.out.trans (hb.mono BW_0.out.size))
  have BW_2 := Lib.hid (BW_1.out.alloc BW_1.out.size (.cells #[.int .i64 q, .int .i64 j, .slice A1 r.length c1] 47))
  clear hq ho hu hb
  go_wp2_with fail
  go_ret
  exact ⟨b, rfl, HF.out, BW_2.out⟩
end Go.Proofs.YtdehcddjkcpnfaaGreat
