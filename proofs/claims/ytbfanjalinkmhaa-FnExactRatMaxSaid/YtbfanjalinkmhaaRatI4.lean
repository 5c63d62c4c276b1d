/- Contracts of fractions: the smaller and the greater of two, by the program. -/
import Derived.Test.YtbfanjalinkmhaaRatI3
import Derived.Test.YtbfanjalinkmhaaRatS7
namespace Go.Proofs.Ytbfanjalinkmhaa
set_option maxRecDepth 100000
open Go.RowKit Go.Deep

set_option maxRecDepth 100000 in
set_option maxHeartbeats 3200000 in
theorem impl_copyOfRat (g1 : Bool) (A1 : Option Addr) (n1 c1 : Nat) (xs : List Int) (B1 : Option Addr) (m1 d1 : Nat) (es : List Int) (w : World) (h1 : InI w A1 n1 xs) (r1 : Room A1 n1 c1) (k1 : InI w B1 m1 es) (s1 : Room B1 m1 d1) (q1 : xs.length ≤ 24) (q2 : es.length ≤ 24) :
    Calls Try.prog 123 #[.agg #[.bool g1, .slice A1 n1 c1, .slice B1 m1 d1]] w fun e w' => RatEnd (fun g l d => g = g1 ∧ l = xs ∧ d = es) w w' e := by
  have hn1 := h1.2.1
  have hm1 := k1.2.1
  obtain ⟨W0, hW0⟩ : ∃ W, W = ((w.alloc (.cells #[.bool g1, .slice A1 n1 c1, .slice B1 m1 d1] 31)).alloc (.cells #[.bool false, .slice none 0 0, .slice none 0 0] 31)) := ⟨_, rfl⟩
  have hy0_0 : Hid (Box W0 (w.heap.size) 31 #[.bool g1, .slice A1 n1 c1, .slice B1 m1 d1]) := by rw [hW0]; exact ((Box.at' (by simp)).alloc _)
  have hs_0 : Hid (Box W0 (w.heap.size + 1) 31 #[.bool false, .slice none 0 0, .slice none 0 0]) := by rw [hW0]; exact (Box.at' (by simp))
  have BW_0 : Hid (Below w.heap.size w W0) := by rw [hW0]; exact (((Below.refl w.heap.size w).alloc (by simp) _).alloc (by simp) _)
  have hsz0 : w.heap.size + 1 + 1 ≤ W0.heap.size := by rw [hW0]; simp
  have HI1 := Lib.hid (h1.below BW_0.out)
  have HJ1 := Lib.hid (k1.below BW_0.out)
  have R1 := Lib.hid r1
  have S1 := Lib.hid s1
  have HH1 := Lib.hid h1
  have HK1 := Lib.hid k1
  clear h1 k1 r1 s1
  go_enter Try.func123, Try.ntmps123
  go_wp2_with fail
  rw [← hW0]
  clear hW0
  have sz_0 : W0.heap.size ≤ W0.heap.size := Nat.le_refl _
  go_upto_region 1 with fail
  go_cut [3] (fun s3 wx => ∃ (gb : Nat) (s0 : Bool) (l0 : List Int) (A0 : Option Addr) (n0 c0 : Nat), s3 = .pointer (some ⟨gb, 0, none⟩) ∧ W0.heap.size ≤ gb ∧ Hid (s0 = g1 ∧ l0 = xs) ∧ Hid (l0.length = n0) ∧ n0 ≤ 60 ∧ Hid (wx.ownsRow w.heap.size 3 1 (.slice A0 n0 c0) n0 (l0.map (.int .i64))) ∧ Hid (Box wx gb 29 #[.bool s0, .slice A0 n0 c0]) ∧ Hid (Below w.heap.size w wx) ∧ W0.heap.size ≤ wx.heap.size ∧ Hid (Box wx (w.heap.size) 31 #[.bool g1, .slice A1 n1 c1, .slice B1 m1 d1]) ∧ Hid (Box wx (w.heap.size + 1) 31 #[.bool false, .slice none 0 0, .slice none 0 0]))
  case first =>
    have hy0_1 := Lib.hid hy0_0.out.drew
    have hs_1 := Lib.hid hs_0.out.drew
    have BW_1 := Lib.hid BW_0.out.drew
    have sy_1 : W0.heap.size ≤ W0.drew.heap.size := Nat.le_refl _
    have cvhy00 : Hid ((#[.bool g1, .slice A1 n1 c1, .slice B1 m1 d1] : Array Value)[0]? = some (.bool g1)) := rfl
    have cvhy01 : Hid ((#[.bool g1, .slice A1 n1 c1, .slice B1 m1 d1] : Array Value)[1]? = some (.slice A1 n1 c1)) := rfl
    go_region_held3 (fun w' => w'.cell? ⟨w.heap.size, 0, none⟩ = some (.bool g1) ∧ w'.cell? ⟨w.heap.size, 1, none⟩ = some (.slice A1 n1 c1)) (first | with_reducible exact ⟨cellS hy0_2 cvhy00, cellS hy0_2 cvhy01⟩ | with_reducible exact ⟨cellS (hAlloc hy0_2 _) cvhy00, cellS (hAlloc hy0_2 _) cvhy01⟩ | with_reducible exact ⟨cellS (hFar (hFar hy0_2 (by have := hy0_0.out.lt; dsimp only; omega) _) (by have := hy0_0.out.lt; dsimp only; omega) _) cvhy00, cellS (hFar (hFar hy0_2 (by have := hy0_0.out.lt; dsimp only; omega) _) (by have := hy0_0.out.lt; dsimp only; omega) _) cvhy01⟩ | with_reducible exact ⟨cellS hy0_1 cvhy00, cellS hy0_1 cvhy01⟩ | with_reducible exact ⟨cellS (hAlloc hy0_1 _) cvhy00, cellS (hAlloc hy0_1 _) cvhy01⟩ | with_reducible exact ⟨cellS (hDrew (hAlloc hy0_0 _)) cvhy00, cellS (hDrew (hAlloc hy0_0 _)) cvhy01⟩) (first | (go_at_call 83; first | ((with_reducible refine (clone_any A1 n1 c1 xs _ HH1.out.len HH1.out.le ((HH1.out.below BW_1.out).rd)).mono ?_); rintro e w2 ⟨v, rfl, ho, hb⟩; have hy0_2 := Lib.hid (hy0_1.out.below hb hy0_1.out.lt); have hs_2 := Lib.hid (hs_1.out.below hb hs_1.out.lt); have BW_2 := Lib.hid (BW_1.out.trans (hb.mono BW_1.out.size)); (try (have NN_2 := Lib.hid (NN_1.out.below hb NN_1.out.lt))); have sy_2 : W0.heap.size ≤ w2.heap.size := Nat.le_trans sy_1 (Nat.le_trans (by simp) hb.size); obtain ⟨Aa, ca, rfl⟩ := own_slice ho; obtain ⟨na, hN⟩ : ∃ N, N = xs.length := ⟨_, rfl⟩; rw [← hN] at ho ⊢; have HNa := Lib.hid hN.symm; have HOa := Lib.hid ho; have hsa : na ≤ 60 := (by omega); clear ho hN hb; (try (have eN0 := NN_2.out.cell 0; have eN1 := NN_2.out.cell 1; simp at eN0 eN1; have fN0 := NN_2.out.free 0; have fN1 := NN_2.out.free 1))) | (replace hy0_1 := Lib.hid (hy0_0.out.alloc (.cells #[.bool false, .slice none 0 0] 29)).drew; replace hs_1 := Lib.hid (hs_0.out.alloc (.cells #[.bool false, .slice none 0 0] 29)).drew; replace BW_1 := Lib.hid (BW_0.out.alloc BW_0.out.size (.cells #[.bool false, .slice none 0 0] 29)).drew; have NN_1 := Lib.hid (Box.new W0 29 #[.bool false, .slice none 0 0]).drew; have szn : W0.heap.size ≤ W0.heap.size := sz_0; replace sy_1 : W0.heap.size ≤ (W0.alloc (.cells #[.bool false, .slice none 0 0] 29)).drew.heap.size := (by show W0.heap.size ≤ (W0.alloc _).heap.size; simp); (with_reducible refine (clone_any A1 n1 c1 xs _ HH1.out.len HH1.out.le ((HH1.out.below BW_1.out).rd)).mono ?_); rintro e w2 ⟨v, rfl, ho, hb⟩; have hy0_2 := Lib.hid (hy0_1.out.below hb hy0_1.out.lt); have hs_2 := Lib.hid (hs_1.out.below hb hs_1.out.lt); have BW_2 := Lib.hid (BW_1.out.trans (hb.mono BW_1.out.size)); (try (have NN_2 := Lib.hid (NN_1.out.below hb NN_1.out.lt))); have sy_2 : W0.heap.size ≤ w2.heap.size := Nat.le_trans sy_1 (Nat.le_trans (by simp) hb.size); obtain ⟨Aa, ca, rfl⟩ := own_slice ho; obtain ⟨na, hN⟩ : ∃ N, N = xs.length := ⟨_, rfl⟩; rw [← hN] at ho ⊢; have HNa := Lib.hid hN.symm; have HOa := Lib.hid ho; have hsa : na ≤ 60 := (by omega); clear ho hN hb; (try (have eN0 := NN_2.out.cell 0; have eN1 := NN_2.out.cell 1; simp at eN0 eN1; have fN0 := NN_2.out.free 0; have fN1 := NN_2.out.free 1)))))
    all_goals (go_wp2_with fail; go_meet; first | exact ⟨_, g1, xs, _, _, _, rfl, (by first | exact szn | omega | (simp; omega)), Lib.hid ⟨rfl, rfl⟩, HNa, hsa, own_base (HOa.out.alloc _) (by first | omega | (simp; omega)), Box.new _ _ _, BW_2.out.alloc BW_2.out.size _, (by simp; omega), hy0_2.out.alloc _, hs_2.out.alloc _⟩ | exact ⟨_, g1, xs, _, _, _, rfl, (by first | exact szn | omega | (simp; omega)), Lib.hid ⟨rfl, rfl⟩, HNa, hsa, own_base (own_box (own_box HOa.out NN_2.out 0 _ (by decide)) (NN_2.out.set_ 0 _) 1 _ (by decide)) (by first | omega | (simp; omega)), (NN_2.out.set_ 0 _).set_ 1 _, (BW_2.out.setCell (by dsimp only; omega) _).setCell (by dsimp only; omega) _, (by simp; omega), ((hy0_2.out.far (by have := hy0_0.out.lt; dsimp only; omega) _).far (by have := hy0_0.out.lt; dsimp only; omega) _), ((hs_2.out.far (by have := hs_0.out.lt; dsimp only; omega) _).far (by have := hs_0.out.lt; dsimp only; omega) _)⟩)
  obtain ⟨ga, sa, la, Aa, na, ca, rfl, hgba, HCa, HNa, hsa, HOa_1, hxa_1, BW_1, sz_1, hy0_1, hs_1⟩ := hcut
  obtain ⟨wqa, rfl⟩ : ∃ q, q = wc := ⟨_, rfl⟩
  obtain ⟨rfl, rfl⟩ := HCa.out
  go_wp2_with fail
  have hxa_2 := Lib.hid hxa_1.out.drew
  have hy0_2 := Lib.hid hy0_1.out.drew
  have hs_2 := Lib.hid hs_1.out.drew
  have BW_2 := Lib.hid BW_1.out.drew
  have HOa_2 := Lib.hid (own_drew HOa_1.out)
  have cvhxa0 : Hid ((#[.bool sa, .slice Aa na ca] : Array Value)[0]? = some (.bool sa)) := rfl
  have cvhxa1 : Hid ((#[.bool sa, .slice Aa na ca] : Array Value)[1]? = some (.slice Aa na ca)) := rfl
  have cvhy02 : Hid ((#[.bool sa, .slice A1 n1 c1, .slice B1 m1 d1] : Array Value)[2]? = some (.slice B1 m1 d1)) := rfl
  go_region_held3 (fun w' => w'.cell? ⟨ga, 0, none⟩ = some (.bool sa) ∧ w'.cell? ⟨ga, 1, none⟩ = some (.slice Aa na ca) ∧ w'.cell? ⟨w.heap.size, 2, none⟩ = some (.slice B1 m1 d1)) (first | with_reducible exact ⟨cellS hxa_3 cvhxa0, cellS hxa_3 cvhxa1, cellS hy0_3 cvhy02⟩ | with_reducible exact ⟨cellS (hFar (hFar (hFar hxa_3 (by dsimp only; omega) _) (by dsimp only; omega) _) (by dsimp only; omega) _) cvhxa0, cellS (hFar (hFar (hFar hxa_3 (by dsimp only; omega) _) (by dsimp only; omega) _) (by dsimp only; omega) _) cvhxa1, cellS (hFar (hFar (hFar hy0_3 (by dsimp only; omega) _) (by dsimp only; omega) _) (by dsimp only; omega) _) cvhy02⟩ | with_reducible exact ⟨cellS hxa_2 cvhxa0, cellS hxa_2 cvhxa1, cellS hy0_2 cvhy02⟩) (first | (go_at_call 83; (with_reducible refine (clone_any B1 m1 d1 es _ HK1.out.len HK1.out.le ((HK1.out.below BW_2.out).rd)).mono ?_); rintro e w3 ⟨u, rfl, ho, hb⟩; have HAP0 := apart_older' HOa_2.out ho; have hz4 := BW_2.out.size; have HO := Lib.hid (own_below HOa_2.out hb); have hy0_3 := Lib.hid (hy0_2.out.below hb hy0_2.out.lt); have hs_3 := Lib.hid (hs_2.out.below hb hs_2.out.lt); have hxa_3 := Lib.hid (hxa_2.out.below hb hxa_2.out.lt); have BW_3 := Lib.hid (BW_2.out.trans (hb.mono BW_2.out.size)); clear hb; obtain ⟨B9, d9, rfl⟩ := own_slice ho; obtain ⟨M9, hM⟩ : ∃ N, N = es.length := ⟨_, rfl⟩; rw [← hM] at ho HAP0 ⊢; have HAP := Lib.hid HAP0; have HM := Lib.hid hM.symm; have HU := Lib.hid ho; have hm9 : M9 ≤ 24 := (by omega); clear ho hM HAP0; have ehs0 := hs_3.out.cell 0; have ehs1 := hs_3.out.cell 1; have ehs2 := hs_3.out.cell 2; have fhs0 := hs_3.out.free 0; have fhs1 := hs_3.out.free 1; have fhs2 := hs_3.out.free 2; simp at ehs0 ehs1 ehs2))
  have HN := HNa
  go_wp2_with fail
  refine bodyPost_ret (v := .agg #[.bool sa, .slice Aa na ca, .slice B9 M9 d9]) (by simp [results, Try.results123, ehs0, ehs1, ehs2, go_sem]) rfl ?_
  exact ratEnd_store hs_3.out (by omega) BW_3.out ⟨rfl, rfl, rfl⟩ HN.out HM.out (by omega) (by omega) HO.out (by omega) HU.out (by omega) HAP.out
section
variable {g1 g2 : Bool} {xs es ys fs : List Int} {r : Int}
theorem pick_no {P C : Prop} (h : ¬ P) : PickIs P C g1 xs es g2 ys fs false [] [] := .inr (.inr ⟨h, rfl, rfl, rfl⟩)
theorem cmp_is (k1 : ROk g1 xs es) (k2 : ROk g2 ys fs) (h : RatCmpIs g1 xs es g2 ys fs r) : r = cmpV (bval g1 xs * val fs) (bval g2 ys * val es) := by
  rcases h with ⟨_, h⟩ | ⟨h, _⟩
  · exact h
  · exact absurd ⟨k1, k2⟩ h
theorem cmpV_m1 {a b : Int} : cmpV a b = -1 ↔ a < b := by
  unfold cmpV
  split
  · simp [*]
  · split <;> simp <;> omega
theorem cmpV_p1 {a b : Int} : cmpV a b = 1 ↔ b < a := by
  unfold cmpV
  split
  · simp; omega
  · split <;> simp <;> omega
theorem min_second (k1 : ROk g1 xs es) (k2 : ROk g2 ys fs) (h : r = cmpV (bval g2 ys * val es) (bval g1 xs * val fs)) (hr : r = -1) : RatMinIs g1 xs es g2 ys fs g2 ys fs :=
  .inr (.inl ⟨⟨k1, k2⟩, by have := cmpV_m1.1 (h.symm.trans hr); omega, rfl, rfl, rfl⟩)
theorem min_first (k1 : ROk g1 xs es) (k2 : ROk g2 ys fs) (h : r = cmpV (bval g2 ys * val es) (bval g1 xs * val fs)) (hr : ¬ r = -1) : RatMinIs g1 xs es g2 ys fs g1 xs es :=
  .inl ⟨⟨k1, k2⟩, by rw [h, cmpV_m1] at hr; omega, rfl, rfl, rfl⟩
theorem max_second (k1 : ROk g1 xs es) (k2 : ROk g2 ys fs) (h : r = cmpV (bval g2 ys * val es) (bval g1 xs * val fs)) (hr : r = 1) : RatMaxIs g1 xs es g2 ys fs g2 ys fs :=
  .inr (.inl ⟨⟨k1, k2⟩, by have := cmpV_p1.1 (h.symm.trans hr); omega, rfl, rfl, rfl⟩)
theorem max_first (k1 : ROk g1 xs es) (k2 : ROk g2 ys fs) (h : r = cmpV (bval g2 ys * val es) (bval g1 xs * val fs)) (hr : ¬ r = 1) : RatMaxIs g1 xs es g2 ys fs g1 xs es :=
  .inl ⟨⟨k1, k2⟩, by rw [h, cmpV_p1] at hr; omega, rfl, rfl, rfl⟩
end
set_option maxHeartbeats 3200000 in
theorem impl_first_min (g1 : Bool) (A1 : Option Addr) (n1 c1 : Nat) (xs : List Int) (B1 : Option Addr) (m1 d1 : Nat) (es : List Int) (g2 : Bool) (A2 : Option Addr) (n2 c2 : Nat) (ys : List Int) (B2 : Option Addr) (m2 d2 : Nat) (fs : List Int) (w : World) (h1 : InI w A1 n1 xs) (r1 : Room A1 n1 c1) (k1 : InI w B1 m1 es) (s1 : Room B1 m1 d1) (h2 : InI w A2 n2 ys) (r2 : Room A2 n2 c2) (k2 : InI w B2 m2 fs) (s2 : Room B2 m2 d2) :
    Calls Try.prog 93 #[.agg #[.bool g1, .slice A1 n1 c1, .slice B1 m1 d1], .agg #[.bool g2, .slice A2 n2 c2, .slice B2 m2 d2], .int .i64 (-1)] w fun e w' => RatEnd (RatMinIs g1 xs es g2 ys fs) w w' e := by
  have hn1 := h1.2.1
  have hn2 := h2.2.1
  have hm1 := k1.2.1
  have hm2 := k2.2.1
  obtain ⟨W0, hW0⟩ : ∃ W, W = (((w.alloc (.cells #[.bool g1, .slice A1 n1 c1, .slice B1 m1 d1] 31)).alloc (.cells #[.bool g2, .slice A2 n2 c2, .slice B2 m2 d2] 31)).alloc (.cells #[.bool false, .slice none 0 0, .slice none 0 0] 31)) := ⟨_, rfl⟩
  have hy0_0 : Hid (Box W0 (w.heap.size) 31 #[.bool g1, .slice A1 n1 c1, .slice B1 m1 d1]) := by rw [hW0]; exact (((Box.at' (by simp)).alloc _).alloc _)
  have hy1_0 : Hid (Box W0 (w.heap.size + 1) 31 #[.bool g2, .slice A2 n2 c2, .slice B2 m2 d2]) := by rw [hW0]; exact ((Box.at' (by simp)).alloc _)
  have hs_0 : Hid (Box W0 (w.heap.size + 1 + 1) 31 #[.bool false, .slice none 0 0, .slice none 0 0]) := by rw [hW0]; exact (Box.at' (by simp))
  have BW_0 : Hid (Below w.heap.size w W0) := by rw [hW0]; exact ((((Below.refl w.heap.size w).alloc (by simp) _).alloc (by simp) _).alloc (by simp; omega) _)
  have hsz0 : w.heap.size + 1 + 1 + 1 ≤ W0.heap.size := by rw [hW0]; simp
  have HI1 := Lib.hid (h1.below BW_0.out)
  have HI2 := Lib.hid (h2.below BW_0.out)
  have HJ1 := Lib.hid (k1.below BW_0.out)
  have HJ2 := Lib.hid (k2.below BW_0.out)
  have R1 := Lib.hid r1
  have R2 := Lib.hid r2
  have S1 := Lib.hid s1
  have S2 := Lib.hid s2
  clear h1 h2 k1 k2 r1 r2 s1 s2
  go_enter Try.func93, Try.ntmps93
  go_wp2_with fail
  rw [← hW0]
  clear hW0
  refine (impl_ratOk' g1 A1 n1 c1 xs B1 m1 d1 es _ HI1.out HJ1.out).mono ?_
  rintro e wa ⟨⟨b, rfl, hi⟩, hb⟩
  have hy0_1 := Lib.hid (hy0_0.out.below hb hy0_0.out.lt)
  have hy1_1 := Lib.hid (hy1_0.out.below hb hy1_0.out.lt)
  have hs_1 := Lib.hid (hs_0.out.below hb hs_0.out.lt)
  have BW_1 := Lib.hid (BW_0.out.trans (hb.mono BW_0.out.size))
  replace HI1 := Lib.hid (HI1.out.below hb)
  replace HI2 := Lib.hid (HI2.out.below hb)
  replace HJ1 := Lib.hid (HJ1.out.below hb)
  replace HJ2 := Lib.hid (HJ2.out.below hb)
  clear hb
  have ehy00 := hy0_1.out.cell 0
  have ehy01 := hy0_1.out.cell 1
  have ehy02 := hy0_1.out.cell 2
  have ehy10 := hy1_1.out.cell 0
  have ehy11 := hy1_1.out.cell 1
  have ehy12 := hy1_1.out.cell 2
  have ehs0 := hs_1.out.cell 0
  have ehs1 := hs_1.out.cell 1
  have ehs2 := hs_1.out.cell 2
  have fhs0 := hs_1.out.free 0
  have fhs1 := hs_1.out.free 1
  have fhs2 := hs_1.out.free 2
  simp at ehy00 ehy01 ehy02 ehy10 ehy11 ehy12 ehs0 ehs1 ehs2
  cases b
  · have hno : ¬ (ROk g1 xs es ∧ ROk g2 ys fs) := fun h => by have := hi.2 h.1; cases this
    clear hi
    have HZ : Hid (RatMinIs g1 xs es g2 ys fs false [] []) := pick_no hno
    go_wp2_with fail
    refine bodyPost_ret (v := .agg #[.bool false, .slice none 0 0, .slice none 0 0]) (by simp [results, Try.results93, ehs0, ehs1, ehs2, go_sem]) rfl ?_
    exact ratEnd_zero HZ.out (below_store3 BW_1.out (by omega) _ _ _)
  have K1 := Lib.hid (hi.1 rfl)
  clear hi
  go_wp2_with fail
  refine (impl_ratOk' g2 A2 n2 c2 ys B2 m2 d2 fs _ HI2.out HJ2.out).mono ?_
  rintro e wb ⟨⟨b, rfl, hi⟩, hb⟩
  have hy0_2 := Lib.hid (hy0_1.out.below hb hy0_1.out.lt)
  have hy1_2 := Lib.hid (hy1_1.out.below hb hy1_1.out.lt)
  have hs_2 := Lib.hid (hs_1.out.below hb hs_1.out.lt)
  have BW_2 := Lib.hid (BW_1.out.trans (hb.mono BW_1.out.size))
  replace HI1 := Lib.hid (HI1.out.below hb)
  replace HI2 := Lib.hid (HI2.out.below hb)
  replace HJ1 := Lib.hid (HJ1.out.below hb)
  replace HJ2 := Lib.hid (HJ2.out.below hb)
  clear hb
  clear ehy00 ehy01 ehy02 ehy10 ehy11 ehy12 ehs0 fhs0 ehs1 fhs1 ehs2 fhs2
  have ehy00 := hy0_2.out.cell 0
  have ehy01 := hy0_2.out.cell 1
  have ehy02 := hy0_2.out.cell 2
  have ehy10 := hy1_2.out.cell 0
  have ehy11 := hy1_2.out.cell 1
  have ehy12 := hy1_2.out.cell 2
  have ehs0 := hs_2.out.cell 0
  have ehs1 := hs_2.out.cell 1
  have ehs2 := hs_2.out.cell 2
  have fhs0 := hs_2.out.free 0
  have fhs1 := hs_2.out.free 1
  have fhs2 := hs_2.out.free 2
  simp at ehy00 ehy01 ehy02 ehy10 ehy11 ehy12 ehs0 ehs1 ehs2
  cases b
  · have hno : ¬ (ROk g1 xs es ∧ ROk g2 ys fs) := fun h => by have := hi.2 h.2; cases this
    clear hi
    have HZ : Hid (RatMinIs g1 xs es g2 ys fs false [] []) := pick_no hno
    go_wp2_with fail
    refine bodyPost_ret (v := .agg #[.bool false, .slice none 0 0, .slice none 0 0]) (by simp [results, Try.results93, ehs0, ehs1, ehs2, go_sem]) rfl ?_
    exact ratEnd_zero HZ.out (below_store3 BW_2.out (by omega) _ _ _)
  have K2 := Lib.hid (hi.1 rfl)
  clear hi
  have hn1 : n1 ≤ 24 := by have := K1.out.2.2.2.2.1; rwa [HI1.out.1] at this
  have hn2 : n2 ≤ 24 := by have := K2.out.2.2.2.2.1; rwa [HI2.out.1] at this
  have hm1 : m1 ≤ 24 := by have := K1.out.2.2.2.2.2; rwa [HJ1.out.1] at this
  have hm2 : m2 ≤ 24 := by have := K2.out.2.2.2.2.2; rwa [HJ2.out.1] at this
  go_wp2_with fail
  refine (impl_ratCmp0 g2 A2 n2 c2 ys B2 m2 d2 fs g1 A1 n1 c1 xs B1 m1 d1 es _ HI2.out R2.out HJ2.out S2.out HI1.out R1.out HJ1.out S1.out).mono ?_
  rintro e wc ⟨rc, rfl, hrc, hb⟩
  have HRC := Lib.hid (cmp_is K2.out K1.out hrc)
  have hy0_3 := Lib.hid (hy0_2.out.below hb hy0_2.out.lt)
  have hy1_3 := Lib.hid (hy1_2.out.below hb hy1_2.out.lt)
  have hs_3 := Lib.hid (hs_2.out.below hb hs_2.out.lt)
  have BW_3 := Lib.hid (BW_2.out.trans (hb.mono BW_2.out.size))
  replace HI1 := Lib.hid (HI1.out.below hb)
  replace HI2 := Lib.hid (HI2.out.below hb)
  replace HJ1 := Lib.hid (HJ1.out.below hb)
  replace HJ2 := Lib.hid (HJ2.out.below hb)
  clear hb
  clear ehy00 ehy01 ehy02 ehy10 ehy11 ehy12 ehs0 fhs0 ehs1 fhs1 ehs2 fhs2
  have ehy00 := hy0_3.out.cell 0
  have ehy01 := hy0_3.out.cell 1
  have ehy02 := hy0_3.out.cell 2
  have ehy10 := hy1_3.out.cell 0
  have ehy11 := hy1_3.out.cell 1
  have ehy12 := hy1_3.out.cell 2
  have ehs0 := hs_3.out.cell 0
  have ehs1 := hs_3.out.cell 1
  have ehs2 := hs_3.out.cell 2
  have fhs0 := hs_3.out.free 0
  have fhs1 := hs_3.out.free 1
  have fhs2 := hs_3.out.free 2
  simp at ehy00 ehy01 ehy02 ehy10 ehy11 ehy12 ehs0 ehs1 ehs2
  clear hrc
  by_cases hc : rc = -1
  · have HC := Lib.hid hc
    have hq : (rc == -1) = true := by rw [HC.out]; rfl
    clear hc
    go_wp2_with fail
    clear ehy00 ehy01 ehy02 ehy10 ehy11 ehy12 ehs0 fhs0 ehs1 fhs1 ehs2 fhs2
    refine (impl_copyOfRat g2 A2 n2 c2 ys B2 m2 d2 fs _ HI2.out R2.out HJ2.out S2.out (by rw [HI2.out.1]; omega) (by rw [HJ2.out.1]; omega)).mono ?_
    rintro e wz ⟨s, r, v, dd, u, rfl, hq2, ⟨hl1, ho1⟩, ⟨hl2, ho2⟩, hap, hb⟩
    obtain ⟨e1, e2, e3⟩ := hq2
    have HQ : Hid (RatMinIs g1 xs es g2 ys fs s r dd) := by rw [e1, e2, e3]; exact min_second K1.out K2.out HRC.out HC.out
    have HAP := Lib.hid hap
    have hszl := BW_3.out.size
    have hs_4 := Lib.hid (hs_3.out.below hb hs_3.out.lt)
    have BW_4 := Lib.hid (BW_3.out.trans (hb.mono BW_3.out.size))
    clear hb
    clear hap e1 e2 e3
    obtain ⟨A9, c9, rfl⟩ := own_slice ho1
    obtain ⟨B9, d9, rfl⟩ := own_slice ho2
    obtain ⟨N9, hN9⟩ : ∃ N, N = r.length := ⟨_, rfl⟩
    obtain ⟨M9, hM9⟩ : ∃ N, N = dd.length := ⟨_, rfl⟩
    rw [← hN9] at hl1 ho1 HAP ⊢
    rw [← hM9] at hl2 ho2 HAP ⊢
    have HN := Lib.hid hN9.symm
    have HM := Lib.hid hM9.symm
    have HO := Lib.hid ho1
    have HU := Lib.hid ho2
    clear ho1 ho2 hN9 hM9
    have ehs0 := hs_4.out.cell 0
    have ehs1 := hs_4.out.cell 1
    have ehs2 := hs_4.out.cell 2
    have fhs0 := hs_4.out.free 0
    have fhs1 := hs_4.out.free 1
    have fhs2 := hs_4.out.free 2
    simp at ehs0 ehs1 ehs2
    go_wp2_with fail
    refine bodyPost_ret (v := .agg #[.bool s, .slice A9 N9 c9, .slice B9 M9 d9]) (by simp [results, Try.results93, ehs0, ehs1, ehs2, go_sem]) rfl ?_
    exact ratEnd_store hs_4.out (by omega) BW_4.out HQ.out HN.out HM.out (by omega) (by omega) HO.out (by omega) HU.out (by omega) HAP.out
  · have HC := Lib.hid hc
    have hq : (rc == -1) = false := by simpa using HC.out
    clear hc
    go_wp2_with fail
    clear ehy00 ehy01 ehy02 ehy10 ehy11 ehy12 ehs0 fhs0 ehs1 fhs1 ehs2 fhs2
    refine (impl_copyOfRat g1 A1 n1 c1 xs B1 m1 d1 es _ HI1.out R1.out HJ1.out S1.out (by rw [HI1.out.1]; omega) (by rw [HJ1.out.1]; omega)).mono ?_
    rintro e wz ⟨s, r, v, dd, u, rfl, hq2, ⟨hl1, ho1⟩, ⟨hl2, ho2⟩, hap, hb⟩
    obtain ⟨e1, e2, e3⟩ := hq2
    have HQ : Hid (RatMinIs g1 xs es g2 ys fs s r dd) := by rw [e1, e2, e3]; exact min_first K1.out K2.out HRC.out HC.out
    have HAP := Lib.hid hap
    have hszl := BW_3.out.size
    have hs_4 := Lib.hid (hs_3.out.below hb hs_3.out.lt)
    have BW_4 := Lib.hid (BW_3.out.trans (hb.mono BW_3.out.size))
    clear hb
    clear hap e1 e2 e3
    obtain ⟨A9, c9, rfl⟩ := own_slice ho1
    obtain ⟨B9, d9, rfl⟩ := own_slice ho2
    obtain ⟨N9, hN9⟩ : ∃ N, N = r.length := ⟨_, rfl⟩
    obtain ⟨M9, hM9⟩ : ∃ N, N = dd.length := ⟨_, rfl⟩
    rw [← hN9] at hl1 ho1 HAP ⊢
    rw [← hM9] at hl2 ho2 HAP ⊢
    have HN := Lib.hid hN9.symm
    have HM := Lib.hid hM9.symm
    have HO := Lib.hid ho1
    have HU := Lib.hid ho2
    clear ho1 ho2 hN9 hM9
    have ehs0 := hs_4.out.cell 0
    have ehs1 := hs_4.out.cell 1
    have ehs2 := hs_4.out.cell 2
    have fhs0 := hs_4.out.free 0
    have fhs1 := hs_4.out.free 1
    have fhs2 := hs_4.out.free 2
    simp at ehs0 ehs1 ehs2
    go_wp2_with fail
    refine bodyPost_ret (v := .agg #[.bool s, .slice A9 N9 c9, .slice B9 M9 d9]) (by simp [results, Try.results93, ehs0, ehs1, ehs2, go_sem]) rfl ?_
    exact ratEnd_store hs_4.out (by omega) BW_4.out HQ.out HN.out HM.out (by omega) (by omega) HO.out (by omega) HU.out (by omega) HAP.out
set_option maxHeartbeats 3200000 in
theorem impl_first_max (g1 : Bool) (A1 : Option Addr) (n1 c1 : Nat) (xs : List Int) (B1 : Option Addr) (m1 d1 : Nat) (es : List Int) (g2 : Bool) (A2 : Option Addr) (n2 c2 : Nat) (ys : List Int) (B2 : Option Addr) (m2 d2 : Nat) (fs : List Int) (w : World) (h1 : InI w A1 n1 xs) (r1 : Room A1 n1 c1) (k1 : InI w B1 m1 es) (s1 : Room B1 m1 d1) (h2 : InI w A2 n2 ys) (r2 : Room A2 n2 c2) (k2 : InI w B2 m2 fs) (s2 : Room B2 m2 d2) :
    Calls Try.prog 93 #[.agg #[.bool g1, .slice A1 n1 c1, .slice B1 m1 d1], .agg #[.bool g2, .slice A2 n2 c2, .slice B2 m2 d2], .int .i64 1] w fun e w' => RatEnd (RatMaxIs g1 xs es g2 ys fs) w w' e := by
  have hn1 := h1.2.1
  have hn2 := h2.2.1
  have hm1 := k1.2.1
  have hm2 := k2.2.1
  obtain ⟨W0, hW0⟩ : ∃ W, W = (((w.alloc (.cells #[.bool g1, .slice A1 n1 c1, .slice B1 m1 d1] 31)).alloc (.cells #[.bool g2, .slice A2 n2 c2, .slice B2 m2 d2] 31)).alloc (.cells #[.bool false, .slice none 0 0, .slice none 0 0] 31)) := ⟨_, rfl⟩
  have hy0_0 : Hid (Box W0 (w.heap.size) 31 #[.bool g1, .slice A1 n1 c1, .slice B1 m1 d1]) := by rw [hW0]; exact (((Box.at' (by simp)).alloc _).alloc _)
  have hy1_0 : Hid (Box W0 (w.heap.size + 1) 31 #[.bool g2, .slice A2 n2 c2, .slice B2 m2 d2]) := by rw [hW0]; exact ((Box.at' (by simp)).alloc _)
  have hs_0 : Hid (Box W0 (w.heap.size + 1 + 1) 31 #[.bool false, .slice none 0 0, .slice none 0 0]) := by rw [hW0]; exact (Box.at' (by simp))
  have BW_0 : Hid (Below w.heap.size w W0) := by rw [hW0]; exact ((((Below.refl w.heap.size w).alloc (by simp) _).alloc (by simp) _).alloc (by simp; omega) _)
  have hsz0 : w.heap.size + 1 + 1 + 1 ≤ W0.heap.size := by rw [hW0]; simp
  have HI1 := Lib.hid (h1.below BW_0.out)
  have HI2 := Lib.hid (h2.below BW_0.out)
  have HJ1 := Lib.hid (k1.below BW_0.out)
  have HJ2 := Lib.hid (k2.below BW_0.out)
  have R1 := Lib.hid r1
  have R2 := Lib.hid r2
  have S1 := Lib.hid s1
  have S2 := Lib.hid s2
  clear h1 h2 k1 k2 r1 r2 s1 s2
  go_enter Try.func93, Try.ntmps93
  go_wp2_with fail
  rw [← hW0]
  clear hW0
  refine (impl_ratOk' g1 A1 n1 c1 xs B1 m1 d1 es _ HI1.out HJ1.out).mono ?_
  rintro e wa ⟨⟨b, rfl, hi⟩, hb⟩
  have hy0_1 := Lib.hid (hy0_0.out.below hb hy0_0.out.lt)
  have hy1_1 := Lib.hid (hy1_0.out.below hb hy1_0.out.lt)
  have hs_1 := Lib.hid (hs_0.out.below hb hs_0.out.lt)
  have BW_1 := Lib.hid (BW_0.out.trans (hb.mono BW_0.out.size))
  replace HI1 := Lib.hid (HI1.out.below hb)
  replace HI2 := Lib.hid (HI2.out.below hb)
  replace HJ1 := Lib.hid (HJ1.out.below hb)
  replace HJ2 := Lib.hid (HJ2.out.below hb)
  clear hb
  have ehy00 := hy0_1.out.cell 0
  have ehy01 := hy0_1.out.cell 1
  have ehy02 := hy0_1.out.cell 2
  have ehy10 := hy1_1.out.cell 0
  have ehy11 := hy1_1.out.cell 1
  have ehy12 := hy1_1.out.cell 2
  have ehs0 := hs_1.out.cell 0
  have ehs1 := hs_1.out.cell 1
  have ehs2 := hs_1.out.cell 2
  have fhs0 := hs_1.out.free 0
  have fhs1 := hs_1.out.free 1
  have fhs2 := hs_1.out.free 2
  simp at ehy00 ehy01 ehy02 ehy10 ehy11 ehy12 ehs0 ehs1 ehs2
  cases b
  · have hno : ¬ (ROk g1 xs es ∧ ROk g2 ys fs) := fun h => by have := hi.2 h.1; cases this
    clear hi
    have HZ : Hid (RatMaxIs g1 xs es g2 ys fs false [] []) := pick_no hno
    go_wp2_with fail
    refine bodyPost_ret (v := .agg #[.bool false, .slice none 0 0, .slice none 0 0]) (by simp [results, Try.results93, ehs0, ehs1, ehs2, go_sem]) rfl ?_
    exact ratEnd_zero HZ.out (below_store3 BW_1.out (by omega) _ _ _)
  have K1 := Lib.hid (hi.1 rfl)
  clear hi
  go_wp2_with fail
  refine (impl_ratOk' g2 A2 n2 c2 ys B2 m2 d2 fs _ HI2.out HJ2.out).mono ?_
  rintro e wb ⟨⟨b, rfl, hi⟩, hb⟩
  have hy0_2 := Lib.hid (hy0_1.out.below hb hy0_1.out.lt)
  have hy1_2 := Lib.hid (hy1_1.out.below hb hy1_1.out.lt)
  have hs_2 := Lib.hid (hs_1.out.below hb hs_1.out.lt)
  have BW_2 := Lib.hid (BW_1.out.trans (hb.mono BW_1.out.size))
  replace HI1 := Lib.hid (HI1.out.below hb)
  replace HI2 := Lib.hid (HI2.out.below hb)
  replace HJ1 := Lib.hid (HJ1.out.below hb)
  replace HJ2 := Lib.hid (HJ2.out.below hb)
  clear hb
  clear ehy00 ehy01 ehy02 ehy10 ehy11 ehy12 ehs0 fhs0 ehs1 fhs1 ehs2 fhs2
  have ehy00 := hy0_2.out.cell 0
  have ehy01 := hy0_2.out.cell 1
  have ehy02 := hy0_2.out.cell 2
  have ehy10 := hy1_2.out.cell 0
  have ehy11 := hy1_2.out.cell 1
  have ehy12 := hy1_2.out.cell 2
  have ehs0 := hs_2.out.cell 0
  have ehs1 := hs_2.out.cell 1
  have ehs2 := hs_2.out.cell 2
  have fhs0 := hs_2.out.free 0
  have fhs1 := hs_2.out.free 1
  have fhs2 := hs_2.out.free 2
  simp at ehy00 ehy01 ehy02 ehy10 ehy11 ehy12 ehs0 ehs1 ehs2
  cases b
  · have hno : ¬ (ROk g1 xs es ∧ ROk g2 ys fs) := fun h => by have := hi.2 h.2; cases this
    clear hi
    have HZ : Hid (RatMaxIs g1 xs es g2 ys fs false [] []) := pick_no hno
    go_wp2_with fail
    refine bodyPost_ret (v := .agg #[.bool false, .slice none 0 0, .slice none 0 0]) (by simp [results, Try.results93, ehs0, ehs1, ehs2, go_sem]) rfl ?_
    exact ratEnd_zero HZ.out (below_store3 BW_2.out (by omega) _ _ _)
  have K2 := Lib.hid (hi.1 rfl)
  clear hi
  have hn1 : n1 ≤ 24 := by have := K1.out.2.2.2.2.1; rwa [HI1.out.1] at this
  have hn2 : n2 ≤ 24 := by have := K2.out.2.2.2.2.1; rwa [HI2.out.1] at this
  have hm1 : m1 ≤ 24 := by have := K1.out.2.2.2.2.2; rwa [HJ1.out.1] at this
  have hm2 : m2 ≤ 24 := by have := K2.out.2.2.2.2.2; rwa [HJ2.out.1] at this
  go_wp2_with fail
  refine (impl_ratCmp0 g2 A2 n2 c2 ys B2 m2 d2 fs g1 A1 n1 c1 xs B1 m1 d1 es _ HI2.out R2.out HJ2.out S2.out HI1.out R1.out HJ1.out S1.out).mono ?_
  rintro e wc ⟨rc, rfl, hrc, hb⟩
  have HRC := Lib.hid (cmp_is K2.out K1.out hrc)
  have hy0_3 := Lib.hid (hy0_2.out.below hb hy0_2.out.lt)
  have hy1_3 := Lib.hid (hy1_2.out.below hb hy1_2.out.lt)
  have hs_3 := Lib.hid (hs_2.out.below hb hs_2.out.lt)
  have BW_3 := Lib.hid (BW_2.out.trans (hb.mono BW_2.out.size))
  replace HI1 := Lib.hid (HI1.out.below hb)
  replace HI2 := Lib.hid (HI2.out.below hb)
  replace HJ1 := Lib.hid (HJ1.out.below hb)
  replace HJ2 := Lib.hid (HJ2.out.below hb)
  clear hb
  clear ehy00 ehy01 ehy02 ehy10 ehy11 ehy12 ehs0 fhs0 ehs1 fhs1 ehs2 fhs2
  have ehy00 := hy0_3.out.cell 0
  have ehy01 := hy0_3.out.cell 1
  have ehy02 := hy0_3.out.cell 2
  have ehy10 := hy1_3.out.cell 0
  have ehy11 := hy1_3.out.cell 1
  have ehy12 := hy1_3.out.cell 2
  have ehs0 := hs_3.out.cell 0
  have ehs1 := hs_3.out.cell 1
  have ehs2 := hs_3.out.cell 2
  have fhs0 := hs_3.out.free 0
  have fhs1 := hs_3.out.free 1
  have fhs2 := hs_3.out.free 2
  simp at ehy00 ehy01 ehy02 ehy10 ehy11 ehy12 ehs0 ehs1 ehs2
  clear hrc
  by_cases hc : rc = 1
  · have HC := Lib.hid hc
    have hq : (rc == 1) = true := by rw [HC.out]; rfl
    clear hc
    go_wp2_with fail
    clear ehy00 ehy01 ehy02 ehy10 ehy11 ehy12 ehs0 fhs0 ehs1 fhs1 ehs2 fhs2
    refine (impl_copyOfRat g2 A2 n2 c2 ys B2 m2 d2 fs _ HI2.out R2.out HJ2.out S2.out (by rw [HI2.out.1]; omega) (by rw [HJ2.out.1]; omega)).mono ?_
    rintro e wz ⟨s, r, v, dd, u, rfl, hq2, ⟨hl1, ho1⟩, ⟨hl2, ho2⟩, hap, hb⟩
    obtain ⟨e1, e2, e3⟩ := hq2
    have HQ : Hid (RatMaxIs g1 xs es g2 ys fs s r dd) := by rw [e1, e2, e3]; exact max_second K1.out K2.out HRC.out HC.out
    have HAP := Lib.hid hap
    have hszl := BW_3.out.size
    have hs_4 := Lib.hid (hs_3.out.below hb hs_3.out.lt)
    have BW_4 := Lib.hid (BW_3.out.trans (hb.mono BW_3.out.size))
    clear hb
    clear hap e1 e2 e3
    obtain ⟨A9, c9, rfl⟩ := own_slice ho1
    obtain ⟨B9, d9, rfl⟩ := own_slice ho2
    obtain ⟨N9, hN9⟩ : ∃ N, N = r.length := ⟨_, rfl⟩
    obtain ⟨M9, hM9⟩ : ∃ N, N = dd.length := ⟨_, rfl⟩
    rw [← hN9] at hl1 ho1 HAP ⊢
    rw [← hM9] at hl2 ho2 HAP ⊢
    have HN := Lib.hid hN9.symm
    have HM := Lib.hid hM9.symm
    have HO := Lib.hid ho1
    have HU := Lib.hid ho2
    clear ho1 ho2 hN9 hM9
    have ehs0 := hs_4.out.cell 0
    have ehs1 := hs_4.out.cell 1
    have ehs2 := hs_4.out.cell 2
    have fhs0 := hs_4.out.free 0
    have fhs1 := hs_4.out.free 1
    have fhs2 := hs_4.out.free 2
    simp at ehs0 ehs1 ehs2
    go_wp2_with fail
    refine bodyPost_ret (v := .agg #[.bool s, .slice A9 N9 c9, .slice B9 M9 d9]) (by simp [results, Try.results93, ehs0, ehs1, ehs2, go_sem]) rfl ?_
    exact ratEnd_store hs_4.out (by omega) BW_4.out HQ.out HN.out HM.out (by omega) (by omega) HO.out (by omega) HU.out (by omega) HAP.out
  · have HC := Lib.hid hc
    have hq : (rc == 1) = false := by simpa using HC.out
    clear hc
    go_wp2_with fail
    clear ehy00 ehy01 ehy02 ehy10 ehy11 ehy12 ehs0 fhs0 ehs1 fhs1 ehs2 fhs2
    refine (impl_copyOfRat g1 A1 n1 c1 xs B1 m1 d1 es _ HI1.out R1.out HJ1.out S1.out (by rw [HI1.out.1]; omega) (by rw [HJ1.out.1]; omega)).mono ?_
    rintro e wz ⟨s, r, v, dd, u, rfl, hq2, ⟨hl1, ho1⟩, ⟨hl2, ho2⟩, hap, hb⟩
    obtain ⟨e1, e2, e3⟩ := hq2
    have HQ : Hid (RatMaxIs g1 xs es g2 ys fs s r dd) := by rw [e1, e2, e3]; exact max_first K1.out K2.out HRC.out HC.out
    have HAP := Lib.hid hap
    have hszl := BW_3.out.size
    have hs_4 := Lib.hid (hs_3.out.below hb hs_3.out.lt)
    have BW_4 := Lib.hid (BW_3.out.trans (hb.mono BW_3.out.size))
    clear hb
    clear hap e1 e2 e3
    obtain ⟨A9, c9, rfl⟩ := own_slice ho1
    obtain ⟨B9, d9, rfl⟩ := own_slice ho2
    obtain ⟨N9, hN9⟩ : ∃ N, N = r.length := ⟨_, rfl⟩
    obtain ⟨M9, hM9⟩ : ∃ N, N = dd.length := ⟨_, rfl⟩
    rw [← hN9] at hl1 ho1 HAP ⊢
    rw [← hM9] at hl2 ho2 HAP ⊢
    have HN := Lib.hid hN9.symm
    have HM := Lib.hid hM9.symm
    have HO := Lib.hid ho1
    have HU := Lib.hid ho2
    clear ho1 ho2 hN9 hM9
    have ehs0 := hs_4.out.cell 0
    have ehs1 := hs_4.out.cell 1
    have ehs2 := hs_4.out.cell 2
    have fhs0 := hs_4.out.free 0
    have fhs1 := hs_4.out.free 1
    have fhs2 := hs_4.out.free 2
    simp at ehs0 ehs1 ehs2
    go_wp2_with fail
    refine bodyPost_ret (v := .agg #[.bool s, .slice A9 N9 c9, .slice B9 M9 d9]) (by simp [results, Try.results93, ehs0, ehs1, ehs2, go_sem]) rfl ?_
    exact ratEnd_store hs_4.out (by omega) BW_4.out HQ.out HN.out HM.out (by omega) (by omega) HO.out (by omega) HU.out (by omega) HAP.out
set_option maxHeartbeats 3200000 in
theorem impl_ratMin0 (g1 : Bool) (A1 : Option Addr) (n1 c1 : Nat) (xs : List Int) (B1 : Option Addr) (m1 d1 : Nat) (es : List Int) (g2 : Bool) (A2 : Option Addr) (n2 c2 : Nat) (ys : List Int) (B2 : Option Addr) (m2 d2 : Nat) (fs : List Int) (w : World) (h1 : InI w A1 n1 xs) (r1 : Room A1 n1 c1) (k1 : InI w B1 m1 es) (s1 : Room B1 m1 d1) (h2 : InI w A2 n2 ys) (r2 : Room A2 n2 c2) (k2 : InI w B2 m2 fs) (s2 : Room B2 m2 d2) :
    Calls Try.prog 52 #[.agg #[.bool g1, .slice A1 n1 c1, .slice B1 m1 d1], .agg #[.bool g2, .slice A2 n2 c2, .slice B2 m2 d2]] w fun e w' => RatEnd (RatMinIs g1 xs es g2 ys fs) w w' e := by
  have hn1 := h1.2.1
  have hn2 := h2.2.1
  have hm1 := k1.2.1
  have hm2 := k2.2.1
  obtain ⟨W0, hW0⟩ : ∃ W, W = (((w.alloc (.cells #[.bool g1, .slice A1 n1 c1, .slice B1 m1 d1] 31)).alloc (.cells #[.bool g2, .slice A2 n2 c2, .slice B2 m2 d2] 31)).alloc (.cells #[.bool false, .slice none 0 0, .slice none 0 0] 31)) := ⟨_, rfl⟩
  have hy0_0 : Hid (Box W0 (w.heap.size) 31 #[.bool g1, .slice A1 n1 c1, .slice B1 m1 d1]) := by rw [hW0]; exact (((Box.at' (by simp)).alloc _).alloc _)
  have hy1_0 : Hid (Box W0 (w.heap.size + 1) 31 #[.bool g2, .slice A2 n2 c2, .slice B2 m2 d2]) := by rw [hW0]; exact ((Box.at' (by simp)).alloc _)
  have hs_0 : Hid (Box W0 (w.heap.size + 1 + 1) 31 #[.bool false, .slice none 0 0, .slice none 0 0]) := by rw [hW0]; exact (Box.at' (by simp))
  have BW_0 : Hid (Below w.heap.size w W0) := by rw [hW0]; exact ((((Below.refl w.heap.size w).alloc (by simp) _).alloc (by simp) _).alloc (by simp; omega) _)
  have hsz0 : w.heap.size + 1 + 1 + 1 ≤ W0.heap.size := by rw [hW0]; simp
  have HI1 := Lib.hid (h1.below BW_0.out)
  have HI2 := Lib.hid (h2.below BW_0.out)
  have HJ1 := Lib.hid (k1.below BW_0.out)
  have HJ2 := Lib.hid (k2.below BW_0.out)
  have R1 := Lib.hid r1
  have R2 := Lib.hid r2
  have S1 := Lib.hid s1
  have S2 := Lib.hid s2
  clear h1 h2 k1 k2 r1 r2 s1 s2
  go_enter Try.func52, Try.ntmps52
  go_wp2_with fail
  rw [← hW0]
  clear hW0
  refine (impl_first_min g1 A1 n1 c1 xs B1 m1 d1 es g2 A2 n2 c2 ys B2 m2 d2 fs _ HI1.out R1.out HJ1.out S1.out HI2.out R2.out HJ2.out S2.out).mono ?_
  rintro e wz ⟨s, r, v, dd, u, rfl, hq, ⟨hl1, ho1⟩, ⟨hl2, ho2⟩, hap, hb⟩
  have HQ := Lib.hid hq
  have HAP := Lib.hid hap
  have hszl := BW_0.out.size
  have hs_1 := Lib.hid (hs_0.out.below hb hs_0.out.lt)
  have BW_1 := Lib.hid (BW_0.out.trans (hb.mono BW_0.out.size))
  clear hb
  clear hq hap
  obtain ⟨A9, c9, rfl⟩ := own_slice ho1
  obtain ⟨B9, d9, rfl⟩ := own_slice ho2
  obtain ⟨N9, hN9⟩ : ∃ N, N = r.length := ⟨_, rfl⟩
  obtain ⟨M9, hM9⟩ : ∃ N, N = dd.length := ⟨_, rfl⟩
  rw [← hN9] at hl1 ho1 HAP ⊢
  rw [← hM9] at hl2 ho2 HAP ⊢
  have HN := Lib.hid hN9.symm
  have HM := Lib.hid hM9.symm
  have HO := Lib.hid ho1
  have HU := Lib.hid ho2
  clear ho1 ho2 hN9 hM9
  have ehs0 := hs_1.out.cell 0
  have ehs1 := hs_1.out.cell 1
  have ehs2 := hs_1.out.cell 2
  have fhs0 := hs_1.out.free 0
  have fhs1 := hs_1.out.free 1
  have fhs2 := hs_1.out.free 2
  simp at ehs0 ehs1 ehs2
  go_wp2_with fail
  refine bodyPost_ret (v := .agg #[.bool s, .slice A9 N9 c9, .slice B9 M9 d9]) (by simp [results, Try.results52, ehs0, ehs1, ehs2, go_sem]) rfl ?_
  exact ratEnd_store hs_1.out (by omega) BW_1.out HQ.out HN.out HM.out (by omega) (by omega) HO.out (by omega) HU.out (by omega) HAP.out
theorem impl_ratMin (g1 : Bool) (A1 : Option Addr) (n1 c1 : Nat) (xs : List Int) (B1 : Option Addr) (m1 d1 : Nat) (es : List Int) (g2 : Bool) (A2 : Option Addr) (n2 c2 : Nat) (ys : List Int) (B2 : Option Addr) (m2 d2 : Nat) (fs : List Int) (w : World) (h1 : InI w A1 n1 xs) (r1 : Room A1 n1 c1) (k1 : InI w B1 m1 es) (s1 : Room B1 m1 d1) (h2 : InI w A2 n2 ys) (r2 : Room A2 n2 c2) (k2 : InI w B2 m2 fs) (s2 : Room B2 m2 d2) :
    Calls Try.prog 52 #[.agg #[.bool g1, .slice A1 n1 c1, .slice B1 m1 d1], .agg #[.bool g2, .slice A2 n2 c2, .slice B2 m2 d2]] w fun e w' => ∃ g r v d u, e = .returned (.agg #[.bool g, v, u]) ∧ RatMinIs g1 xs es g2 ys fs g r d ∧ ResI w w' v r ∧ ResI w w' u d ∧ Apart u v ∧ Below w.heap.size w w' :=
  (impl_ratMin0 g1 A1 n1 c1 xs B1 m1 d1 es g2 A2 n2 c2 ys B2 m2 d2 fs w h1 r1 k1 s1 h2 r2 k2 s2).mono fun _ _ h => h
set_option maxHeartbeats 3200000 in
theorem impl_ratMax0 (g1 : Bool) (A1 : Option Addr) (n1 c1 : Nat) (xs : List Int) (B1 : Option Addr) (m1 d1 : Nat) (es : List Int) (g2 : Bool) (A2 : Option Addr) (n2 c2 : Nat) (ys : List Int) (B2 : Option Addr) (m2 d2 : Nat) (fs : List Int) (w : World) (h1 : InI w A1 n1 xs) (r1 : Room A1 n1 c1) (k1 : InI w B1 m1 es) (s1 : Room B1 m1 d1) (h2 : InI w A2 n2 ys) (r2 : Room A2 n2 c2) (k2 : InI w B2 m2 fs) (s2 : Room B2 m2 d2) :
    Calls Try.prog 54 #[.agg #[.bool g1, .slice A1 n1 c1, .slice B1 m1 d1], .agg #[.bool g2, .slice A2 n2 c2, .slice B2 m2 d2]] w fun e w' => RatEnd (RatMaxIs g1 xs es g2 ys fs) w w' e := by
  have hn1 := h1.2.1
  have hn2 := h2.2.1
  have hm1 := k1.2.1
  have hm2 := k2.2.1
  obtain ⟨W0, hW0⟩ : ∃ W, W = (((w.alloc (.cells #[.bool g1, .slice A1 n1 c1, .slice B1 m1 d1] 31)).alloc (.cells #[.bool g2, .slice A2 n2 c2, .slice B2 m2 d2] 31)).alloc (.cells #[.bool false, .slice none 0 0, .slice none 0 0] 31)) := ⟨_, rfl⟩
  have hy0_0 : Hid (Box W0 (w.heap.size) 31 #[.bool g1, .slice A1 n1 c1, .slice B1 m1 d1]) := by rw [hW0]; exact (((Box.at' (by simp)).alloc _).alloc _)
  have hy1_0 : Hid (Box W0 (w.heap.size + 1) 31 #[.bool g2, .slice A2 n2 c2, .slice B2 m2 d2]) := by rw [hW0]; exact ((Box.at' (by simp)).alloc _)
  have hs_0 : Hid (Box W0 (w.heap.size + 1 + 1) 31 #[.bool false, .slice none 0 0, .slice none 0 0]) := by rw [hW0]; exact (Box.at' (by simp))
  have BW_0 : Hid (Below w.heap.size w W0) := by rw [hW0]; exact ((((Below.refl w.heap.size w).alloc (by simp) _).alloc (by simp) _).alloc (by simp; omega) _)
  have hsz0 : w.heap.size + 1 + 1 + 1 ≤ W0.heap.size := by rw [hW0]; simp
  have HI1 := Lib.hid (h1.below BW_0.out)
  have HI2 := Lib.hid (h2.below BW_0.out)
  have HJ1 := Lib.hid (k1.below BW_0.out)
  have HJ2 := Lib.hid (k2.below BW_0.out)
  have R1 := Lib.hid r1
  have R2 := Lib.hid r2
  have S1 := Lib.hid s1
  have S2 := Lib.hid s2
  clear h1 h2 k1 k2 r1 r2 s1 s2
  go_enter Try.func54, Try.ntmps54
  go_wp2_with fail
  rw [← hW0]
  clear hW0
  refine (impl_first_max g1 A1 n1 c1 xs B1 m1 d1 es g2 A2 n2 c2 ys B2 m2 d2 fs _ HI1.out R1.out HJ1.out S1.out HI2.out R2.out HJ2.out S2.out).mono ?_
  rintro e wz ⟨s, r, v, dd, u, rfl, hq, ⟨hl1, ho1⟩, ⟨hl2, ho2⟩, hap, hb⟩
  have HQ := Lib.hid hq
  have HAP := Lib.hid hap
  have hszl := BW_0.out.size
  have hs_1 := Lib.hid (hs_0.out.below hb hs_0.out.lt)
  have BW_1 := Lib.hid (BW_0.out.trans (hb.mono BW_0.out.size))
  clear hb
  clear hq hap
  obtain ⟨A9, c9, rfl⟩ := own_slice ho1
  obtain ⟨B9, d9, rfl⟩ := own_slice ho2
  obtain ⟨N9, hN9⟩ : ∃ N, N = r.length := ⟨_, rfl⟩
  obtain ⟨M9, hM9⟩ : ∃ N, N = dd.length := ⟨_, rfl⟩
  rw [← hN9] at hl1 ho1 HAP ⊢
  rw [← hM9] at hl2 ho2 HAP ⊢
  have HN := Lib.hid hN9.symm
  have HM := Lib.hid hM9.symm
  have HO := Lib.hid ho1
  have HU := Lib.hid ho2
  clear ho1 ho2 hN9 hM9
  have ehs0 := hs_1.out.cell 0
  have ehs1 := hs_1.out.cell 1
  have ehs2 := hs_1.out.cell 2
  have fhs0 := hs_1.out.free 0
  have fhs1 := hs_1.out.free 1
  have fhs2 := hs_1.out.free 2
  simp at ehs0 ehs1 ehs2
  go_wp2_with fail
  refine bodyPost_ret (v := .agg #[.bool s, .slice A9 N9 c9, .slice B9 M9 d9]) (by simp [results, Try.results54, ehs0, ehs1, ehs2, go_sem]) rfl ?_
  exact ratEnd_store hs_1.out (by omega) BW_1.out HQ.out HN.out HM.out (by omega) (by omega) HO.out (by omega) HU.out (by omega) HAP.out
theorem impl_ratMax (g1 : Bool) (A1 : Option Addr) (n1 c1 : Nat) (xs : List Int) (B1 : Option Addr) (m1 d1 : Nat) (es : List Int) (g2 : Bool) (A2 : Option Addr) (n2 c2 : Nat) (ys : List Int) (B2 : Option Addr) (m2 d2 : Nat) (fs : List Int) (w : World) (h1 : InI w A1 n1 xs) (r1 : Room A1 n1 c1) (k1 : InI w B1 m1 es) (s1 : Room B1 m1 d1) (h2 : InI w A2 n2 ys) (r2 : Room A2 n2 c2) (k2 : InI w B2 m2 fs) (s2 : Room B2 m2 d2) :
    Calls Try.prog 54 #[.agg #[.bool g1, .slice A1 n1 c1, .slice B1 m1 d1], .agg #[.bool g2, .slice A2 n2 c2, .slice B2 m2 d2]] w fun e w' => ∃ g r v d u, e = .returned (.agg #[.bool g, v, u]) ∧ RatMaxIs g1 xs es g2 ys fs g r d ∧ ResI w w' v r ∧ ResI w w' u d ∧ Apart u v ∧ Below w.heap.size w w' :=
  (impl_ratMax0 g1 A1 n1 c1 xs B1 m1 d1 es g2 A2 n2 c2 ys B2 m2 d2 fs w h1 r1 k1 s1 h2 r2 k2 s2).mono fun _ _ h => h
end Go.Proofs.Ytbfanjalinkmhaa
