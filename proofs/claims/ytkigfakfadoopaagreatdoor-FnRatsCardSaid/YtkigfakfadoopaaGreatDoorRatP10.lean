/- Contract of ParseRat, by the program: the walk. -/
import Derived.Test.YtkigfakfadoopaaGreatDoorRatP9
import Derived.Test.YtkigfakfadoopaaGreatDoorBigP2
import Derived.Deep.DeepCutAuto
namespace Go.Proofs.YtkigfakfadoopaaGreatDoor
set_option maxRecDepth 100000
open Go.RowKit Go.Deep

theorem hFar3 {w : World} {g G : Nat} {t : TypeId} {cs : Array Value} (h : Hid (Box w g t cs)) (hne : Hid (g ≠ G)) (u0 u1 u2 : Value) : Hid (Box (((w.setCell ⟨G, 0, none⟩ u0).setCell ⟨G, 1, none⟩ u1).setCell ⟨G, 2, none⟩ u2) g t cs) :=
  Lib.hid (((h.out.far (p := ⟨G, 0, none⟩) hne.out u0).far (p := ⟨G, 1, none⟩) hne.out u1).far (p := ⟨G, 2, none⟩) hne.out u2)
theorem big_ok_bal {s : ByteArray} {g : Bool} {r : List Int} (h : ParseBigIntIs s g r true) : BOk g r := (big_of_parse h).1
set_option maxHeartbeats 6400000 in
theorem impl_parseRat0 (s : ByteArray) (w : World) (hs : s.size ≤ 1048576) (hm : MaxAt w) :
    Calls Tryz.prog 7 #[.string s] w fun e w' => PRatEnd s w w' e := by
  obtain ⟨W0, hW0⟩ : ∃ W, W = (w.alloc (.cells #[.bool false, .slice none 0 0, .slice none 0 0] 27)) := ⟨_, rfl⟩
  have hs_0 : Hid (Box W0 (w.heap.size) 27 #[.bool false, .slice none 0 0, .slice none 0 0]) := by rw [hW0]; exact (Box.at' (by simp))
  have BW_0 : Hid (Below w.heap.size w W0) := by rw [hW0]; exact ((Below.refl w.heap.size w).alloc (by simp) _)
  have hsz0 : w.heap.size + 1 ≤ W0.heap.size := by rw [hW0]; simp
  have HM := Lib.hid (hm.below BW_0.out hm.pos)
  clear hm
  obtain ⟨nt, hnt⟩ : ∃ q, q = numT s := ⟨_, rfl⟩
  obtain ⟨dt, hdt⟩ : ∃ q, q = denT s := ⟨_, rfl⟩
  have hns : nt.size ≤ 1048576 := by rw [hnt]; exact Nat.le_trans (numT_size s) hs
  have hds : dt.size ≤ 1048576 := by rw [hdt]; exact denT_size' hs
  have HNT := Lib.hid hnt
  have HDT := Lib.hid hdt
  clear hnt hdt
  go_enter Tryz.func7, Tryz.ntmps7
  go_wp2_with fail
  rw [← hW0]
  clear hW0
  refine (impl_keyOfText s _ hs HM.out).mono ?_
  rintro e w1 ⟨b, rfl, hb1, hb⟩
  rw [← HNT.out, ← HDT.out]
  rw [← HNT.out, ← HDT.out] at hb1
  have HK := Lib.hid hb1
  clear hb1
  have hs_1 := Lib.hid (hs_0.out.below hb hs_0.out.lt)
  have BW_1 := Lib.hid (BW_0.out.trans (hb.mono BW_0.out.size))
  clear hb
  obtain ⟨W2, hW2⟩ : ∃ W, W = w1.alloc (.cells #[.string nt, .string dt] 45) := ⟨_, rfl⟩
  have hk_2 : Hid (Box W2 w1.heap.size 45 #[.string nt, .string dt]) := by rw [hW2]; exact Box.at' rfl
  have hs_2 : Hid (Box W2 w.heap.size 27 #[.bool false, .slice none 0 0, .slice none 0 0]) := by rw [hW2]; exact hs_1.out.alloc _
  have BW_2 : Hid (Below w.heap.size w W2) := by rw [hW2]; exact BW_1.out.alloc BW_1.out.size _
  cases b
  case false =>
    have ehs0 := hs_2.out.cell 0
    have ehs1 := hs_2.out.cell 1
    have ehs2 := hs_2.out.cell 2
    have fhs0 := hs_2.out.free 0
    have fhs1 := hs_2.out.free 1
    have fhs2 := hs_2.out.free 2
    simp at ehs0 ehs1 ehs2
    rw [hW2] at ehs0 ehs1 ehs2 fhs0 fhs1 fhs2
    have hno : Hid (¬ ∃ g l d, RatParsed s g l d) := fun ⟨g', l', d', h⟩ => by
      have h1 := HK.out.2 (by rw [HNT.out, HDT.out]; exact h.2.2.2)
      cases h1
    go_wp2_with fail
    rw [← hW2]
    rw [← hW2] at ehs0 ehs1 ehs2 fhs0 fhs1 fhs2
    refine bodyPost_ret (v := .tuple #[.agg #[.bool false, .slice none 0 0, .slice none 0 0], .bool false]) (by simp [results, Tryz.results7, ehs0, ehs1, ehs2, go_sem]) rfl ?_
    exact pr_no hno.out (below_store3 BW_2.out (by omega) _ _ _)
  have HKT : Hid (keyText (numT s) (denT s) = s) := by rw [← HNT.out, ← HDT.out]; exact HK.out.1 rfl
  clear HK
  have hz2 : w1.heap.size < W2.heap.size := hk_2.out.lt
  have hz1 : w.heap.size < w1.heap.size := hs_1.out.lt
  go_upto_region 4 with fail
  rw [← hW2]
  clear hW2
  go_cut [6, 7] (fun s6 s7 wx => ∃ (gb : Nat) (x y : Int) (q : Bool), s6 = .pointer (some ⟨gb, 0, none⟩) ∧ s7 = .bool q ∧ W2.heap.size ≤ gb ∧ Hid (LookIs nt dt x y q) ∧ Hid (Box wx gb 48 #[.int .i64 x, .int .i64 y]) ∧ Hid (Box wx w1.heap.size 45 #[.string nt, .string dt]) ∧ Hid (Box wx w.heap.size 27 #[.bool false, .slice none 0 0, .slice none 0 0]) ∧ Hid (Below w.heap.size w wx))
  case first =>
    have hk_3 := Lib.hid hk_2.out.drew
    have hs_3 := Lib.hid hs_2.out.drew
    have BW_3 := Lib.hid BW_2.out.drew
    have cvk0 : Hid ((#[.string nt, .string dt] : Array Value)[0]? = some (.string nt)) := rfl
    have cvk1 : Hid ((#[.string nt, .string dt] : Array Value)[1]? = some (.string dt)) := rfl
    go_region_held3 (fun w' => w'.cell? ⟨w1.heap.size, 0, none⟩ = some (.string nt) ∧ w'.cell? ⟨w1.heap.size, 1, none⟩ = some (.string dt)) (first | with_reducible exact ⟨cellS hk_4 cvk0, cellS hk_4 cvk1⟩ | with_reducible exact ⟨cellS (hAlloc hk_4 _) cvk0, cellS (hAlloc hk_4 _) cvk1⟩ | with_reducible exact ⟨cellS (hFar (hFar hk_4 (by dsimp only; omega) _) (by dsimp only; omega) _) cvk0, cellS (hFar (hFar hk_4 (by dsimp only; omega) _) (by dsimp only; omega) _) cvk1⟩ | with_reducible exact ⟨cellS hk_3 cvk0, cellS hk_3 cvk1⟩ | with_reducible exact ⟨cellS (hAlloc hk_3 _) cvk0, cellS (hAlloc hk_3 _) cvk1⟩ | with_reducible exact ⟨cellS (hDrew (hAlloc hk_2 _)) cvk0, cellS (hDrew (hAlloc hk_2 _)) cvk1⟩) (first | (go_at_call 23; refine (impl_smallRats _).mono ?_; rintro e w3 ⟨bm, rfl, hT⟩; first | (have hb3 : Below W2.drew.heap.size W2.drew w3 := hT.2.1; have hk_4 := Lib.hid (hk_3.out.below hb3 hk_3.out.lt); have hs_4 := Lib.hid (hs_3.out.below hb3 hs_3.out.lt); have BW_4 := Lib.hid (BW_3.out.trans (hb3.mono BW_3.out.size)); have hz3 : W2.heap.size ≤ w3.heap.size := hb3.size; obtain ⟨x, y, q, hrun, hlk⟩ := look_small hT hns hds; obtain ⟨x', y', q', hrun', hlk'⟩ := look_small (hT.below ((Below.refl _ _).alloc (Nat.le_refl _) (.cells #[.int .i64 0, .int .i64 0] 48))) hns hds; clear hT hb3) | (have hb3 : Below (W2.alloc (.cells #[.int .i64 0, .int .i64 0] 48)).drew.heap.size (W2.alloc (.cells #[.int .i64 0, .int .i64 0] 48)).drew w3 := hT.2.1; have hk_4 := Lib.hid ((hDrew (hAlloc hk_2 (.cells #[.int .i64 0, .int .i64 0] 48))).out.below hb3 (hDrew (hAlloc hk_2 (.cells #[.int .i64 0, .int .i64 0] 48))).out.lt); have hs_4 := Lib.hid ((hDrew (hAlloc hs_2 (.cells #[.int .i64 0, .int .i64 0] 48))).out.below hb3 (hDrew (hAlloc hs_2 (.cells #[.int .i64 0, .int .i64 0] 48))).out.lt); have BW_4 := Lib.hid ((BW_2.out.alloc BW_2.out.size (.cells #[.int .i64 0, .int .i64 0] 48)).drew.trans (hb3.mono (by have := BW_2.out.size; show w.heap.size ≤ (W2.alloc _).heap.size; simp; omega))); have NN_4 := Lib.hid ((Box.new W2 48 #[.int .i64 0, .int .i64 0]).drew.below hb3 (Box.new W2 48 #[.int .i64 0, .int .i64 0]).drew.lt); have hz3 : W2.heap.size ≤ w3.heap.size := Nat.le_trans (by show W2.heap.size ≤ (W2.alloc _).heap.size; simp) hb3.size; have eN0 := NN_4.out.cell 0; have eN1 := NN_4.out.cell 1; simp at eN0 eN1; have fN0 := NN_4.out.free 0; have fN1 := NN_4.out.free 1; obtain ⟨x, y, q, hrun, hlk⟩ := look_small hT hns hds; clear hT hb3)))
    all_goals
      go_wp2_with fail
      go_meet
      first
        | exact ⟨_, x, y, q, rfl, rfl, hz3, hlk, Box.new _ _ _, hk_4.out.alloc _, hs_4.out.alloc _, BW_4.out.alloc BW_4.out.size _⟩
        | exact ⟨_, x', y', q', rfl, rfl, hz3, hlk', Box.new _ _ _, hk_4.out.alloc _, hs_4.out.alloc _, BW_4.out.alloc BW_4.out.size _⟩
        | exact ⟨_, x, y, q, rfl, rfl, Nat.le_refl _, hlk, (NN_4.out.set_ 0 _).set_ 1 _, (hk_4.out.far (by dsimp only; omega) _).far (by dsimp only; omega) _, (hs_4.out.far (by dsimp only; omega) _).far (by dsimp only; omega) _, (BW_4.out.setCell (by dsimp only; omega) _).setCell (by dsimp only; omega) _⟩
  obtain ⟨gb, x, y, q, rfl, rfl, hgb, HLK, hx_5, hk_5, hs_5, BW_5⟩ := hcut
  obtain ⟨w5, rfl⟩ : ∃ q, q = wc := ⟨_, rfl⟩
  cases q
  case true =>
    have HSM : Hid (SmallIs nt dt x y) := HLK.out.1 rfl
    have hx0 := HLK.out.2.1
    have hy0 := HLK.out.2.2
    have hx_6 := Lib.hid hx_5.out.drew
    have hs_6 := Lib.hid hs_5.out.drew
    have BW_6 := Lib.hid BW_5.out.drew
    have cvx0 : Hid ((#[.int .i64 x, .int .i64 y] : Array Value)[0]? = some (.int .i64 x)) := rfl
    have cvx1 : Hid ((#[.int .i64 x, .int .i64 y] : Array Value)[1]? = some (.int .i64 y)) := rfl
    have HNE : Hid (gb ≠ w.heap.size) := by unfold Hid; omega
    go_wp2_with fail
    go_region_held3 (fun w' => w'.cell? ⟨gb, 0, none⟩ = some (.int .i64 x) ∧ w'.cell? ⟨gb, 1, none⟩ = some (.int .i64 y)) (first | with_reducible exact ⟨cellS (hFar3 hx_8 HNE _ _ _) cvx0, cellS (hFar3 hx_8 HNE _ _ _) cvx1⟩ | with_reducible exact ⟨cellS hx_8 cvx0, cellS hx_8 cvx1⟩ | with_reducible exact ⟨cellS hx_7 cvx0, cellS hx_7 cvx1⟩ | with_reducible exact ⟨cellS hx_6 cvx0, cellS hx_6 cvx1⟩) (first | (go_at_call 25; (with_reducible refine (impl_natOf y _ hy0).mono ?_); rintro e w8 ⟨d, u, rfl, hd, ⟨hl2, ho2⟩, hb⟩; have HD := Lib.hid hd; obtain ⟨B1, d1, rfl⟩ := own_slice ho2; have hx_8 := Lib.hid (hx_7.out.below hb hx_7.out.lt); have hs_8 := Lib.hid (hs_7.out.below hb hs_7.out.lt); have BW_8 := Lib.hid (BW_7.out.trans (hb.mono BW_7.out.size)); have HO8 := Lib.hid (own_below HO1.out hb); have HU := Lib.hid ho2; have HAP := Lib.hid (apart_older' HO1.out ho2); have hsz7 : w.heap.size ≤ w7.heap.size := BW_7.out.size; clear hd ho2 hb; have ehs0 := hs_8.out.cell 0; have fhs0 := hs_8.out.free 0; have ehs1 := hs_8.out.cell 1; have fhs1 := hs_8.out.free 1; have ehs2 := hs_8.out.cell 2; have fhs2 := hs_8.out.free 2; simp at ehs0 ehs1 ehs2) | (go_at_call 24; (with_reducible refine (impl_bigOf' x _ hx0).mono ?_); rintro e w7 ⟨g, l, v, rfl, hg, ⟨hl1, ho1⟩, hb⟩; have HG := Lib.hid hg; obtain ⟨A1, c1, rfl⟩ := own_slice ho1; have hx_7 := Lib.hid (hx_6.out.below hb hx_6.out.lt); have hs_7 := Lib.hid (hs_6.out.below hb hs_6.out.lt); have BW_7 := Lib.hid (BW_6.out.trans (hb.mono BW_6.out.size)); have HO1 := Lib.hid ho1; have hsz6 : w.heap.size ≤ w5.drew.heap.size := BW_6.out.size; clear hg ho1 hb))
    have HRP : Hid (RatParsed s g l d) := small_parsed (by rw [← HNT.out, ← HDT.out]; exact HSM.out) HKT.out HG.out HD.out
    go_wp2_with fail
    refine bodyPost_ret (v := .tuple #[.agg #[.bool g, .slice A1 l.length c1, .slice B1 d.length d1], .bool true]) (by simp [results, Tryz.results7, ehs0, ehs1, ehs2, go_sem]) rfl ?_
    exact pr_yes hs_8.out (Nat.le_refl _) BW_8.out HRP.out rfl rfl hl1 hl2 HO8.out hsz6 HU.out hsz7 HAP.out
  have HNP : Hid (∀ g l d, RatParsed s g l d → ParseBigIntIs nt g l true ∧ ParseNatIs dt d true ∧ ROk g l d) := fun g l d h => ⟨by rw [HNT.out]; exact h.1, by rw [HDT.out]; exact h.2.1, h.2.2.1⟩
  have HYP : Hid (∀ g l d, ParseBigIntIs nt g l true → ParseNatIs dt d true → ROk g l d → RatParsed s g l d) := fun g l d h1 h2 h3 => ⟨by rw [← HNT.out]; exact h1, by rw [← HDT.out]; exact h2, h3, HKT.out⟩
  clear HLK hx_5
  have ehk0 := hk_5.out.cell 0
  have ehk1 := hk_5.out.cell 1
  have fhk0 := hk_5.out.free 0
  have fhk1 := hk_5.out.free 1
  simp at ehk0 ehk1
  go_wp2_with fail
  clear ehk0 fhk0 ehk1 fhk1
  refine (impl_parseBigInt' nt _ hns).mono ?_
  rintro e w6 ⟨gn, ln, vn, bn, rfl, hq, ⟨hl, ho⟩, hb⟩
  have HQ := Lib.hid hq
  have HOK := Lib.hid (big_any_ok hq)
  clear hq
  have hs_6 := Lib.hid (hs_5.out.below hb hs_5.out.lt)
  have hk_6 := Lib.hid (hk_5.out.below hb hk_5.out.lt)
  have BW_6 := Lib.hid (BW_5.out.trans (hb.mono BW_5.out.size))
  clear hb
  obtain ⟨A1, c1, rfl⟩ := own_slice ho
  obtain ⟨N1, hN1⟩ : ∃ N, N = ln.length := ⟨_, rfl⟩
  rw [← hN1] at hl ho ⊢
  have HN1 := Lib.hid hN1
  have HO1 := Lib.hid ho
  clear ho hN1
  obtain ⟨W7, hW7⟩ : ∃ W, W = w6.alloc (.cells #[.bool gn, .slice A1 N1 c1] 25) := ⟨_, rfl⟩
  have hs_7 : Hid (Box W7 w.heap.size 27 #[.bool false, .slice none 0 0, .slice none 0 0]) := by rw [hW7]; exact hs_6.out.alloc _
  have hk_7 : Hid (Box W7 w1.heap.size 45 #[.string nt, .string dt]) := by rw [hW7]; exact hk_6.out.alloc _
  have hx_7 : Hid (Box W7 w6.heap.size 25 #[.bool gn, .slice A1 N1 c1]) := by rw [hW7]; exact Box.at' rfl
  have BW_7 : Hid (Below w.heap.size w W7) := by rw [hW7]; exact BW_6.out.alloc BW_6.out.size _
  have HO7 : Hid (W7.ownsRow w5.heap.size 3 1 (.slice A1 N1 c1) N1 (ln.map (.int .i64))) := by rw [hW7]; exact HO1.out.alloc _
  have ehk0 := hk_7.out.cell 0
  have ehk1 := hk_7.out.cell 1
  simp at ehk0 ehk1
  rw [hW7] at ehk0 ehk1
  go_wp2_with fail
  rw [← hW7]
  clear ehk0 ehk1 hW7
  refine (impl_parseNat' dt _ hds).mono ?_
  rintro e w8 ⟨ds, u, bf, rfl, hq, ⟨hl2, ho⟩, hb⟩
  have HQ2 := Lib.hid hq
  have HOK2 := Lib.hid (nat_any_ok hq)
  have hsz5 : w.heap.size ≤ w5.heap.size := BW_5.out.size
  have hsz7 : w.heap.size ≤ W7.heap.size := BW_7.out.size
  clear hq
  have HO7b := HO7
  have hs_8 := Lib.hid (hs_7.out.below hb hs_7.out.lt)
  have hx_8 := Lib.hid (hx_7.out.below hb hx_7.out.lt)
  have BW_8 := Lib.hid (BW_7.out.trans (hb.mono BW_7.out.size))
  replace HO7 := Lib.hid (own_below HO7.out hb)
  clear hb
  obtain ⟨B1, d1, rfl⟩ := own_slice ho
  obtain ⟨M1, hM1⟩ : ∃ N, N = ds.length := ⟨_, rfl⟩
  rw [← hM1] at hl2 ho ⊢
  have HM1 := Lib.hid hM1
  have HU := Lib.hid ho
  clear ho hM1
  have HAP := Lib.hid (apart_older' HO7b.out HU.out)
  have ehx0 := hx_8.out.cell 0
  have ehx1 := hx_8.out.cell 1
  simp at ehx0 ehx1
  obtain ⟨W9, hW9⟩ : ∃ W, W = w8.alloc (.cells #[.bool gn, .slice A1 N1 c1, .slice B1 M1 d1] 27) := ⟨_, rfl⟩
  have hs_9 : Hid (Box W9 w.heap.size 27 #[.bool false, .slice none 0 0, .slice none 0 0]) := by rw [hW9]; exact hs_8.out.alloc _
  have hy_9 : Hid (Box W9 w8.heap.size 27 #[.bool gn, .slice A1 N1 c1, .slice B1 M1 d1]) := by rw [hW9]; exact Box.at' rfl
  have BW_9 : Hid (Below w.heap.size w W9) := by rw [hW9]; exact BW_8.out.alloc BW_8.out.size _
  have HO9 : Hid (W9.ownsRow w5.heap.size 3 1 (.slice A1 N1 c1) N1 (ln.map (.int .i64))) := by rw [hW9]; exact HO7.out.alloc _
  have HU9 : Hid (W9.ownsRow W7.heap.size 3 1 (.slice B1 M1 d1) M1 (ds.map (.int .i64))) := by rw [hW9]; exact HU.out.alloc _
  cases bn
  case false =>
    have ehs0 := hs_9.out.cell 0
    have ehs1 := hs_9.out.cell 1
    have ehs2 := hs_9.out.cell 2
    have fhs0 := hs_9.out.free 0
    have fhs1 := hs_9.out.free 1
    have fhs2 := hs_9.out.free 2
    simp at ehs0 ehs1 ehs2
    rw [hW9] at ehs0 ehs1 ehs2 fhs0 fhs1 fhs2
    have hno : Hid (¬ ∃ g l d, RatParsed s g l d) := fun ⟨g', l', d', h⟩ => by cases (parseBigInt_unique HQ.out (HNP.out _ _ _ h).1).2.2
    go_wp2_with fail
    rw [← hW9]
    rw [← hW9] at ehs0 ehs1 ehs2 fhs0 fhs1 fhs2
    refine bodyPost_ret (v := .tuple #[.agg #[.bool false, .slice none 0 0, .slice none 0 0], .bool false]) (by simp [results, Tryz.results7, ehs0, ehs1, ehs2, go_sem]) rfl ?_
    exact pr_no hno.out (below_store3 BW_9.out (by omega) _ _ _)
  cases bf
  case false =>
    have ehs0 := hs_9.out.cell 0
    have ehs1 := hs_9.out.cell 1
    have ehs2 := hs_9.out.cell 2
    have fhs0 := hs_9.out.free 0
    have fhs1 := hs_9.out.free 1
    have fhs2 := hs_9.out.free 2
    simp at ehs0 ehs1 ehs2
    rw [hW9] at ehs0 ehs1 ehs2 fhs0 fhs1 fhs2
    have hno : Hid (¬ ∃ g l d, RatParsed s g l d) := fun ⟨g', l', d', h⟩ => by cases (parseNat_unique HQ2.out (HNP.out _ _ _ h).2.1).2
    go_wp2_with fail
    rw [← hW9]
    rw [← hW9] at ehs0 ehs1 ehs2 fhs0 fhs1 fhs2
    refine bodyPost_ret (v := .tuple #[.agg #[.bool false, .slice none 0 0, .slice none 0 0], .bool false]) (by simp [results, Tryz.results7, ehs0, ehs1, ehs2, go_sem]) rfl ?_
    exact pr_no hno.out (below_store3 BW_9.out (by omega) _ _ _)
  have HI : Hid (InI W9 A1 N1 ln) := by have h1 := HO9.out; have h2 := HN1.out; subst h2; exact in_own HOK.out h1
  have HJ : Hid (InI W9 B1 M1 ds) := by have h1 := HU9.out; have h2 := HM1.out; subst h2; exact in_own HOK2.out h1
  have ehy0 := hy_9.out.cell 0
  have ehy1 := hy_9.out.cell 1
  have ehy2 := hy_9.out.cell 2
  simp at ehy0 ehy1 ehy2
  rw [hW9] at ehy0 ehy1 ehy2
  go_wp2_with fail
  rw [← hW9]
  clear ehy0 ehy1 ehy2 hW9
  refine (impl_ratOk' gn A1 N1 c1 ln B1 M1 d1 ds _ HI.out HJ.out).mono ?_
  rintro e w10 ⟨⟨b, rfl, hi⟩, hb⟩
  have HI10 := Lib.hid hi
  clear hi
  have HO10 := Lib.hid (own_below HO9.out hb)
  have HU10 := Lib.hid (own_below HU9.out hb)
  have hs_10 := Lib.hid (hs_9.out.below hb hs_9.out.lt)
  have hy_10 := Lib.hid (hy_9.out.below hb hy_9.out.lt)
  have BW_10 := Lib.hid (BW_9.out.trans (hb.mono BW_9.out.size))
  clear hb
  cases b
  case false =>
    have ehs0 := hs_10.out.cell 0
    have ehs1 := hs_10.out.cell 1
    have ehs2 := hs_10.out.cell 2
    have fhs0 := hs_10.out.free 0
    have fhs1 := hs_10.out.free 1
    have fhs2 := hs_10.out.free 2
    simp at ehs0 ehs1 ehs2
    have hno : Hid (¬ ∃ g l d, RatParsed s g l d) := fun ⟨g', l', d', h⟩ => by
      obtain ⟨h1, h2, h3⟩ := HNP.out _ _ _ h
      obtain ⟨rfl, rfl, _⟩ := parseBigInt_unique h1 HQ.out
      obtain ⟨rfl, _⟩ := parseNat_unique h2 HQ2.out
      have h4 := HI10.out.2 h3
      cases h4
    go_wp2_with fail
    refine bodyPost_ret (v := .tuple #[.agg #[.bool false, .slice none 0 0, .slice none 0 0], .bool false]) (by simp [results, Tryz.results7, ehs0, ehs1, ehs2, go_sem]) rfl ?_
    exact pr_no hno.out (below_store3 BW_10.out (by omega) _ _ _)
  have HRP : Hid (RatParsed s gn ln ds) := HYP.out _ _ _ HQ.out HQ2.out (HI10.out.1 rfl)
  have ehs0 := hs_10.out.cell 0
  have ehs1 := hs_10.out.cell 1
  have ehs2 := hs_10.out.cell 2
  have fhs0 := hs_10.out.free 0
  have fhs1 := hs_10.out.free 1
  have fhs2 := hs_10.out.free 2
  have ehy0 := hy_10.out.cell 0
  have ehy1 := hy_10.out.cell 1
  have ehy2 := hy_10.out.cell 2
  simp at ehs0 ehs1 ehs2 ehy0 ehy1 ehy2
  go_wp2_with fail
  refine bodyPost_ret (v := .tuple #[.agg #[.bool gn, .slice A1 N1 c1, .slice B1 M1 d1], .bool true]) (by simp [results, Tryz.results7, ehs0, ehs1, ehs2, go_sem]) rfl ?_
  exact pr_yes hs_10.out (Nat.le_refl _) BW_10.out HRP.out HN1.out.symm HM1.out.symm hl hl2 HO10.out hsz5 HU10.out hsz7 HAP.out
theorem impl_parseRat (s : ByteArray) (w : World) (hs : s.size ≤ 1048576) (hm : MaxAt w) :
    Calls Tryz.prog 7 #[.string s] w fun e w' => ∃ g r v d u b, e = .returned (.tuple #[.agg #[.bool g, v, u], .bool b]) ∧ ParseRatIs s g r d b ∧ ResI w w' v r ∧ ResI w w' u d ∧ Apart u v ∧ Below w.heap.size w w' := (impl_parseRat0 s w hs hm).mono fun _ _ h => h
end Go.Proofs.YtkigfakfadoopaaGreatDoor
