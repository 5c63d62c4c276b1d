/- The program that searches for a dual, by the program: dual.search. -/
import Derived.Test.YtcmbfgaojlnjcaaFarI5
namespace Go.Proofs.Ytcmbfgaojlnjcaa
set_option maxRecDepth 100000
open Go.RowKit

/-- Another list in the place of C. -/
theorem PM.replC {w : World} {base g : Nat} {p k : Int} {A B C A' : Option Addr} {n c m d l e n' c' : Nat} {la lb lc la' : List Int} (h : PM base w g p k A n c la B m d lb C l e lc) (ho : w.ownsRow base 3 1 (.slice A' n' c') n' (la'.map (.int .i64))) (h1 : Apart (.slice A' n' c') (.slice A n c)) (h2 : Apart (.slice A' n' c') (.slice B m d)) :
    PM base (w.setCell ⟨g, 4, none⟩ (.slice A' n' c')) g p k A n c la B m d lb A' n' c' la' :=
  ⟨by simpa using h.box.set_ 4 (.slice A' n' c'), OwnP.boxSet ⟨h.own.1, h.own.2.1, ho, h.own.2.2.2.1, h1, h2⟩ h.box (by decide) 4 _⟩
set_option maxHeartbeats 12800000 in
theorem impl_dualSearch (P K : Nat) (A : Option Addr) (n c : Nat) (la : List Int) (B : Option Addr) (d : Nat) (lb : List Int) (C : Option Addr) (f : Nat) (lc : List Int) (w : World) (hA : InI w A n la) (h : InI w B P lb) (hC : InI w C K lc) (hl : n = P * K) (hP : P ≤ 9) (hK : K ≤ 16) (he : Ent la) (hnc : n ≤ c) :
    Calls Try.prog 121 #[.agg #[], .agg #[.int .i64 P, .int .i64 K, .slice A n c, .slice B P d, .slice C K f]] w fun e w' => ToPEnd K (2 * (P : Int) + (K : Int)) (frows K la P K).length (frows K la P K) K lc (P + P + K) (wneg lb ++ wneg (wneg lb) ++ List.replicate K 0) w w' e := by
  obtain ⟨j0, hj', hy0, hy1, hy2⟩ := info_parts Try.infoLP
  obtain ⟨W0, hW0⟩ : ∃ W, W = (((w.alloc (.cells #[] 73)).alloc (.cells #[.int .i64 P, .int .i64 K, .slice A n c, .slice B P d, .slice C K f] 102)).alloc (.cells #[.int .i64 0, .int .i64 0, .slice none 0 0, .slice none 0 0, .slice none 0 0] 26)) := ⟨_, rfl⟩
  have hp0_0 : Hid (Box W0 (w.heap.size + 1) 102 #[.int .i64 P, .int .i64 K, .slice A n c, .slice B P d, .slice C K f]) := by rw [hW0]; exact ((Box.at' (by simp)).alloc _)
  have hpr_0 : Hid (Box W0 (w.heap.size + 1 + 1) 26 #[.int .i64 0, .int .i64 0, .slice none 0 0, .slice none 0 0, .slice none 0 0]) := by rw [hW0]; exact (Box.at' (by simp))
  have BW_0 : Hid (Below w.heap.size w W0) := by rw [hW0]; exact ((((Below.refl w.heap.size w).alloc (by simp) _).alloc (by simp) _).alloc (by simp; omega) _)
  have hsz0 : w.heap.size + 1 + 1 + 1 ≤ W0.heap.size := by rw [hW0]; simp
  have HI := Lib.hid (hA.below BW_0.out)
  have HX := Lib.hid (h.below BW_0.out)
  have HC := Lib.hid (hC.below BW_0.out)
  have HLB : Hid (lb.length = P) := h.1
  have HL := Lib.hid hl
  have HE := Lib.hid he
  have hNAf : (frows K la P K).length ≤ 544 := frows_le (Nat.le_refl _) hP hK
  have HNF := Lib.hid hNAf
  clear hA h hC hl he hNAf
  go_enter Try.func121, Try.ntmps121
  go_upto_region 1 with fail
  rw [← hW0]
  clear hW0
  have ehp00 := hp0_0.out.cell 0
  have ehp01 := hp0_0.out.cell 1
  have ehp02 := hp0_0.out.cell 2
  have ehp03 := hp0_0.out.cell 3
  have ehp04 := hp0_0.out.cell 4
  simp at ehp00 ehp01 ehp02 ehp03 ehp04
  go_wp2_with fail
  clear ehp00 ehp01 ehp02 ehp03 ehp04
  refine (impl_weightProgram P K A n c la B P d C K f C K f lc _ HI.out HC.out HL.out hP hK HE.out hnc (by omega)).mono ?_
  rintro e w1 ⟨A1, c1, B1, c2, C1, c3, rfl, ho, hb⟩
  obtain ⟨NA, hNA'⟩ : ∃ N, N = (frows K la P K).length := ⟨_, rfl⟩
  go_upto_region 2 with fail
  rw [← hNA'] at ho ⊢
  have HNA := Lib.hid hNA'
  have hNA : NA ≤ 544 := by have := HNA.out; have := HNF.out; omega
  clear hNA'
  obtain ⟨wx, hwx⟩ : ∃ W, W = w1.alloc (.cells #[.int .i64 K, .int .i64 (2 * (P : Int) + (K : Int)), .slice A1 NA c1, .slice B1 K c2, .slice C1 (2 * P + K) c3] 26) := ⟨_, rfl⟩
  obtain ⟨g, hg⟩ : ∃ g, g = w1.heap.size := ⟨_, rfl⟩
  have hbx : Below w1.heap.size w1 wx := by rw [hwx]; exact (Below.refl _ _).alloc (Nat.le_refl _) _
  have hg0 : W0.heap.size ≤ g := by rw [hg]; exact hb.size
  have P1 : Hid (PM W0.heap.size wx g K (2 * P + K) A1 NA c1 (frows K la P K) B1 K c2 lc C1 (2 * P + K) c3 (List.replicate (2 * P + K) 0)) := ⟨by rw [hwx, hg]; exact Box.new _ _ _, ho.below hbx⟩
  have B1' : Hid (Below W0.heap.size W0 wx) := hb.trans (hbx.mono hb.size)
  rw [← hwx, ← hg]
  clear hwx hg hbx ho hb
  have hw1 : w.heap.size + 1 + 1 < W0.heap.size := hpr_0.out.lt
  have hngp : w.heap.size + 1 ≠ g := by omega
  have hngr : w.heap.size + 1 + 1 ≠ g := by omega
  have PD := Lib.hid (P1.out.below (Below.refl _ _).drew)
  have BD : Hid (Below W0.heap.size W0 wx.drew) := B1'.out.drew
  have XB := Lib.hid (hp0_0.out.below BD.out hp0_0.out.lt)
  have XI := Lib.hid (HX.out.below BD.out)
  clear P1 B1'
  refine wp_region_held_drew (S := (fun w' => w'.cell? ⟨w.heap.size + 1, 0, none⟩ = some (.int .i64 P) ∧ w'.cell? ⟨w.heap.size + 1, 1, none⟩ = some (.int .i64 K) ∧ w'.cell? ⟨w.heap.size + 1, 2, none⟩ = some (.slice A n c) ∧ w'.cell? ⟨w.heap.size + 1, 3, none⟩ = some (.slice B P d) ∧ w'.cell? ⟨w.heap.size + 1, 4, none⟩ = some (.slice C K f))) (by kernel_rfl) ?_ (fun hHeld => ?_)
  · (try dsimp only); (first | with_reducible exact box5 XG | with_reducible exact box5 XF | with_reducible exact box5 XL | with_reducible exact box5 XB)
  refine wpAnyH_go (i := 0) (d := some 10) (v := ?_) (by rfl) (by kernel_rfl) (by kernel_rfl) (by kernel_rfl) (fun _ _ _ h => h) (by assumption) ?_ ?_
  rotate_left 1
  · (intro oS hoS wS hSw; obtain rfl := Option.some.inj hoS; (try dsimp only at hSw); go_simp; try with_reducible rfl)
  (try simp only [Act.put, List.setIfInBounds_toArray])
  refine wpAnyH_go (i := 1) (d := some 11) (v := ?_) (by rfl) (by kernel_rfl) (by kernel_rfl) (by kernel_rfl) (fun _ _ _ h => h) (by assumption) ?_ ?_
  rotate_left 1
  · (intro oS hoS wS hSw; obtain rfl := Option.some.inj hoS; (try dsimp only at hSw); go_simp; try with_reducible rfl)
  (try simp only [Act.put, List.setIfInBounds_toArray])
  refine wpAnyH_go (i := 2) (d := some 12) (v := ?_) (by rfl) (by kernel_rfl) (by kernel_rfl) (by kernel_rfl) (fun _ _ _ h => h) (by assumption) ?_ ?_
  rotate_left 1
  · (intro oS hoS wS hSw; obtain rfl := Option.some.inj hoS; (try dsimp only at hSw); go_simp; try with_reducible rfl)
  (try simp only [Act.put, List.setIfInBounds_toArray])
  refine wpAnyH_ready (rs := [3]) (by kernel_rfl) (by simp) ?_
  refine AllReadyH.cons rfl (fun KK hK => ?_) AllReadyH.nil
  go_simp
  refine (impl_negated B P d lb _ XI.out).mono ?_
  rintro e w2 ⟨v2, rfl, ⟨_, hv2⟩, hb2⟩
  rw [wneg_length, HLB.out] at hv2
  obtain ⟨A2, c2', rfl⟩ := own_slice hv2
  have XL := Lib.hid (XB.out.below hb2 XB.out.lt)
  have P2 := Lib.hid (PD.out.below hb2)
  have B2 := Lib.hid (BD.out.trans (hb2.mono BD.out.size))
  have XV : Hid (InI w2 A2 P (wneg lb)) := ⟨by rw [wneg_length]; exact HLB.out, by omega, Reads.of_own hv2, wneg_i64 lb⟩
  clear hv2 hb2 PD BD
  (try go_wp2_with fail)
  refine hK.out _ _ ?_ (fun hHeld => ?_)
  · (try dsimp only); (first | with_reducible exact box5 XG | with_reducible exact box5 XF | with_reducible exact box5 XL | with_reducible exact box5 XB)
  clear hK KK
  (try simp only [Act.put, List.setIfInBounds_toArray])
  refine wpAnyH_ready (rs := [4]) (by kernel_rfl) (by simp) ?_
  refine AllReadyH.cons rfl (fun KK hK => ?_) AllReadyH.nil
  go_simp
  refine (impl_weighted (P : Int) K A n c B P d C K f A2 P c2' (wneg lb) _ XV.out (by omega) (by omega)).mono ?_
  rintro e w3 ⟨v3, rfl, ⟨_, hv3⟩, hb3⟩
  have hwl3 : (wneg lb ++ wneg (wneg lb) ++ List.replicate K (0 : Int)).length = P + P + K := by simp only [List.length_append, wneg_length, List.length_replicate, HLB.out]
  rw [hwl3] at hv3
  clear hwl3
  obtain ⟨A3, c4, rfl⟩ := own_slice hv3
  have XF := Lib.hid (XL.out.below hb3 XL.out.lt)
  have P3 := Lib.hid (P2.out.below hb3)
  have B3 := Lib.hid (B2.out.trans (hb3.mono B2.out.size))
  have hv4 := own_base hv3 B2.out.size
  have P4 : Hid (PM W0.heap.size (w3.setCell ⟨g, 4, none⟩ (.slice A3 (P + P + K) c4)) g K (2 * P + K) A1 NA c1 (frows K la P K) B1 K c2 lc A3 (P + P + K) c4 (wneg lb ++ wneg (wneg lb) ++ List.replicate K 0)) := P3.out.replC hv4 (fun k hk hk' => by have h1 := (P2.out.own.1.lt k hk').2; have h2 := (hv3.lt k hk).1; omega) (fun k hk hk' => by have h1 := (P2.out.own.2.1.lt k hk').2; have h2 := (hv3.lt k hk).1; omega)
  have B4 : Hid (Below W0.heap.size W0 (w3.setCell ⟨g, 4, none⟩ (.slice A3 (P + P + K) c4))) := B3.out.setCell hg0 _
  have q4 := P3.out.box.cell 4
  have q4f := P3.out.box.free 4
  simp at q4
  have XG := Lib.hid (XF.out.far (p := ⟨g, 4, none⟩) hngp (.slice A3 (P + P + K) c4))
  clear hv3 hv4 hb3 P2 B2 XL XB XI XV
  (try go_wp2_with fail)
  refine hK.out _ _ ?_ (fun hHeld => ?_)
  · (try dsimp only); (first | with_reducible exact box5 XG | with_reducible exact box5 XF | with_reducible exact box5 XL | with_reducible exact box5 XB)
  clear hK KK
  (try simp only [Act.put, List.setIfInBounds_toArray])
  refine wpAnyH_go (i := 5) (d := some 15) (v := ?_) (by rfl) (by kernel_rfl) (by kernel_rfl) (by kernel_rfl) (fun _ _ _ h => h) (by assumption) ?_ ?_
  rotate_left 1
  · (intro oS hoS wS hSw; obtain rfl := Option.some.inj hoS; (try dsimp only at hSw); go_simp; try with_reducible rfl)
  (try simp only [Act.put, List.setIfInBounds_toArray])
  refine wpAnyH_ready (rs := [6]) (by kernel_rfl) (by simp) ?_
  refine AllReadyH.cons rfl (fun KK hK => ?_) AllReadyH.nil
  go_simp
  refine hK.out _ _ ?_ (fun hHeld => ?_)
  · (try dsimp only); (first | with_reducible exact box5 XG | with_reducible exact box5 XF | with_reducible exact box5 XL | with_reducible exact box5 XB)
  clear hK KK
  (try simp only [Act.put, List.setIfInBounds_toArray])
  refine wpAnyH_done (by kernel_rfl) ?_ _
  go_upto_region 3 with fail
  obtain ⟨w8, hw8⟩ : ∃ W, W = w3.setCell ⟨g, 4, none⟩ (.slice A3 (P + P + K) c4) := ⟨_, rfl⟩
  rw [← hw8] at P4 B4 ⊢
  clear hw8 q4 q4f XG XF
  have XR := Lib.hid (hpr_0.out.below B4.out hpr_0.out.lt)
  have HZ : Hid (ToPEnd K (2 * (P : Int) + (K : Int)) (frows K la P K).length (frows K la P K) K lc (P + P + K) (wneg lb ++ wneg (wneg lb) ++ List.replicate K 0) w (((((w8.setCell ⟨w.heap.size + 1 + 1, 0, none⟩ (.int .i64 K)).setCell ⟨w.heap.size + 1 + 1, 1, none⟩ (.int .i64 (2 * (P : Int) + (K : Int)))).setCell ⟨w.heap.size + 1 + 1, 2, none⟩ (.slice A1 NA c1)).setCell ⟨w.heap.size + 1 + 1, 3, none⟩ (.slice B1 K c2)).setCell ⟨w.heap.size + 1 + 1, 4, none⟩ (.slice A3 (P + P + K) c4)) (.returned (.agg #[.int .i64 K, .int .i64 (2 * (P : Int) + (K : Int)), .slice A1 NA c1, .slice B1 K c2, .slice A3 (P + P + K) c4]))) := by
    have o := PM.own (pm_store5 XR.out P4.out.own K (2 * (P : Int) + (K : Int)))
    have hws : w.heap.size ≤ W0.heap.size := by omega
    rw [← HNA.out]
    exact ⟨A1, c1, B1, c2, A3, c4, rfl, ⟨own_base o.1 hws, own_base o.2.1 hws, own_base o.2.2.1 hws, o.2.2.2⟩, below_store5 (BW_0.out.trans (B4.out.mono hws)) (by omega) _ _ _ _ _⟩
  have q0 := P4.out.box.cell 0
  have q1 := P4.out.box.cell 1
  have q2 := P4.out.box.cell 2
  have q3 := P4.out.box.cell 3
  have q4 := P4.out.box.cell 4
  simp at q0 q1 q2 q3 q4
  have hpr_2 := XR
  have ehpr0 := hpr_2.out.cell 0
  have ehpr1 := hpr_2.out.cell 1
  have ehpr2 := hpr_2.out.cell 2
  have ehpr3 := hpr_2.out.cell 3
  have ehpr4 := hpr_2.out.cell 4
  have fhpr0 := hpr_2.out.free 0
  have fhpr1 := hpr_2.out.free 1
  have fhpr2 := hpr_2.out.free 2
  have fhpr3 := hpr_2.out.free 3
  have fhpr4 := hpr_2.out.free 4
  simp at ehpr0 ehpr1 ehpr2 ehpr3 ehpr4
  go_wp2_with fail
  refine bodyPost_ret (v := .agg #[.int .i64 K, .int .i64 (2 * (P : Int) + (K : Int)), .slice A1 NA c1, .slice B1 K c2, .slice A3 (P + P + K) c4]) (by simp [results, Try.results121, ehpr0, ehpr1, ehpr2, ehpr3, ehpr4, go_sem]) rfl ?_
  exact HZ.out
end Go.Proofs.Ytcmbfgaojlnjcaa
