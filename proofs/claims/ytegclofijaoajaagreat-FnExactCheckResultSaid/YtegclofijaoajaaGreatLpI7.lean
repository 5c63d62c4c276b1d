/- Contracts of linear programs, by the program: IsFarkas. -/
import Derived.Test.YtegclofijaoajaaGreatMakeF
import Derived.Test.YtegclofijaoajaaGreatLpI6
namespace Go.Proofs.YtegclofijaoajaaGreat
set_option maxRecDepth 100000
open Go.RowKit

/-- 'make' of a list within a region that draws its order. -/
theorem made_zeros (K : Nat) : (madeCells (Value.int .i64 0).cells (K * 1)).toList = (List.replicate K (0 : Int)).map (.int .i64) := by
  apply List.ext_getElem?
  intro j
  by_cases hj : j < K
  · simp [madeCells, Value.cells, hj, Nat.mod_one]
  · rw [List.getElem?_eq_none (by simp [madeCells]; omega), List.getElem?_eq_none (by simp; omega)]
theorem far_reach {P K : Nat} {la lb lc : List Int} {vs : List RD} {g : Bool} {l d : List Int} (h : (LP.ok ⟨P, K, la, lb, lc⟩ ∧ Rats vs P) ∧ RD.mk g l d = ldot lb vs ∧ ROk g l d) (hg : g = true) : FarkasP P K la lb lc vs ↔ ReachP K la (List.replicate K 0) P vs := by
  unfold FarkasP ReachP
  simp only [Int.toNat_natCast]
  refine ⟨fun q j z hz => ?_, fun q => ⟨h.1, ⟨by rw [← h.2.1]; exact h.2.2, by rw [← h.2.1]; exact hg⟩, fun j hj => q j 0 (by simp [hj])⟩⟩
  obtain ⟨hlt, hz⟩ := List.getElem?_eq_some_iff.1 hz
  have hj : j < K := by simpa using hlt
  have hz0 : z = 0 := by rw [← hz]; simp
  rw [hz0]
  exact q.2.2 j hj
set_option maxHeartbeats 6400000 in
theorem impl_isFarkas0 (p k : Int) (A : Option Addr) (n c : Nat) (la : List Int) (B : Option Addr) (m d : Nat) (lb : List Int) (C : Option Addr) (l f : Nat) (lc : List Int) (E : Option Addr) (nv cv : Nat) (vs : List RD) (w : World) (h : InP w A n la B m lb C l lc) (hc : n ≤ c) (hv : InV w E nv vs) :
    Calls Tryz.prog 308 #[.agg #[.int .i64 p, .int .i64 k, .slice A n c, .slice B m d, .slice C l f], .slice E nv cv] w fun e w' => LpOkEnd (FarkasP p k la lb lc vs) w w' e := by
  obtain ⟨i0, hi, hz0, hz1, hz2⟩ := info_parts Tryz.infoI
  obtain ⟨W0, hW0⟩ : ∃ W, W = (w.alloc (.cells #[.int .i64 p, .int .i64 k, .slice A n c, .slice B m d, .slice C l f] 61)) := ⟨_, rfl⟩
  have hp0_0 : Hid (Box W0 (w.heap.size) 61 #[.int .i64 p, .int .i64 k, .slice A n c, .slice B m d, .slice C l f]) := by rw [hW0]; exact (Box.at' (by simp))
  have BW_0 : Hid (Below w.heap.size w W0) := by rw [hW0]; exact ((Below.refl w.heap.size w).alloc (by simp) _)
  have hsz0 : w.heap.size + 1 ≤ W0.heap.size := by rw [hW0]; simp
  have HI := Lib.hid (h.below BW_0.out)
  have HV := Lib.hid (hv.below BW_0.out)
  have hnv := hv.2.1
  clear h hv
  go_enter Tryz.func308, Tryz.ntmps308
  go_wp2_with fail
  rw [← hW0]
  clear hW0
  refine (impl_boundAt0 p k A n c la B m d lb C l f lc E nv cv vs _ HI.out HV.out).mono ?_
  rintro e w1 ⟨g, rr, v, dd, u, b, rfl, hq, q1, q2, hap, hb⟩
  obtain ⟨A6, c6, rfl⟩ := own_slice q1.2
  obtain ⟨B6, d6, rfl⟩ := own_slice q2.2
  have HQ := Lib.hid hq
  have hbx : Below w1.heap.size w1 (w1.alloc (.cells #[.bool g, .slice A6 rr.length c6, .slice B6 dd.length d6] 34)) := (Below.refl _ _).alloc (Nat.le_refl _) _
  have O_1 := Lib.hid (own_below q1.2 hbx)
  have U_1 := Lib.hid (own_below q2.2 hbx)
  have hp0_1 := Lib.hid (hp0_0.out.below hb hp0_0.out.lt)
  have BW_1 := Lib.hid (BW_0.out.trans (hb.mono BW_0.out.size))
  replace HI := Lib.hid (HI.out.below hb)
  replace HV := Lib.hid (HV.out.below hb)
  clear hb
  have BW_2 := Lib.hid (BW_1.out.trans (hbx.mono BW_1.out.size))
  have HI2 := Lib.hid (HI.out.below hbx)
  have HV2 := Lib.hid (HV.out.below hbx)
  have hp0_2 := Lib.hid (hp0_1.out.below hbx hp0_1.out.lt)
  clear hq q1 q2 hap hbx
  cases b
  case false =>
    have HF := Lib.hid (lpOk_no (bound_off HQ.out) BW_2.out)
    go_wp2_with fail
    go_ret
    exact HF.out
  have HBI := Lib.hid (bound_is HQ.out)
  have hs1 : rr.length ≤ 24 := HBI.out.2.2.2.2.2.2.1
  have hs2 : dd.length ≤ 24 := HBI.out.2.2.2.2.2.2.2
  go_wp2_with fail
  refine (impl_isNegative g A6 rr.length c6 rr B6 dd.length d6 dd _ (in_gr hs1 (ROk.nr HBI.out.2.2) O_1.out) (room_own O_1.out) (in_gr hs2 (ROk.dr HBI.out.2.2) U_1.out) (room_own U_1.out)).mono ?_
  rintro e w3 ⟨b3, rfl, h3, hb3⟩
  have H3 := Lib.hid h3
  have BW_3 := Lib.hid (BW_2.out.trans (hb3.mono BW_2.out.size))
  have HI_3 := Lib.hid (HI2.out.below hb3)
  have HV_3 := Lib.hid (HV2.out.below hb3)
  have hp0_3 := Lib.hid (hp0_2.out.below hb3 hp0_2.out.lt)
  clear h3 hb3
  cases b3
  case false =>
    have HF : Hid (LpOkEnd (FarkasP p k la lb lc vs) w w3 (.returned (.bool false))) := lpOk_no (fun q => by have h1 := q.2.1.2; rw [← HBI.out.2.1] at h1; have := H3.out.2 ⟨HBI.out.2.2, h1⟩; cases this) BW_3.out
    go_wp2_with fail
    go_ret
    exact HF.out
  have HNEG : Hid (g = true) := (H3.out.1 rfl).2
  have ehp00 := hp0_3.out.cell 0
  have ehp01 := hp0_3.out.cell 1
  have ehp02 := hp0_3.out.cell 2
  have ehp03 := hp0_3.out.cell 3
  have ehp04 := hp0_3.out.cell 4
  simp at ehp00 ehp01 ehp02 ehp03 ehp04
  go_wp2_with fail
  clear ehp00 ehp01 ehp02 ehp03 ehp04
  refine (impl_linearOf p k A n c la B m d lb C l f lc _ HI_3.out).mono ?_
  rintro e w4 ⟨b4, rfl, h4, hb4⟩
  have hbx : Below w4.heap.size w4 (w4.alloc (.cells #[.int .i64 p, .int .i64 k, .slice A n c, .slice B m d, .slice C l f] 128)) := (Below.refl _ _).alloc (Nat.le_refl _) _
  have BW_5 := Lib.hid ((BW_3.out.trans (hb4.mono BW_3.out.size)).trans (hbx.mono (Nat.le_trans BW_3.out.size hb4.size))).drew
  have HI_5 : Hid (InP (w4.alloc (.cells #[.int .i64 p, .int .i64 k, .slice A n c, .slice B m d, .slice C l f] 128)).drew A n la B m lb C l lc) := ((HI_3.out.below hb4).below hbx).below (Below.refl _ _).drew
  have HV_5 : Hid (InV (w4.alloc (.cells #[.int .i64 p, .int .i64 k, .slice A n c, .slice B m d, .slice C l f] 128)).drew E nv vs) := ((HV_3.out.below hb4).below hbx).below (Below.refl _ _).drew
  have P_5 := Lib.hid ((hp0_3.out.below hb4 hp0_3.out.lt).below hbx (Nat.lt_of_lt_of_le hp0_3.out.lt hb4.size)).drew
  have L_5 : Hid (Box (w4.alloc (.cells #[.int .i64 p, .int .i64 k, .slice A n c, .slice B m d, .slice C l f] 128)).drew w4.heap.size 128 #[.int .i64 p, .int .i64 k, .slice A n c, .slice B m d, .slice C l f]) := (Box.new _ _ _).drew
  clear h4 hb4 hbx
  have HOK := Lib.hid HBI.out.1.1
  obtain ⟨P, K, hP, hK, hP20, hK40, hla, _, _⟩ := HOK.out.nats
  simp only at hP hK hla
  subst hP hK
  have HLA : Hid (n = P * K) := by rw [← HI.out.1.1]; exact hla
  obtain rfl : nv = P := by have h1 := HBI.out.1.2.1; rw [HV.out.1] at h1; omega
  clear hla
  obtain ⟨W, hW⟩ : ∃ W, W = (w4.alloc (.cells #[.int .i64 nv, .int .i64 K, .slice A n c, .slice B m d, .slice C l f] 128)) := ⟨_, rfl⟩
  rw [← hW] at BW_5 HI_5 HV_5 P_5 L_5
  go_wp2_with fail
  rw [← hW]
  clear hW
  have HEL : Hid (Ent la) := HOK.out.1.2.2.2
  have HEN : Hid (Ent (List.replicate K 0)) := fun z hz => by have := List.eq_of_mem_replicate hz; omega
  refine wp_region_held_drew (S := (fun w' => w'.cell? ⟨w.heap.size, 0, none⟩ = some (.int .i64 nv) ∧ w'.cell? ⟨w.heap.size, 1, none⟩ = some (.int .i64 K) ∧ w'.cell? ⟨w.heap.size, 2, none⟩ = some (.slice A n c) ∧ w'.cell? ⟨w.heap.size, 3, none⟩ = some (.slice B m d) ∧ w'.cell? ⟨w.heap.size, 4, none⟩ = some (.slice C l f) ∧ w'.cell? ⟨w4.heap.size, 0, none⟩ = some (.int .i64 nv) ∧ w'.cell? ⟨w4.heap.size, 1, none⟩ = some (.int .i64 K) ∧ w'.cell? ⟨w4.heap.size, 2, none⟩ = some (.slice A n c) ∧ w'.cell? ⟨w4.heap.size, 3, none⟩ = some (.slice B m d) ∧ w'.cell? ⟨w4.heap.size, 4, none⟩ = some (.slice C l f))) (by kernel_rfl) ?_ (fun hHeld => ?_)
  · (try dsimp only); (first | with_reducible exact lin_held P_7 L_7 | with_reducible exact lin_held P_6 L_6 | with_reducible exact lin_held P_5 L_5)
  refine wpAnyH_go (i := 0) (d := some 27) (v := ?_) (by rfl) (by kernel_rfl) (by kernel_rfl) (by kernel_rfl) (fun _ _ _ h => h) (by assumption) ?_ ?_
  rotate_left 1
  · (intro oS hoS wS hSw; obtain rfl := Option.some.inj hoS; (try dsimp only at hSw); go_simp; try with_reducible rfl)
  (try simp only [Act.put, List.setIfInBounds_toArray])
  refine wpAnyH_go (i := 1) (d := some 28) (v := ?_) (by rfl) (by kernel_rfl) (by kernel_rfl) (by kernel_rfl) (fun _ _ _ h => h) (by assumption) ?_ ?_
  rotate_left 1
  · (intro oS hoS wS hSw; obtain rfl := Option.some.inj hoS; (try dsimp only at hSw); go_simp; try with_reducible rfl)
  (try simp only [Act.put, List.setIfInBounds_toArray])
  refine wpAnyH_go (i := 2) (d := some 29) (v := ?_) (by rfl) (by kernel_rfl) (by kernel_rfl) (by kernel_rfl) (fun _ _ _ h => h) (by assumption) ?_ ?_
  rotate_left 1
  · (intro oS hoS wS hSw; obtain rfl := Option.some.inj hoS; (try dsimp only at hSw); go_simp; try with_reducible rfl)
  (try simp only [Act.put, List.setIfInBounds_toArray])
  refine wpAnyH_go (i := 3) (d := some 30) (v := ?_) (by rfl) (by kernel_rfl) (by kernel_rfl) (by kernel_rfl) (fun _ _ _ h => h) (by assumption) ?_ ?_
  rotate_left 1
  · (intro oS hoS wS hSw; obtain rfl := Option.some.inj hoS; (try dsimp only at hSw); go_simp; try with_reducible rfl)
  (try simp only [Act.put, List.setIfInBounds_toArray])
  refine wpAnyH_go (i := 5) (d := some 32) (v := ?_) (by rfl) (by kernel_rfl) (by kernel_rfl) (by kernel_rfl) (fun _ _ _ h => h) (by assumption) ?_ ?_
  rotate_left 1
  · (intro oS hoS wS hSw; obtain rfl := Option.some.inj hoS; (try dsimp only at hSw); go_simp; try with_reducible rfl)
  (try simp only [Act.put, List.setIfInBounds_toArray])
  refine wpAnyH_ready (rs := [4]) (by kernel_rfl) (by simp) ?_
  refine AllReadyH.cons rfl (fun K' hK => ?_) AllReadyH.nil
  refine step_make_full rfl (.tmp 30) (.tmp 30) 30 rfl W.drew.heap.size 3 i0 (.int .i64 0) 1 Tryz.underlying30 hi hz0 hz1 _ _ _ _ K rfl rfl rfl rfl (by rw [hz2]; omega) (by unfold maxLen; omega) (Nat.le_refl _) ?_
  intro w6 ho hg
  have hb6 : Below W.drew.heap.size W.drew w6 := (Below.refl _ _).grown hg (Nat.le_refl _) (fun k hk => by cases hk)
  have HI6 := Lib.hid (HI_5.out.below hb6)
  have HV6 := Lib.hid (HV_5.out.below hb6)
  have P_6 := Lib.hid (P_5.out.below hb6 P_5.out.lt)
  have L_6 := Lib.hid (L_5.out.below hb6 L_5.out.lt)
  have BW_6 := Lib.hid (BW_5.out.trans (hb6.mono BW_5.out.size))
  have HN6 : Hid (InI w6 (some ⟨W.heap.size, 0, none⟩) K (List.replicate K 0)) := ⟨by simp, by omega, by rw [made_zeros] at ho; exact Reads.of_own ho, fun z hz => by have := List.eq_of_mem_replicate hz; omega⟩
  clear ho hg hb6
  refine hK.out _ _ ?_ (fun hHeld => ?_)
  · (try dsimp only); (first | with_reducible exact lin_held P_7 L_7 | with_reducible exact lin_held P_6 L_6 | with_reducible exact lin_held P_5 L_5)
  clear hK K'
  (try simp only [Act.put, List.setIfInBounds_toArray])
  refine wpAnyH_ready (rs := [6]) (by kernel_rfl) (by simp) ?_
  refine AllReadyH.cons rfl (fun KK hK => ?_) AllReadyH.nil
  go_simp
  (go_at_call 300; (with_reducible refine (impl_reaches nv K A n c la (some ⟨W.heap.size, 0, none⟩) K (List.replicate K 0) E cv vs _ HI6.out.ia HLA.out hP20 hK40 hc HEL.out HN6.out HEN.out HV6.out).mono ?_); rintro e w7 ⟨b7, rfl, h7, hb7⟩; have HF : Hid (LpOkEnd (FarkasP nv K la lb lc vs) w w7 (.returned (.bool b7))) := ⟨b7, rfl, (by rw [far_reach HBI.out HNEG.out]; exact h7), BW_6.out.trans (hb7.mono BW_6.out.size)⟩; have P_7 := Lib.hid (P_6.out.below hb7 P_6.out.lt); have L_7 := Lib.hid (L_6.out.below hb7 L_6.out.lt); clear h7 hb7)
  (try go_wp2_with fail)
  refine hK.out _ _ ?_ (fun hHeld => ?_)
  · (try dsimp only); (first | with_reducible exact lin_held P_7 L_7 | with_reducible exact lin_held P_6 L_6 | with_reducible exact lin_held P_5 L_5)
  clear hK KK
  (try simp only [Act.put, List.setIfInBounds_toArray])
  refine wpAnyH_go (i := 7) (d := some 4) (v := ?_) (by rfl) (by kernel_rfl) (by kernel_rfl) (by kernel_rfl) (fun _ _ _ h => h) (by assumption) ?_ ?_
  rotate_left 1
  · (intro oS hoS wS hSw; obtain rfl := Option.some.inj hoS; (try dsimp only at hSw); go_simp; try with_reducible rfl)
  (try simp only [Act.put, List.setIfInBounds_toArray])
  refine wpAnyH_done (by kernel_rfl) ?_ _
  go_wp2_with fail
  go_ret
  exact HF.out
end Go.Proofs.YtegclofijaoajaaGreat
