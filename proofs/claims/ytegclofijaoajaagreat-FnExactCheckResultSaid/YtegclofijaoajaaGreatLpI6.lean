/- Contracts of linear programs, by the program: sums of columns that reach; IsDual, IsFarkas. -/
import Derived.Test.YtegclofijaoajaaGreatLpI5
namespace Go.Proofs.YtegclofijaoajaaGreat
set_option maxRecDepth 100000
open Go.RowKit

/-- All columns reach what they are to reach. -/
def ReachP (K : Nat) (la ns : List Int) (P : Nat) (vs : List RD) : Prop := ∀ j z, ns[j]? = some z → AtLeast (ldot (lcol K la P j) vs) z
theorem reach_no {K P i : Nat} {la ns : List Int} {vs : List RD} {z : Int} (hz : ns[i]? = some z) (h : ¬ AtLeast (ldot (lcol K la P i) vs) z) : ¬ ReachP K la ns P vs := fun q => h (q i z hz)
/-- What a comparison with a whole number tells. -/
theorem atLeast_of {s : RD} {g gf : Bool} {l d lf df : List Int} {z r : Int} (h : RD.mk g l d = s) (hk : ROk g l d) (hr : (rint z).ok) (hf : RD.mk gf lf df = rint z) (hc : RatCmpIs g l d gf lf df r) : AtLeast s z ↔ ¬ r < 0 := by
  have hf' : gf = (rint z).g ∧ lf = (rint z).xs ∧ df = (rint z).ds := by rw [← hf]; exact ⟨rfl, rfl, rfl⟩
  rcases hc with ⟨_, rfl⟩ | ⟨hn, _⟩
  · rw [cross_of h hf']
    unfold AtLeast
    have hsk : s.ok := by rw [← h]; exact hk
    simp [hsk]
  · exact absurd ⟨hk, by have h0 := hr; rw [← hf] at h0; exact h0⟩ hn
set_option maxHeartbeats 6400000 in
theorem impl_reaches (P K : Nat) (A : Option Addr) (n c : Nat) (la : List Int) (X : Option Addr) (cx : Nat) (ns : List Int) (E : Option Addr) (cv : Nat) (vs : List RD) (w : World) (h : InI w A n la) (hl : n = P * K) (hP : P ≤ 20) (hK : K ≤ 40) (hc : n ≤ c) (hel : Ent la) (hx : InI w X K ns) (hen : Ent ns) (hv : InV w E P vs) :
    Calls Tryz.prog 300 #[.agg #[.int .i64 P, .int .i64 K, .slice A n c], .slice X K cx, .slice E P cv] w fun e w' => LpOkEnd (ReachP K la ns P vs) w w' e := by
  obtain ⟨W0, hW0⟩ : ∃ W, W = (w.alloc (.cells #[.int .i64 P, .int .i64 K, .slice A n c] 126)) := ⟨_, rfl⟩
  have hm0_0 : Hid (Box W0 (w.heap.size) 126 #[.int .i64 P, .int .i64 K, .slice A n c]) := by rw [hW0]; exact (Box.at' (by simp))
  have BW_0 : Hid (Below w.heap.size w W0) := by rw [hW0]; exact ((Below.refl w.heap.size w).alloc (by simp) _)
  have hsz0 : w.heap.size + 1 ≤ W0.heap.size := by rw [hW0]; simp
  have HI := Lib.hid (h.below BW_0.out)
  have HX := Lib.hid (hx.below BW_0.out)
  have HV := Lib.hid (hv.below BW_0.out)
  have HLA := Lib.hid hl
  have HEL := Lib.hid hel
  have HEN := Lib.hid hen
  have hnv : P ≤ 1048576 := by omega
  clear h hx hv hl hel hen
  go_enter Tryz.func300, Tryz.ntmps300
  go_wp2_with fail
  rw [← hW0]
  clear hW0
  go_loopw [12] (fun x wq => ∃ i : Nat, i ≤ K ∧ x = .int .i64 i ∧ Hid (ColsTo K la ns P vs i) ∧ Hid (Below W0.heap.size W0 wq)) (fun x _ => K - (intOf x).toNat)
  case atStart => exact ⟨0, Nat.zero_le _, rfl, ColsTo.zero _ _ _ _ _, Below.refl _ _⟩
  case round =>
    obtain ⟨i, hle, rfl, hcols, hb⟩ := hrel
    have BW1 := Lib.hid (BW_0.out.trans (hb.out.mono BW_0.out.size))
    by_cases hlt : i < K
    · have M1 := Lib.hid (hm0_0.out.below hb.out hm0_0.out.lt)
      have HI1 := Lib.hid (HI.out.below hb.out)
      have HV1 := Lib.hid (HV.out.below hb.out)
      obtain ⟨b0, o0, z, hX, hz, hcell, hbl, hz0, hz1⟩ := (HX.out.below hb.out).get hlt
      subst hX
      have HZ := Lib.hid hz
      have HRZ : Hid (rint z).ok := rint_okc (HEN.out z (List.mem_of_getElem? hz))
      have hi0 : (0 : Int) ≤ (i : Int) := by omega
      have hi1 : (i : Int) < (K : Int) := by omega
      have em0 := M1.out.cell 0
      have em1 := M1.out.cell 1
      have em2 := M1.out.cell 2
      simp at em0 em1 em2
      clear hz
      go_wp2_with fail
      clear em0 em1 em2 hcell
      refine (impl_column P K i A n c la _ HI1.out HLA.out hlt hP hK hc).mono ?_
      rintro e wa hends
      obtain ⟨A2, c2, rfl, hr, hba⟩ := intsEnd_open hends (lcol_length _ _ _ _) (ent_lcol HEL.out) hnv
      have HR := Lib.hid hr
      have HVa := Lib.hid (HV1.out.below hba)
      have BWa := Lib.hid (BW1.out.trans (hba.mono BW1.out.size))
      have HBa := Lib.hid (hb.out.trans (hba.mono hb.out.size))
      clear hends hr hba
      go_wp2_with fail
      refine (impl_sumOfProducts A2 P c2 (lcol K la P i) E cv vs _ HR.out HVa.out).mono ?_
      rintro e w3 ⟨g, r, v, dd, u, rfl, hq, q1, q2, hap, hb3⟩
      obtain ⟨A6, c6, rfl⟩ := own_slice q1.2
      obtain ⟨B6, d6, rfl⟩ := own_slice q2.2
      obtain ⟨q, hqq⟩ : ∃ q, q = RD.mk g r dd := ⟨_, rfl⟩
      have HG : Hid (q.ok ∨ q = RD.zero) := by rw [hqq, hq]; exact ldot_good _ _
      have HIN : Hid (q = ldot (lcol K la P i) vs) := by rw [hqq]; exact hq
      have S0 : Hid (RSum (w3.alloc (.cells #[.bool g, .slice A6 r.length c6, .slice B6 dd.length d6] 34)).drew wa.heap.size w3.heap.size q A6 c6 B6 d6) := by
        rw [hqq]
        exact RSum.drew ⟨Box.new _ _ _, q1.2.alloc _, q2.2.alloc _, hap⟩
      have BW3 := Lib.hid (BWa.out.trans (hb3.mono BWa.out.size))
      have HB3 := Lib.hid (HBa.out.trans (hb3.mono HBa.out.size))
      have BW4 := Lib.hid (BW3.out.alloc BW3.out.size (.cells #[.bool g, .slice A6 r.length c6, .slice B6 dd.length d6] 34)).drew
      have HB4 := Lib.hid (HB3.out.alloc HB3.out.size (.cells #[.bool g, .slice A6 r.length c6, .slice B6 dd.length d6] 34)).drew
      have eg : g = q.g := by rw [hqq]
      have er : r = q.xs := by rw [hqq]
      have ed : dd = q.ds := by rw [hqq]
      have hsh := (RD.gr HG.out).short
      have hsh1 := hsh.1
      have hsh2 := hsh.2
      clear hq q1 q2 hap hqq hsh hb3
      subst eg er ed
      by_cases hk : ROk q.g q.xs q.ds
      case neg =>
        have HF : Hid (¬ ReachP K la ns P vs) := reach_no HZ.out (fun h => by have h1 := h.1; rw [← HIN.out] at h1; exact hk h1)
        have HNK := Lib.hid hk
        clear hk hz0 hz1
        go_wp2_with fail
        refine wp_region_held_drew (S := (fun w' => w'.cell? ⟨w3.heap.size, 0, none⟩ = some (.bool q.g) ∧ w'.cell? ⟨w3.heap.size, 1, none⟩ = some (.slice A6 q.xs.length c6) ∧ w'.cell? ⟨w3.heap.size, 2, none⟩ = some (.slice B6 q.ds.length d6))) (by kernel_rfl) ?_ (fun hHeld => ?_)
        · (try dsimp only); (first | with_reducible exact sum3 S_1 | with_reducible exact sum3 S0)
        refine wpAnyH_go (i := 0) (d := some 22) (v := ?_) (by rfl) (by kernel_rfl) (by kernel_rfl) (by kernel_rfl) (fun _ _ _ h => h) (by assumption) ?_ ?_
        rotate_left 1
        · (intro oS hoS wS hSw; obtain rfl := Option.some.inj hoS; (try dsimp only at hSw); go_simp; try with_reducible rfl)
        (try simp only [Act.put, List.setIfInBounds_toArray])
        refine wpAnyH_ready (rs := [1]) (by kernel_rfl) (by simp) ?_
        refine AllReadyH.cons rfl (fun KK hK => ?_) AllReadyH.nil
        go_simp
        (go_at_call 70; (with_reducible refine (impl_ratOk' q.g A6 q.xs.length c6 q.xs B6 q.ds.length d6 q.ds _ (S0.out.in1 HG.out) (S0.out.in2 HG.out)).mono ?_); rintro e w5 ⟨⟨b, rfl, hi⟩, hb5⟩; obtain rfl : b = false := (by cases b; rfl; exact absurd (hi.1 rfl) HNK.out); have S_1 := Lib.hid (S0.out.below hb5); have BW5 := Lib.hid (BW4.out.trans (hb5.mono BW4.out.size)); have HB5 := Lib.hid (HB4.out.trans (hb5.mono HB4.out.size)); clear hi hb5)
        (try go_wp2_with fail)
        refine hK.out _ _ ?_ (fun hHeld => ?_)
        · (try dsimp only); (first | with_reducible exact sum3 S_1 | with_reducible exact sum3 S0)
        clear hK KK
        (try simp only [Act.put, List.setIfInBounds_toArray])
        refine wpAnyH_go (i := 2) (d := some 24) (v := ?_) (by rfl) (by kernel_rfl) (by kernel_rfl) (by kernel_rfl) (fun _ _ _ h => h) (by assumption) ?_ ?_
        rotate_left 1
        · (intro oS hoS wS hSw; obtain rfl := Option.some.inj hoS; (try dsimp only at hSw); go_simp; try with_reducible rfl)
        (try simp only [Act.put, List.setIfInBounds_toArray])
        refine wpAnyH_go (i := 3) (d := some 25) (v := ?_) (by rfl) (by kernel_rfl) (by kernel_rfl) (by kernel_rfl) (fun _ _ _ h => h) (by assumption) ?_ ?_
        rotate_left 1
        · (intro oS hoS wS hSw; obtain rfl := Option.some.inj hoS; (try dsimp only at hSw); go_simp; try with_reducible rfl)
        (try simp only [Act.put, List.setIfInBounds_toArray])
        refine wpAnyH_skip (i := 4) (d := some 26) (by rfl) (by kernel_rfl) (by kernel_rfl) (by kernel_rfl) (fun _ _ _ h => h) (by assumption) ?_
        (try simp only [Act.put, List.setIfInBounds_toArray])
        refine wpAnyH_skip (i := 5) (d := some 27) (by rfl) (by kernel_rfl) (by kernel_rfl) (by kernel_rfl) (fun _ _ _ h => h) (by assumption) ?_
        (try simp only [Act.put, List.setIfInBounds_toArray])
        refine wpAnyH_skip (i := 6) (d := some 28) (by rfl) (by kernel_rfl) (by kernel_rfl) (by kernel_rfl) (fun _ _ _ h => h) (by assumption) ?_
        (try simp only [Act.put, List.setIfInBounds_toArray])
        refine wpAnyH_skip (i := 7) (d := some 29) (by rfl) (by kernel_rfl) (by kernel_rfl) (by kernel_rfl) (fun _ _ _ h => h) (by assumption) ?_
        (try simp only [Act.put, List.setIfInBounds_toArray])
        refine wpAnyH_skip (i := 8) (d := some 30) (by rfl) (by kernel_rfl) (by kernel_rfl) (by kernel_rfl) (fun _ _ _ h => h) (by assumption) ?_
        (try simp only [Act.put, List.setIfInBounds_toArray])
        refine wpAnyH_go (i := 9) (d := some 31) (v := ?_) (by rfl) (by kernel_rfl) (by kernel_rfl) (by kernel_rfl) (fun _ _ _ h => h) (by assumption) ?_ ?_
        rotate_left 1
        · (intro oS hoS wS hSw; obtain rfl := Option.some.inj hoS; (try dsimp only at hSw); go_simp; try with_reducible rfl)
        (try simp only [Act.put, List.setIfInBounds_toArray])
        refine wpAnyH_done (by kernel_rfl) ?_ _
        go_wp2_with fail
        go_ret
        exact lpOk_no HF.out BW5.out
      have HK := Lib.hid hk
      have HZB : Hid (-9223372036854775808 ≤ z ∧ z ≤ 9223372036854775807) := ⟨hz0, hz1⟩
      clear hk
      go_wp2_with fail
      go_region_held3 (fun w' => w'.cell? ⟨w3.heap.size, 0, none⟩ = some (.bool q.g) ∧ w'.cell? ⟨w3.heap.size, 1, none⟩ = some (.slice A6 q.xs.length c6) ∧ w'.cell? ⟨w3.heap.size, 2, none⟩ = some (.slice B6 q.ds.length d6)) (first | with_reducible exact sum3 S_3 | with_reducible exact sum3 S_2 | with_reducible exact sum3 S_1 | with_reducible exact sum3 S0) (first | (go_at_call 70; (with_reducible refine (impl_ratOk' q.g A6 q.xs.length c6 q.xs B6 q.ds.length d6 q.ds _ (S0.out.in1 HG.out) (S0.out.in2 HG.out)).mono ?_); rintro e w5 ⟨⟨b, rfl, hi⟩, hb5⟩; obtain rfl : b = true := (by cases b; exact absurd (hi.2 HK.out) (by simp); rfl); have S_1 := Lib.hid (S0.out.below hb5); have BW5 := Lib.hid (BW4.out.trans (hb5.mono BW4.out.size)); have HB5 := Lib.hid (HB4.out.trans (hb5.mono HB4.out.size)); clear hi hb5) | (go_at_call 69; (with_reducible refine (impl_ratFromInt z _ HZB.out).mono ?_); rintro e w6 ⟨gf, rf, vf, df, uf, rfl, hq6, q16, q26, hap6, hb6⟩; obtain ⟨Af, cf, rfl⟩ := own_slice q16.2; obtain ⟨Bf, ef, rfl⟩ := own_slice q26.2; have HQ6 : Hid (RD.mk gf rf df = rint z) := rint_of hq6; have HK6 : Hid (ROk gf rf df) := (by have h0 := HRZ.out; rw [← HQ6.out] at h0; exact h0); have O_6 := Lib.hid q16.2; have U_6 := Lib.hid q26.2; have hf1 : rf.length ≤ 24 := HK6.out.2.2.2.2.1; have hf2 : df.length ≤ 24 := HK6.out.2.2.2.2.2; have S_2 := Lib.hid (S_1.out.below hb6); have BW6 := Lib.hid (BW5.out.trans (hb6.mono BW5.out.size)); have HB6 := Lib.hid (HB5.out.trans (hb6.mono HB5.out.size)); clear hq6 q16 q26 hap6 hb6) | (go_at_call 304; (with_reducible refine (impl_ratCmp0 q.g A6 q.xs.length c6 q.xs B6 q.ds.length d6 q.ds gf Af rf.length cf rf Bf df.length ef df _ (S_2.out.in1 HG.out) S_2.out.room1 (S_2.out.in2 HG.out) S_2.out.room2 (in_gr hf1 (ROk.nr HK6.out) O_6.out) (room_own O_6.out) (in_gr hf2 (ROk.dr HK6.out) U_6.out) (room_own U_6.out)).mono ?_); rintro e w7 ⟨r7, rfl, hcm7, hb7⟩; have S_3 := Lib.hid (S_2.out.below hb7); have BW7 := Lib.hid (BW6.out.trans (hb7.mono BW6.out.size)); have HB7 := Lib.hid (HB6.out.trans (hb7.mono HB6.out.size)); clear hb7))
      have HAL := Lib.hid (atLeast_of HIN.out HK.out HRZ.out HQ6.out hcm7)
      clear hcm7
      by_cases hneg : r7 < 0
      · have HF : Hid (¬ ReachP K la ns P vs) := reach_no HZ.out (fun h => HAL.out.1 h hneg)
        go_wp2_with fail
        go_ret
        exact lpOk_no HF.out BW7.out
      have HNX := Lib.hid (hcols.out.succ HZ.out (HAL.out.2 hneg))
      go_wp2_with fail
      go_roundw
      case rel => exact ⟨i + 1, by omega, by go_num, HNX, HB7⟩
      case measure => simp [intOf]; omega
    · obtain rfl : i = K := by omega
      have HF : Hid (LpOkEnd (ReachP i la ns P vs) w wr (.returned (.bool true))) := lpOk_yes (fun j z hj => by have hlt := (List.getElem?_eq_some_iff.1 hj).1; have hl := HX.out.1; exact hcols.out j z (by omega) hj) BW1.out
      go_wp2_with fail
      go_ret
      exact HF.out
theorem dual_reach {P K : Nat} {la lb lc : List Int} {vs : List RD} (hok : LP.ok ⟨P, K, la, lb, lc⟩) (hr : Rats vs P) : DualP P K la lb lc vs ↔ ReachP K la lc P vs := by
  unfold DualP ReachP
  simp only [Int.toNat_natCast]
  exact ⟨fun h => h.2.2, fun h => ⟨hok, hr, h⟩⟩
set_option maxHeartbeats 3200000 in
theorem impl_isDual0 (p k : Int) (A : Option Addr) (n c : Nat) (la : List Int) (B : Option Addr) (m d : Nat) (lb : List Int) (C : Option Addr) (l f : Nat) (lc : List Int) (E : Option Addr) (nv cv : Nat) (vs : List RD) (w : World) (h : InP w A n la B m lb C l lc) (hc : n ≤ c) (hv : InV w E nv vs) :
    Calls Tryz.prog 296 #[.agg #[.int .i64 p, .int .i64 k, .slice A n c, .slice B m d, .slice C l f], .slice E nv cv] w fun e w' => LpOkEnd (DualP p k la lb lc vs) w w' e := by
  obtain ⟨W0, hW0⟩ : ∃ W, W = (w.alloc (.cells #[.int .i64 p, .int .i64 k, .slice A n c, .slice B m d, .slice C l f] 61)) := ⟨_, rfl⟩
  have hp0_0 : Hid (Box W0 (w.heap.size) 61 #[.int .i64 p, .int .i64 k, .slice A n c, .slice B m d, .slice C l f]) := by rw [hW0]; exact (Box.at' (by simp))
  have BW_0 : Hid (Below w.heap.size w W0) := by rw [hW0]; exact ((Below.refl w.heap.size w).alloc (by simp) _)
  have hsz0 : w.heap.size + 1 ≤ W0.heap.size := by rw [hW0]; simp
  have HI := Lib.hid (h.below BW_0.out)
  have HV := Lib.hid (hv.below BW_0.out)
  have hnv := hv.2.1
  clear h hv
  go_enter Tryz.func296, Tryz.ntmps296
  go_wp2_with fail
  rw [← hW0]
  clear hW0
  refine (impl_linearOf p k A n c la B m d lb C l f lc _ HI.out).mono ?_
  rintro e w1 ⟨b1, rfl, h1, hb⟩
  have hp0_1 := Lib.hid (hp0_0.out.below hb hp0_0.out.lt)
  have BW_1 := Lib.hid (BW_0.out.trans (hb.mono BW_0.out.size))
  replace HI := Lib.hid (HI.out.below hb)
  replace HV := Lib.hid (HV.out.below hb)
  clear hb
  have H1 := Lib.hid h1
  clear h1
  have hbx : Below w1.heap.size w1 (w1.alloc (.cells #[.int .i64 p, .int .i64 k, .slice A n c, .slice B m d, .slice C l f] 128)) := (Below.refl _ _).alloc (Nat.le_refl _) _
  have hp0_x := Lib.hid (hp0_1.out.below hbx hp0_1.out.lt)
  have hq0_x : Hid (Box (w1.alloc (.cells #[.int .i64 p, .int .i64 k, .slice A n c, .slice B m d, .slice C l f] 128)) w1.heap.size 128 #[.int .i64 p, .int .i64 k, .slice A n c, .slice B m d, .slice C l f]) := Box.new _ _ _
  have BW_x := Lib.hid (BW_1.out.trans (hbx.mono BW_1.out.size))
  replace HI := Lib.hid (HI.out.below hbx)
  replace HV := Lib.hid (HV.out.below hbx)
  clear hbx
  have ehp00 := hp0_x.out.cell 0
  have ehp01 := hp0_x.out.cell 1
  have ehp02 := hp0_x.out.cell 2
  have ehp03 := hp0_x.out.cell 3
  have ehp04 := hp0_x.out.cell 4
  simp at ehp00 ehp01 ehp02 ehp03 ehp04
  cases b1
  case false =>
    have HF := Lib.hid (lpOk_no (Q := DualP p k la lb lc vs) (fun q => by have := H1.out.2 q.1; cases this) BW_x.out)
    go_wp2_with fail
    go_ret
    exact HF.out
  have HOK : Hid (LP.ok ⟨p, k, la, lb, lc⟩) := H1.out.1 rfl
  clear H1
  go_wp2_with fail
  clear ehp00 ehp01 ehp02 ehp03 ehp04
  refine (impl_areRats E nv cv vs p _ HV.out).mono ?_
  rintro e w2 ⟨b2, rfl, h2, hb⟩
  have hp0_2 := Lib.hid (hp0_x.out.below hb hp0_x.out.lt)
  have hq0_2 := Lib.hid (hq0_x.out.below hb hq0_x.out.lt)
  have BW_2 := Lib.hid (BW_x.out.trans (hb.mono BW_x.out.size))
  replace HI := Lib.hid (HI.out.below hb)
  replace HV := Lib.hid (HV.out.below hb)
  clear hb
  have H2 := Lib.hid h2
  clear h2
  cases b2
  case false =>
    have HF : Hid (LpOkEnd (DualP p k la lb lc vs) w w2 (.returned (.bool false))) := lpOk_no (fun q => by have := H2.out.2 q.2.1; cases this) BW_2.out
    go_wp2_with fail
    go_ret
    exact HF.out
  have HRV : Hid (Rats vs p) := H2.out.1 rfl
  obtain ⟨P, K, hP, hK, hP20, hK40, hla, _, hlc⟩ := HOK.out.nats
  simp only at hP hK hla hlc
  subst hP hK
  have HLA : Hid (n = P * K) := by rw [← HI.out.1.1]; exact hla
  have HNV : Hid (nv = P) := by have h1 := HRV.out.1; rw [HV.out.1] at h1; unfold Hid; omega
  have HLC : Hid (l = K) := by rw [← HI.out.2.2.1]; exact hlc
  obtain rfl := HNV.out
  obtain rfl := HLC.out
  clear hla hlc
  have eq0 := hq0_2.out.cell 0
  have eq1 := hq0_2.out.cell 1
  have eq2 := hq0_2.out.cell 2
  have eq3 := hq0_2.out.cell 3
  have eq4 := hq0_2.out.cell 4
  simp at eq0 eq1 eq2 eq3 eq4
  go_wp2_with fail
  clear eq0 eq1 eq2 eq3 eq4
  refine (impl_reaches nv l A n c la C f lc E cv vs _ HI.out.1 HLA.out hP20 hK40 hc HOK.out.1.2.2.2 HI.out.2.2 HOK.out.2.2.2 HV.out).mono ?_
  rintro e w3 ⟨b, rfl, hr, hb⟩
  have HF : Hid (LpOkEnd (DualP nv l la lb lc vs) w w3 (.returned (.bool b))) := ⟨b, rfl, by rw [dual_reach HOK.out HRV.out]; exact hr, BW_2.out.trans (hb.mono BW_2.out.size)⟩
  clear hr hb
  go_wp2_with fail
  go_ret
  exact HF.out
end Go.Proofs.YtegclofijaoajaaGreat
