/- Contracts of linear programs, by the model: IsDual, IsFarkas. -/
import Derived.Test.YtegclofijaoajaaGreatLpS4
namespace Go.Proofs.YtegclofijaoajaaGreat
set_option maxRecDepth 100000
open Go.RowKit

/-- A list of entries that a call has handed back, as one that is handed in. -/
theorem intsEnd_open {r : List Int} {n : Nat} {w w' : World} {e : Ending} (h : IntsEnd r w w' e) (hn : r.length = n) (he : Ent r) (hm : n ≤ 1048576) : ∃ A c, e = .returned (.slice A n c) ∧ InI w' A n r ∧ Below w.heap.size w w' := by
  obtain ⟨v, rfl, ⟨_, ho⟩, hb⟩ := h
  obtain ⟨A, c, rfl⟩ := own_slice ho
  subst hn
  exact ⟨A, c, rfl, ⟨rfl, hm, Reads.of_own ho, fun z hz => by have := he z hz; omega⟩, hb⟩
/-- The first i columns reach what they are to reach. -/
def ColsTo (K : Nat) (la lc : List Int) (P : Nat) (vs : List RD) (i : Nat) : Prop := ∀ j n, j < i → lc[j]? = some n → AtLeast (ldot (lcol K la P j) vs) n
theorem ColsTo.zero (K : Nat) (la lc : List Int) (P : Nat) (vs : List RD) : ColsTo K la lc P vs 0 := fun _ _ h => absurd h (Nat.not_lt_zero _)
theorem ColsTo.succ {K P i : Nat} {la lc : List Int} {vs : List RD} {z : Int} (h : ColsTo K la lc P vs i) (hz : lc[i]? = some z) (he : AtLeast (ldot (lcol K la P i) vs) z) : ColsTo K la lc P vs (i + 1) := fun j n hj hn => by
  by_cases hji : j = i
  · subst hji; rw [hz] at hn; cases hn; exact he
  · exact h j n (by omega) hn
theorem dual_long {P K i : Nat} {la lb lc : List Int} {vs : List RD} {z : Int} (hz : lc[i]? = some z) (h : ¬ (ldot (lcol K la P i) vs).ok) : ¬ DualP P K la lb lc vs := fun q => by
  have h1 := q.2.2 i z hz
  rw [Int.toNat_natCast, Int.toNat_natCast] at h1
  exact h h1.1
theorem dual_off {P K i : Nat} {la lb lc : List Int} {vs : List RD} {z : Int} {g gf : Bool} {l d lf df : List Int} (hz : lc[i]? = some z) (h : RD.mk g l d = ldot (lcol K la P i) vs ∧ ROk g l d) (hf : gf = (rint z).g ∧ lf = (rint z).xs ∧ df = (rint z).ds) (hc : cmpV (bval g l * val df) (bval gf lf * val d) < 0) : ¬ DualP P K la lb lc vs := fun q => by
  have h1 := q.2.2 i z hz
  rw [Int.toNat_natCast, Int.toNat_natCast] at h1
  rw [cross_of h.1 hf] at hc
  exact h1.2 hc
theorem dual_on {K i P : Nat} {la : List Int} {vs : List RD} {z : Int} {g gf : Bool} {l d lf df : List Int} (h : RD.mk g l d = ldot (lcol K la P i) vs ∧ ROk g l d) (hf : gf = (rint z).g ∧ lf = (rint z).xs ∧ df = (rint z).ds) (hc : ¬ cmpV (bval g l * val df) (bval gf lf * val d) < 0) : AtLeast (ldot (lcol K la P i) vs) z := by
  rw [cross_of h.1 hf] at hc
  exact ⟨by rw [← h.1]; exact h.2, hc⟩
set_option maxHeartbeats 6400000 in
theorem spec_isDual0 (p k : Int) (A : Option Addr) (n c : Nat) (la : List Int) (B : Option Addr) (m d : Nat) (lb : List Int) (C : Option Addr) (l f : Nat) (lc : List Int) (E : Option Addr) (nv cv : Nat) (vs : List RD) (w : World) (h : InP w A n la B m lb C l lc) (hv : InV w E nv vs) :
    Calls Tryz.prog 133 #[.agg #[.int .i64 p, .int .i64 k, .slice A n c, .slice B m d, .slice C l f], .slice E nv cv] w fun e w' => LpOkEnd (DualP p k la lb lc vs) w w' e := by
  obtain ⟨W0, hW0⟩ : ∃ W, W = (w.alloc (.cells #[.int .i64 p, .int .i64 k, .slice A n c, .slice B m d, .slice C l f] 61)) := ⟨_, rfl⟩
  have hp0_0 : Hid (Box W0 (w.heap.size) 61 #[.int .i64 p, .int .i64 k, .slice A n c, .slice B m d, .slice C l f]) := by rw [hW0]; exact (Box.at' (by simp))
  have BW_0 : Hid (Below w.heap.size w W0) := by rw [hW0]; exact ((Below.refl w.heap.size w).alloc (by simp) _)
  have hsz0 : w.heap.size + 1 ≤ W0.heap.size := by rw [hW0]; simp
  have HI := Lib.hid (h.below BW_0.out)
  have HV := Lib.hid (hv.below BW_0.out)
  have hnv := hv.2.1
  clear h hv
  go_enter Tryz.func133, Tryz.ntmps133
  go_wp2_with fail
  rw [← hW0]
  clear hW0
  refine (spec_programOk0 p k A n c la B m d lb C l f lc _ HI.out).mono ?_
  rintro e w1 ⟨b1, rfl, h1, hb⟩
  have hp0_1 := Lib.hid (hp0_0.out.below hb hp0_0.out.lt)
  have BW_1 := Lib.hid (BW_0.out.trans (hb.mono BW_0.out.size))
  replace HI := Lib.hid (HI.out.below hb)
  replace HV := Lib.hid (HV.out.below hb)
  clear hb
  have H1 := Lib.hid h1
  clear h1
  have ehp00 := hp0_1.out.cell 0
  have ehp01 := hp0_1.out.cell 1
  have ehp02 := hp0_1.out.cell 2
  have ehp03 := hp0_1.out.cell 3
  have ehp04 := hp0_1.out.cell 4
  simp at ehp00 ehp01 ehp02 ehp03 ehp04
  cases b1
  case false =>
    have HF : Hid (LpOkEnd (DualP p k la lb lc vs) w w1 (.returned (.bool false))) := lpOk_no (fun q => by have := H1.out.2 q.1; cases this) BW_1.out
    go_wp2_with fail
    go_ret
    exact HF.out
  have HOK : Hid (LP.ok ⟨p, k, la, lb, lc⟩) := H1.out.1 rfl
  by_cases hne : ((nv : Int) != p) = true
  · have HF : Hid (LpOkEnd (DualP p k la lb lc vs) w w1 (.returned (.bool false))) := lpOk_no (fun q => by have h2 := q.2.1.1; rw [HV.out.1] at h2; simp at hne; exact hne h2) BW_1.out
    have HNE := Lib.hid hne
    go_wp2_with fail
    go_ret
    exact HF.out
  have hne2 : ((nv : Int) != p) = false := by simpa using hne
  have HNV : Hid ((nv : Int) = p) := by unfold Hid; simpa using hne
  clear hne
  go_wp2_with fail
  clear ehp00 ehp01 ehp02 ehp03 ehp04
  clear hne2
  refine (spec_l09Valid E nv cv vs _ HV.out).mono ?_
  rintro e w2 ⟨b2, rfl, h2, hb⟩
  have hp0_2 := Lib.hid (hp0_1.out.below hb hp0_1.out.lt)
  have BW_2 := Lib.hid (BW_1.out.trans (hb.mono BW_1.out.size))
  replace HI := Lib.hid (HI.out.below hb)
  replace HV := Lib.hid (HV.out.below hb)
  clear hb
  have H2 := Lib.hid h2
  clear h2
  cases b2
  case false =>
    have HF : Hid (LpOkEnd (DualP p k la lb lc vs) w w2 (.returned (.bool false))) := lpOk_no (fun q => by have := H2.out.2 q.2.1.2; cases this) BW_2.out
    go_wp2_with fail
    go_ret
    exact HF.out
  have HOKV : Hid (AllOk vs) := H2.out.1 rfl
  clear H1 H2
  have ehp00 := hp0_2.out.cell 0
  have ehp01 := hp0_2.out.cell 1
  have ehp02 := hp0_2.out.cell 2
  have ehp03 := hp0_2.out.cell 3
  have ehp04 := hp0_2.out.cell 4
  simp at ehp00 ehp01 ehp02 ehp03 ehp04
  obtain ⟨P, K, hP, hK, hP20, hK40, hla, _, hlc⟩ := HOK.out.nats
  simp only at hP hK hla hlc
  subst hP hK
  have HLA : Hid (n = P * K) := by rw [← HI.out.1.1]; exact hla
  have HLC : Hid (l = K) := by rw [← HI.out.2.2.1]; exact hlc
  obtain rfl : nv = P := by have := HNV.out; omega
  clear hla hlc
  go_wp2_with fail
  clear ehp00 ehp01 ehp02 ehp03 ehp04
  go_loopw [5] (fun x wq => ∃ i : Nat, i ≤ K ∧ x = .int .i64 i ∧ Hid (ColsTo K la lc nv vs i) ∧ Hid (Below w2.heap.size w2 wq)) (fun x _ => K - (intOf x).toNat)
  case atStart => exact ⟨0, Nat.zero_le _, rfl, ColsTo.zero _ _ _ _ _, Below.refl _ _⟩
  case round =>
    obtain ⟨i, hle, rfl, hcols, hb⟩ := hrel
    have P3 := Lib.hid (hp0_2.out.below hb.out hp0_2.out.lt)
    have HI3 := Lib.hid (HI.out.below hb.out)
    have HV3 := Lib.hid (HV.out.below hb.out)
    have BW3 := Lib.hid (BW_2.out.trans (hb.out.mono BW_2.out.size))
    have ep0 := P3.out.cell 0
    have ep1 := P3.out.cell 1
    have ep2 := P3.out.cell 2
    have ep3 := P3.out.cell 3
    have ep4 := P3.out.cell 4
    simp at ep0 ep1 ep2 ep3 ep4
    by_cases hlt : i < K
    · have hii : (i : Int) < (K : Int) := by omega
      go_wp2_with fail
      clear ep0 ep1 ep2 ep3 ep4
      refine (spec_l09Column nv K i A n c la B m d C l f _ HI3.out.1 HLA.out hlt hP20).mono ?_
      rintro e wa hends
      obtain ⟨A2, c2, rfl, hr, hba⟩ := intsEnd_open hends (lcol_length _ _ _ _) (ent_lcol HOK.out.1.2.2.2) hnv
      have HR := Lib.hid hr
      have HVa := Lib.hid (HV3.out.below hba)
      have HIa := Lib.hid (HI3.out.below hba)
      have Pa := Lib.hid (P3.out.below hba P3.out.lt)
      have BWa := Lib.hid (BW3.out.trans (hba.mono BW3.out.size))
      have HBa := Lib.hid (hb.out.trans (hba.mono hb.out.size))
      clear hends hr hba
      go_wp2_with fail
      refine (spec_l09Sum A2 nv c2 (lcol K la nv i) E cv vs _ HR.out HVa.out).mono ?_
      rintro e w4 ⟨g, rr, v, dd, u, b, rfl, hq, q1, q2, hap, hb4⟩
      obtain ⟨A6, c6, rfl⟩ := own_slice q1.2
      obtain ⟨B6, d6, rfl⟩ := own_slice q2.2
      have HQ := Lib.hid hq
      have HO1 := Lib.hid q1
      have HO2 := Lib.hid q2
      have HI4 := Lib.hid (HIa.out.below hb4)
      have P4 := Lib.hid (Pa.out.below hb4 Pa.out.lt)
      have BW4 := Lib.hid (BWa.out.trans (hb4.mono BWa.out.size))
      have HB4 := Lib.hid (HBa.out.trans (hb4.mono HBa.out.size))
      clear hq q1 q2 hap hb4
      obtain ⟨b0, o0, z, hC, hz, hcell, hbl, hz0, hz1⟩ := HI4.out.ic.get (show i < l by rw [HLC.out]; exact hlt)
      subst hC
      have HZ := Lib.hid hz
      have hent : -100 ≤ z ∧ z ≤ 100 := HOK.out.2.2.2 z (List.mem_of_getElem? hz)
      have HRZ : Hid (rint z).ok := rint_okc hent
      have hi0 : (0 : Int) ≤ (i : Int) := by omega
      have him : (i : Int) < (l : Int) := by have := HLC.out; omega
      clear hz hent
      cases b
      case false =>
        have HF : Hid (¬ DualP nv K la lb lc vs) := dual_long HZ.out (not_fits HQ.out)
        have BWn := Lib.hid (BW4.out.alloc BW4.out.size (.cells #[.bool g, .slice A6 rr.length c6, .slice B6 dd.length d6] 34)).drew
        clear hz0 hz1 hcell
        go_wp2_with fail
        refine wp_region_held_drew (S := (fun _ => True)) (by kernel_rfl) ?_ (fun hHeld => ?_)
        · (try dsimp only); (try trivial)
        refine wpAnyH_go (i := 0) (d := some 37) (v := ?_) (by rfl) (by kernel_rfl) (by kernel_rfl) (by kernel_rfl) (fun _ _ _ h => h) (by assumption) ?_ ?_
        rotate_left 1
        · (intro oS hoS wS hSw; obtain rfl := Option.some.inj hoS; (try dsimp only at hSw); go_simp; try with_reducible rfl)
        (try simp only [Act.put, List.setIfInBounds_toArray])
        refine wpAnyH_go (i := 1) (d := some 38) (v := ?_) (by rfl) (by kernel_rfl) (by kernel_rfl) (by kernel_rfl) (fun _ _ _ h => h) (by assumption) ?_ ?_
        rotate_left 1
        · (intro oS hoS wS hSw; obtain rfl := Option.some.inj hoS; (try dsimp only at hSw); go_simp; try with_reducible rfl)
        (try simp only [Act.put, List.setIfInBounds_toArray])
        refine wpAnyH_go (i := 2) (d := some 39) (v := ?_) (by rfl) (by kernel_rfl) (by kernel_rfl) (by kernel_rfl) (fun _ _ _ h => h) (by assumption) ?_ ?_
        rotate_left 1
        · (intro oS hoS wS hSw; obtain rfl := Option.some.inj hoS; (try dsimp only at hSw); go_simp; try with_reducible rfl)
        (try simp only [Act.put, List.setIfInBounds_toArray])
        refine wpAnyH_skip (i := 3) (d := some 40) (by rfl) (by kernel_rfl) (by kernel_rfl) (by kernel_rfl) (fun _ _ _ h => h) (by assumption) ?_
        (try simp only [Act.put, List.setIfInBounds_toArray])
        refine wpAnyH_skip (i := 4) (d := some 41) (by rfl) (by kernel_rfl) (by kernel_rfl) (by kernel_rfl) (fun _ _ _ h => h) (by assumption) ?_
        (try simp only [Act.put, List.setIfInBounds_toArray])
        refine wpAnyH_skip (i := 5) (d := some 42) (by rfl) (by kernel_rfl) (by kernel_rfl) (by kernel_rfl) (fun _ _ _ h => h) (by assumption) ?_
        (try simp only [Act.put, List.setIfInBounds_toArray])
        refine wpAnyH_skip (i := 6) (d := some 43) (by rfl) (by kernel_rfl) (by kernel_rfl) (by kernel_rfl) (fun _ _ _ h => h) (by assumption) ?_
        (try simp only [Act.put, List.setIfInBounds_toArray])
        refine wpAnyH_skip (i := 7) (d := some 44) (by rfl) (by kernel_rfl) (by kernel_rfl) (by kernel_rfl) (fun _ _ _ h => h) (by assumption) ?_
        (try simp only [Act.put, List.setIfInBounds_toArray])
        refine wpAnyH_skip (i := 8) (d := some 45) (by rfl) (by kernel_rfl) (by kernel_rfl) (by kernel_rfl) (fun _ _ _ h => h) (by assumption) ?_
        (try simp only [Act.put, List.setIfInBounds_toArray])
        refine wpAnyH_skip (i := 9) (d := some 46) (by rfl) (by kernel_rfl) (by kernel_rfl) (by kernel_rfl) (fun _ _ _ h => h) (by assumption) ?_
        (try simp only [Act.put, List.setIfInBounds_toArray])
        refine wpAnyH_skip (i := 10) (d := some 47) (by rfl) (by kernel_rfl) (by kernel_rfl) (by kernel_rfl) (fun _ _ _ h => h) (by assumption) ?_
        (try simp only [Act.put, List.setIfInBounds_toArray])
        refine wpAnyH_skip (i := 11) (d := some 48) (by rfl) (by kernel_rfl) (by kernel_rfl) (by kernel_rfl) (fun _ _ _ h => h) (by assumption) ?_
        (try simp only [Act.put, List.setIfInBounds_toArray])
        refine wpAnyH_go (i := 12) (d := some 49) (v := ?_) (by rfl) (by kernel_rfl) (by kernel_rfl) (by kernel_rfl) (fun _ _ _ h => h) (by assumption) ?_ ?_
        rotate_left 1
        · (intro oS hoS wS hSw; obtain rfl := Option.some.inj hoS; (try dsimp only at hSw); go_simp; try with_reducible rfl)
        (try simp only [Act.put, List.setIfInBounds_toArray])
        refine wpAnyH_done (by kernel_rfl) ?_ _
        go_wp2_with fail
        go_ret
        exact lpOk_no HF.out BWn.out
      have HCV : Hid ((#[.int .i64 nv, .int .i64 K, .slice A n c, .slice B m d, .slice (some ⟨b0, o0, none⟩) l f] : Array Value)[4]? = some (.slice (some ⟨b0, o0, none⟩) l f)) := rfl
      have X_5 : Hid (Box (w4.alloc (.cells #[.bool g, .slice A6 rr.length c6, .slice B6 dd.length d6] 34)).drew w4.heap.size 34 #[.bool g, .slice A6 rr.length c6, .slice B6 dd.length d6]) := (Box.new _ _ _).drew
      have P_5 : Hid (Box (w4.alloc (.cells #[.bool g, .slice A6 rr.length c6, .slice B6 dd.length d6] 34)).drew w.heap.size 61 #[.int .i64 nv, .int .i64 K, .slice A n c, .slice B m d, .slice (some ⟨b0, o0, none⟩) l f]) := (P4.out.alloc _).drew
      have hbx : Below w4.heap.size w4 (w4.alloc (.cells #[.bool g, .slice A6 rr.length c6, .slice B6 dd.length d6] 34)) := (Below.refl _ _).alloc (Nat.le_refl _) _
      have C_5 : Hid ((w4.alloc (.cells #[.bool g, .slice A6 rr.length c6, .slice B6 dd.length d6] 34)).drew.cell? ⟨b0, o0 + i, none⟩ = some (.int .i64 z)) := (hbx.cell (p := ⟨b0, o0 + i, none⟩) hbl).trans hcell
      have HL5 : Hid (b0 < (w4.alloc (.cells #[.bool g, .slice A6 rr.length c6, .slice B6 dd.length d6] 34)).drew.heap.size) := Nat.lt_of_lt_of_le hbl hbx.size
      have BW5 := Lib.hid (BW4.out.alloc BW4.out.size (.cells #[.bool g, .slice A6 rr.length c6, .slice B6 dd.length d6] 34)).drew
      have HB5 := Lib.hid (HB4.out.alloc HB4.out.size (.cells #[.bool g, .slice A6 rr.length c6, .slice B6 dd.length d6] 34)).drew
      have HSK : Hid (ROk g rr dd) := (fits_is HQ.out).2
      have O_5 := Lib.hid (own_drew (HO1.out.2.alloc (.cells #[.bool g, .slice A6 rr.length c6, .slice B6 dd.length d6] 34)))
      have U_5 := Lib.hid (own_drew (HO2.out.2.alloc (.cells #[.bool g, .slice A6 rr.length c6, .slice B6 dd.length d6] 34)))
      have hs1 : rr.length ≤ 24 := HSK.out.2.2.2.2.1
      have hs2 : dd.length ≤ 24 := HSK.out.2.2.2.2.2
      have HZB : Hid (-9223372036854775808 ≤ z ∧ z ≤ 9223372036854775807) := ⟨by omega, by omega⟩
      clear hcell hbx
      go_wp2_with fail
      go_region_held3 (fun w' => w'.cell? ⟨w4.heap.size, 0, none⟩ = some (.bool g) ∧ w'.cell? ⟨w4.heap.size, 1, none⟩ = some (.slice A6 rr.length c6) ∧ w'.cell? ⟨w4.heap.size, 2, none⟩ = some (.slice B6 dd.length d6) ∧ w'.cell? ⟨w.heap.size, 4, none⟩ = some (.slice (some ⟨b0, o0, none⟩) l f) ∧ w'.cell? ⟨b0, o0 + i, none⟩ = some (.int .i64 z)) (first | with_reducible exact cmpS X_7 P_7 HCV C_7 | with_reducible exact cmpS X_6 P_6 HCV C_6 | with_reducible exact cmpS X_5 P_5 HCV C_5) (first | (go_at_call 184; (with_reducible refine (spec_ratFromInt z _ HZB.out).mono ?_); rintro e w6 ⟨gf, rf, vf, df, uf, rfl, hq6, q16, q26, hap6, hb6⟩; obtain ⟨Af, cf, rfl⟩ := own_slice q16.2; obtain ⟨Bf, ef, rfl⟩ := own_slice q26.2; have HQ6 : Hid (RD.mk gf rf df = rint z) := rint_of hq6; have HK6 : Hid (ROk gf rf df) := (by have h0 := HRZ.out; rw [← HQ6.out] at h0; exact h0); have O_6 := Lib.hid q16.2; have U_6 := Lib.hid q26.2; have hf1 : rf.length ≤ 24 := HK6.out.2.2.2.2.1; have hf2 : df.length ≤ 24 := HK6.out.2.2.2.2.2; have X_6 := Lib.hid (X_5.out.below hb6 X_5.out.lt); have P_6 := Lib.hid (P_5.out.below hb6 P_5.out.lt); have C_6 := Lib.hid ((hb6.cell (p := ⟨b0, o0 + i, none⟩) HL5.out).trans C_5.out); have HL6 := Lib.hid (Nat.lt_of_lt_of_le HL5.out hb6.size); have BW6 := Lib.hid (BW5.out.trans (hb6.mono BW5.out.size)); have HB6 := Lib.hid (HB5.out.trans (hb6.mono HB5.out.size)); have O_56 := Lib.hid (own_below O_5.out hb6); have U_56 := Lib.hid (own_below U_5.out hb6); clear hq6 q16 q26 hap6 hb6) | (go_at_call 201; (with_reducible refine (spec_l04Cmp g A6 rr.length c6 rr B6 dd.length d6 dd gf Af rf.length cf rf Bf df.length ef df _ (in_gr hs1 (ROk.nr HSK.out) O_56.out) (room_own O_56.out) (in_gr hs2 (ROk.dr HSK.out) U_56.out) (room_own U_56.out) (in_gr hf1 (ROk.nr HK6.out) O_6.out) (room_own O_6.out) (in_gr hf2 (ROk.dr HK6.out) U_6.out) (room_own U_6.out) HSK.out HK6.out).mono ?_); rintro e w7 ⟨rfl, hb7⟩; have X_7 := Lib.hid (X_6.out.below hb7 X_6.out.lt); have P_7 := Lib.hid (P_6.out.below hb7 P_6.out.lt); have C_7 := Lib.hid ((hb7.cell (p := ⟨b0, o0 + i, none⟩) HL6.out).trans C_6.out); have BW7 := Lib.hid (BW6.out.trans (hb7.mono BW6.out.size)); have HB7 := Lib.hid (HB6.out.trans (hb7.mono HB6.out.size)); clear hb7))
      have HQ6' : gf = (rint z).g ∧ rf = (rint z).xs ∧ df = (rint z).ds := by rw [← HQ6.out]; exact ⟨rfl, rfl, rfl⟩
      by_cases hcm : cmpV (bval g rr * val df) (bval gf rf * val dd) < 0
      · have HF : Hid (¬ DualP nv K la lb lc vs) := dual_off HZ.out (fits_is HQ.out) HQ6' hcm
        have HCM := hcm
        clear hcm
        go_wp2_with fail
        go_ret
        exact lpOk_no HF.out BW7.out
      have hcm2 : ¬ cmpV (bval g rr * val df) (bval gf rf * val dd) < 0 := hcm
      have HNX := Lib.hid (dual_on (fits_is HQ.out) HQ6' hcm2)
      clear hcm
      go_wp2_with fail
      go_roundw
      case rel => exact ⟨i + 1, by omega, by go_num, Lib.hid (hcols.out.succ HZ.out HNX.out), HB7⟩
      case measure => simp [intOf]; omega
    · obtain rfl : i = K := by omega
      have HF : Hid (LpOkEnd (DualP nv i la lb lc vs) w wr (.returned (.bool true))) := lpOk_yes ⟨HOK.out, ⟨by rw [HV.out.1], HOKV.out⟩, fun j z hj => by have hlt := (List.getElem?_eq_some_iff.1 hj).1; have hl := HI.out.2.2.1; simpa using hcols.out j z (by have := HLC.out; omega) hj⟩ BW3.out
      go_wp2_with fail
      go_ret
      exact HF.out
/-- The sum of the first i columns is not negative. -/
def NonTo (K : Nat) (la : List Int) (P : Nat) (vs : List RD) (i : Nat) : Prop := ∀ j, j < i → AtLeast (ldot (lcol K la P j) vs) 0
theorem NonTo.zero (K : Nat) (la : List Int) (P : Nat) (vs : List RD) : NonTo K la P vs 0 := fun _ h => absurd h (Nat.not_lt_zero _)
theorem NonTo.succ {K P i : Nat} {la : List Int} {vs : List RD} (h : NonTo K la P vs i) (he : AtLeast (ldot (lcol K la P i) vs) 0) : NonTo K la P vs (i + 1) := fun j hj => by
  by_cases hji : j = i
  · subst hji; exact he
  · exact h j (by omega)
theorem far_col {P K i : Nat} {la lb lc : List Int} {vs : List RD} (hi : i < K) (h : ¬ AtLeast (ldot (lcol K la P i) vs) 0) : ¬ FarkasP P K la lb lc vs := fun q => by
  have h1 := q.2.2 i (by rw [Int.toNat_natCast]; exact hi)
  rw [Int.toNat_natCast, Int.toNat_natCast] at h1
  exact h h1
/-- What the sign of a valid sum tells. -/
theorem sign_is {s : RD} {g : Bool} {l d : List Int} {r : Int} (h : RD.mk g l d = s ∧ ROk g l d) (hr : RatSignIs g l d r) : r < 0 ↔ s.g = true := by
  rcases hr with ⟨_, rfl⟩ | ⟨hn, _⟩
  · rw [sg_neg, ← h.1]
  · exact absurd h.2 hn
theorem bound_off {p k : Int} {la lb lc : List Int} {vs : List RD} {g : Bool} {l d : List Int} (h : BoundAtIs p k la lb lc vs g l d false) : ¬ FarkasP p k la lb lc vs := fun q => by
  rcases h with ⟨_, _, h⟩ | ⟨h, _⟩
  · cases h
  · exact h ⟨q.1, q.2.1.1⟩
theorem bound_is {p k : Int} {la lb lc : List Int} {vs : List RD} {g : Bool} {l d : List Int} (h : BoundAtIs p k la lb lc vs g l d true) : ((LP.mk p k la lb lc).ok ∧ Rats vs p) ∧ RD.mk g l d = ldot lb vs ∧ ROk g l d := by
  rcases h with ⟨⟨hc, k⟩, e, _⟩ | ⟨_, _, h⟩
  · refine ⟨hc, e, ?_⟩
    rw [← e] at k
    exact k
  · cases h
theorem non_of {s : RD} {g : Bool} {l d : List Int} {r : Int} (h : RD.mk g l d = s ∧ ROk g l d) (hr : RatSignIs g l d r) : AtLeast s 0 ↔ ¬ r < 0 := by
  rw [atLeast0, sign_is h hr]
  have hk : s.ok := by rw [← h.1]; exact h.2
  simp [hk]
set_option maxHeartbeats 6400000 in
theorem spec_isFarkas0 (p k : Int) (A : Option Addr) (n c : Nat) (la : List Int) (B : Option Addr) (m d : Nat) (lb : List Int) (C : Option Addr) (l f : Nat) (lc : List Int) (E : Option Addr) (nv cv : Nat) (vs : List RD) (w : World) (h : InP w A n la B m lb C l lc) (hv : InV w E nv vs) :
    Calls Tryz.prog 128 #[.agg #[.int .i64 p, .int .i64 k, .slice A n c, .slice B m d, .slice C l f], .slice E nv cv] w fun e w' => LpOkEnd (FarkasP p k la lb lc vs) w w' e := by
  obtain ⟨W0, hW0⟩ : ∃ W, W = (w.alloc (.cells #[.int .i64 p, .int .i64 k, .slice A n c, .slice B m d, .slice C l f] 61)) := ⟨_, rfl⟩
  have hp0_0 : Hid (Box W0 (w.heap.size) 61 #[.int .i64 p, .int .i64 k, .slice A n c, .slice B m d, .slice C l f]) := by rw [hW0]; exact (Box.at' (by simp))
  have BW_0 : Hid (Below w.heap.size w W0) := by rw [hW0]; exact ((Below.refl w.heap.size w).alloc (by simp) _)
  have hsz0 : w.heap.size + 1 ≤ W0.heap.size := by rw [hW0]; simp
  have HI := Lib.hid (h.below BW_0.out)
  have HV := Lib.hid (hv.below BW_0.out)
  have hnv := hv.2.1
  clear h hv
  go_enter Tryz.func128, Tryz.ntmps128
  go_wp2_with fail
  rw [← hW0]
  clear hW0
  refine (spec_boundAt0 p k A n c la B m d lb C l f lc E nv cv vs _ HI.out HV.out).mono ?_
  rintro e w1 ⟨g, rr, v, dd, u, b, rfl, hq, q1, q2, hap, hb⟩
  obtain ⟨A6, c6, rfl⟩ := own_slice q1.2
  obtain ⟨B6, d6, rfl⟩ := own_slice q2.2
  have HQ := Lib.hid hq
  have hbx : Below w1.heap.size w1 (w1.alloc (.cells #[.bool g, .slice A6 rr.length c6, .slice B6 dd.length d6] 34)) := (Below.refl _ _).alloc (Nat.le_refl _) _
  have O_1 := Lib.hid (own_below q1.2 hbx)
  have U_1 := Lib.hid (own_below q2.2 hbx)
  have hp0_1 := Lib.hid (hp0_0.out.below hb hp0_0.out.lt)
  have BW_1 := Lib.hid (BW_0.out.trans (hb.mono BW_0.out.size))
  replace HI := Lib.hid (HI.out.below hb)
  replace HV := Lib.hid (HV.out.below hb)
  clear hb
  have BW_2 := Lib.hid (BW_1.out.trans (hbx.mono BW_1.out.size))
  have HI2 := Lib.hid (HI.out.below hbx)
  have HV2 := Lib.hid (HV.out.below hbx)
  have hp0_2 := Lib.hid (hp0_1.out.below hbx hp0_1.out.lt)
  clear hq q1 q2 hap hbx
  cases b
  case false =>
    have HF := Lib.hid (lpOk_no (bound_off HQ.out) BW_2.out)
    go_wp2_with fail
    go_ret
    exact HF.out
  have HBI := Lib.hid (bound_is HQ.out)
  have hs1 : rr.length ≤ 24 := HBI.out.2.2.2.2.2.2.1
  have hs2 : dd.length ≤ 24 := HBI.out.2.2.2.2.2.2.2
  go_wp2_with fail
  refine (spec_ratSign0 g A6 rr.length c6 rr B6 dd.length d6 dd _ (in_gr hs1 (ROk.nr HBI.out.2.2) O_1.out) (room_own O_1.out) (in_gr hs2 (ROk.dr HBI.out.2.2) U_1.out) (room_own U_1.out)).mono ?_
  rintro e w3 ⟨s, rfl, hs, hb3⟩
  have HS := Lib.hid (sign_is HBI.out.2 hs)
  have BW_3 := Lib.hid (BW_2.out.trans (hb3.mono BW_2.out.size))
  have HI_3 := Lib.hid (HI2.out.below hb3)
  have HV_3 := Lib.hid (HV2.out.below hb3)
  have hp0_3 := Lib.hid (hp0_2.out.below hb3 hp0_2.out.lt)
  clear hs hb3
  by_cases hge : 0 ≤ s
  · have HF : Hid (LpOkEnd (FarkasP p k la lb lc vs) w w3 (.returned (.bool false))) := lpOk_no (fun q => by have := HS.out.2 q.2.1.2; omega) BW_3.out
    go_wp2_with fail
    go_ret
    exact HF.out
  have HNEG : Hid ((ldot lb vs).g = true) := HS.out.1 (by omega)
  have HOK := Lib.hid HBI.out.1.1
  obtain ⟨P, K, hP, hK, hP20, hK40, hla, _, _⟩ := HOK.out.nats
  simp only at hP hK hla
  subst hP hK
  have HLA : Hid (n = P * K) := by rw [← HI.out.1.1]; exact hla
  obtain rfl : nv = P := by have h1 := HBI.out.1.2.1; rw [HV.out.1] at h1; omega
  clear hla
  go_wp2_with fail
  go_loopw [7] (fun x wq => ∃ i : Nat, i ≤ K ∧ x = .int .i64 i ∧ Hid (NonTo K la nv vs i) ∧ Hid (Below w3.heap.size w3 wq)) (fun x _ => K - (intOf x).toNat)
  case atStart => exact ⟨0, Nat.zero_le _, rfl, NonTo.zero _ _ _ _, Below.refl _ _⟩
  case round =>
    obtain ⟨i, hle, rfl, hcols, hb⟩ := hrel
    have P3 := Lib.hid (hp0_3.out.below hb.out hp0_3.out.lt)
    have HI4 := Lib.hid (HI_3.out.below hb.out)
    have HV4 := Lib.hid (HV_3.out.below hb.out)
    have BW4 := Lib.hid (BW_3.out.trans (hb.out.mono BW_3.out.size))
    have ep0 := P3.out.cell 0
    have ep1 := P3.out.cell 1
    have ep2 := P3.out.cell 2
    have ep3 := P3.out.cell 3
    have ep4 := P3.out.cell 4
    simp at ep0 ep1 ep2 ep3 ep4
    by_cases hlt : i < K
    · have hii : (i : Int) < (K : Int) := by omega
      go_wp2_with fail
      clear ep0 ep1 ep2 ep3 ep4
      refine (spec_l09Column nv K i A n c la B m d C l f _ HI4.out.1 HLA.out hlt hP20).mono ?_
      rintro e wa hends
      obtain ⟨A2, c2, rfl, hr, hba⟩ := intsEnd_open hends (lcol_length _ _ _ _) (ent_lcol HOK.out.1.2.2.2) hnv
      have HR := Lib.hid hr
      have HVa := Lib.hid (HV4.out.below hba)
      have BWa := Lib.hid (BW4.out.trans (hba.mono BW4.out.size))
      have HBa := Lib.hid (hb.out.trans (hba.mono hb.out.size))
      clear hends hr hba
      go_wp2_with fail
      refine (spec_l09Sum A2 nv c2 (lcol K la nv i) E cv vs _ HR.out HVa.out).mono ?_
      rintro e w4 ⟨g', rr', v, dd', u, b, rfl, hq, q1, q2, hap, hb4⟩
      obtain ⟨A7, c7, rfl⟩ := own_slice q1.2
      obtain ⟨B7, d7, rfl⟩ := own_slice q2.2
      have HQ7 := Lib.hid hq
      have hbx : Below w4.heap.size w4 (w4.alloc (.cells #[.bool g', .slice A7 rr'.length c7, .slice B7 dd'.length d7] 34)) := (Below.refl _ _).alloc (Nat.le_refl _) _
      have O_7 := Lib.hid (own_below q1.2 hbx)
      have U_7 := Lib.hid (own_below q2.2 hbx)
      have hb5 := hb4.trans (hbx.mono hb4.size)
      have BW5 := Lib.hid (BWa.out.trans (hb5.mono BWa.out.size))
      have HB5 := Lib.hid (HBa.out.trans (hb5.mono HBa.out.size))
      clear hq q1 q2 hap hb4 hbx hb5
      cases b
      case false =>
        have HF := Lib.hid (lpOk_no (Q := FarkasP nv K la lb lc vs) (far_col hlt fun q => not_fits HQ7.out q.1) BW5.out)
        go_wp2_with fail
        go_ret
        exact HF.out
      have HFI := Lib.hid (fits_is HQ7.out)
      have ht1 : rr'.length ≤ 24 := HFI.out.2.2.2.2.2.1
      have ht2 : dd'.length ≤ 24 := HFI.out.2.2.2.2.2.2
      go_wp2_with fail
      refine (spec_ratSign0 g' A7 rr'.length c7 rr' B7 dd'.length d7 dd' _ (in_gr ht1 (ROk.nr HFI.out.2) O_7.out) (room_own O_7.out) (in_gr ht2 (ROk.dr HFI.out.2) U_7.out) (room_own U_7.out)).mono ?_
      rintro e w6 ⟨t, rfl, hs, hb6⟩
      have HN := Lib.hid (non_of HFI.out hs)
      have BW6 := Lib.hid (BW5.out.trans (hb6.mono BW5.out.size))
      have HB6 := Lib.hid (HB5.out.trans (hb6.mono HB5.out.size))
      clear hs hb6
      by_cases hneg : t < 0
      · have HF := Lib.hid (lpOk_no (Q := FarkasP nv K la lb lc vs) (far_col hlt fun q => HN.out.1 q hneg) BW6.out)
        go_wp2_with fail
        go_ret
        exact HF.out
      have HNX := Lib.hid (hcols.out.succ (HN.out.2 hneg))
      go_wp2_with fail
      go_roundw
      case rel => exact ⟨i + 1, by omega, by go_num, HNX, HB6⟩
      case measure => simp [intOf]; omega
    · obtain rfl : i = K := by omega
      have HF : Hid (LpOkEnd (FarkasP nv i la lb lc vs) w wr (.returned (.bool true))) := lpOk_yes ⟨HBI.out.1, ⟨by rw [← HBI.out.2.1]; exact HBI.out.2.2, HNEG.out⟩, fun j hj => by simpa using hcols.out j (by simpa using hj)⟩ BW4.out
      go_wp2_with fail
      go_ret
      exact HF.out
end Go.Proofs.YtegclofijaoajaaGreat
