/- Contracts of linear programs, by the program: IsFeasible; sums of columns; IsDual. -/
import Derived.Test.YtegclofijaoajaaGreatLpI4
import Derived.Test.YtegclofijaoajaaGreatLpS5
import Derived.Test.YtegclofijaoajaaGreatGW
namespace Go.Proofs.YtegclofijaoajaaGreat
set_option maxRecDepth 100000
open Go.RowKit

def NegIs (g : Bool) (xs es : List Int) (b : Bool) : Prop := b = true ↔ (ROk g xs es ∧ g = true)
set_option maxHeartbeats 800000 in
theorem impl_isNegative (g1 : Bool) (A1 : Option Addr) (n1 c1 : Nat) (xs : List Int) (B1 : Option Addr) (m1 d1 : Nat) (es : List Int) (w : World) (h1 : InI w A1 n1 xs) (r1 : Room A1 n1 c1) (k1 : InI w B1 m1 es) (s1 : Room B1 m1 d1) :
    Calls Tryz.prog 102 #[.agg #[.bool g1, .slice A1 n1 c1, .slice B1 m1 d1]] w fun e w' => LpOkEnd (ROk g1 xs es ∧ g1 = true) w w' e := by
  obtain ⟨W0, hW0⟩ : ∃ W, W = (w.alloc (.cells #[.bool g1, .slice A1 n1 c1, .slice B1 m1 d1] 34)) := ⟨_, rfl⟩
  have hy0_0 : Hid (Box W0 (w.heap.size) 34 #[.bool g1, .slice A1 n1 c1, .slice B1 m1 d1]) := by rw [hW0]; exact (Box.at' (by simp))
  have BW_0 : Hid (Below w.heap.size w W0) := by rw [hW0]; exact ((Below.refl w.heap.size w).alloc (by simp) _)
  have hsz0 : w.heap.size + 1 ≤ W0.heap.size := by rw [hW0]; simp
  have HI1 := Lib.hid (h1.below BW_0.out)
  have HJ1 := Lib.hid (k1.below BW_0.out)
  have R1 := Lib.hid r1
  have S1 := Lib.hid s1
  clear h1 k1 r1 s1
  go_enter Tryz.func102, Tryz.ntmps102
  go_wp2_with fail
  rw [← hW0]
  clear hW0
  refine (impl_ratSign0 g1 A1 n1 c1 xs B1 m1 d1 es _ HI1.out R1.out HJ1.out S1.out).mono ?_
  rintro e w1 ⟨s, rfl, hs, hb⟩
  have hy0_1 := Lib.hid (hy0_0.out.below hb hy0_0.out.lt)
  have BW_1 := Lib.hid (BW_0.out.trans (hb.mono BW_0.out.size))
  clear hb
  have HF : Hid (decide (s < 0) = true ↔ (ROk g1 xs es ∧ g1 = true)) := by
    unfold Hid
    rw [decide_eq_true_iff]
    rcases hs with ⟨hk, rfl⟩ | ⟨hk, rfl⟩
    · rw [sg_neg]; exact ⟨fun h => ⟨hk, h⟩, fun h => h.2⟩
    · exact ⟨fun h => by omega, fun h => absurd h.1 hk⟩
  clear hs
  go_wp2_with fail
  go_ret
  exact ⟨_, rfl, HF.out, BW_1.out⟩
def NegAtEnd (vs : List RD) (w w' : World) (e : Ending) : Prop := ∃ r : Int, e = .returned (.int .i64 r) ∧ (0 ≤ r ↔ ¬ ∀ x ∈ vs, x.g = false) ∧ (-1 ≤ r ∧ r ≤ 9223372036854775807) ∧ Below w.heap.size w w'
set_option maxHeartbeats 1600000 in
theorem indexFunc_negative (E : Option Addr) (nv cv : Nat) (vs : List RD) (w : World) (hv : InV w E nv vs) (hok : AllOk vs) :
    Calls Tryz.prog 178 #[.slice E nv cv, .func (.func 102) #[] #[]] w fun e w' => NegAtEnd vs w w' e := by
  have hn := hv.2.1
  have HV := Lib.hid hv
  have HOK := Lib.hid hok
  clear hv hok
  go_enter Tryz.func178, Tryz.ntmps178
  go_wp2_with fail
  go_loopw [5, 8] (fun _ y wr => ∃ i : Nat, i ≤ nv ∧ y = .int .i64 i ∧ Hid (PosTo vs i) ∧ Hid (Below w.heap.size w wr)) (fun _ y _ => nv - (intOf y).toNat)
  case atStart => exact ⟨0, Nat.zero_le _, rfl, PosTo.zero _, Below.refl _ _⟩
  case round =>
    obtain ⟨i, hle, rfl, hk, hb⟩ := hrel
    by_cases hlt : i < nv
    · obtain ⟨b, o, rfl, hbs, r, hr, A1, n1, c1, B1, m1, d1, hat, i1, ra, j1, rb⟩ := (HV.out.below hb.out).at_ i hlt
      obtain ⟨e0, e1, e2⟩ := hat
      have hi0 : (0 : Int) ≤ (i : Int) := by omega
      have hi1 : (i : Int) < (nv : Int) := by omega
      have HI := Lib.hid i1
      have HJ := Lib.hid j1
      have RA := Lib.hid ra
      have RB := Lib.hid rb
      have HR := Lib.hid hr
      have HRK : Hid (ROk r.g r.xs r.ds) := HOK.out r (List.mem_of_getElem? hr)
      clear i1 j1 hr ra rb
      go_wp2_with fail
      go_at_call 102
      refine (impl_isNegative r.g A1 n1 c1 r.xs B1 m1 d1 r.ds _ HI.out RA.out HJ.out RB.out).mono ?_
      rintro e w1 ⟨q, rfl, hq, hb1⟩
      have HQ := Lib.hid hq
      have HB2 := Lib.hid (hb.out.trans (hb1.mono hb.out.size))
      clear hb1 hq e0 e1 e2
      cases q
      case true =>
        have HF : Hid (NegAtEnd vs w w1 (.returned (.int .i64 i))) := ⟨i, rfl, ⟨fun _ h => (by have h1 := h r (List.mem_of_getElem? HR.out); have h2 := (HQ.out.1 rfl).2; rw [h1] at h2; cases h2), fun _ => by omega⟩, by omega, HB2.out⟩
        go_wp2_with fail
        go_ret
        exact HF.out
      have HK := Lib.hid (hk.out.succ HR.out (by
        cases hg : r.g
        · rfl
        · have := HQ.out.2 ⟨HRK.out, hg⟩; cases this))
      go_wp2_with fail
      go_roundw
      case rel => exact ⟨i + 1, by omega, by go_num, HK, HB2⟩
      case measure => simp [intOf]; omega
    · obtain rfl : i = nv := by omega
      have HF : Hid (NegAtEnd vs w wr (.returned (.int .i64 (-1)))) := ⟨-1, rfl, ⟨fun h => by omega, fun h => absurd (hk.out.all HV.out.1) h⟩, by omega, hb.out⟩
      go_wp2_with fail
      go_ret
      exact HF.out
theorem contains_negative (E : Option Addr) (nv cv : Nat) (vs : List RD) (w : World) (hv : InV w E nv vs) (hok : AllOk vs) :
    Calls Tryz.prog 101 #[.slice E nv cv, .func (.func 102) #[] #[]] w fun e w' => LpOkEnd (¬ ∀ x ∈ vs, x.g = false) w w' e := by
  go_enter Tryz.func101, Tryz.ntmps101
  go_wp2_with fail
  refine (indexFunc_negative E nv cv vs _ hv hok).mono ?_
  rintro e w1 ⟨r, rfl, hr, ⟨h1, h2⟩, hb⟩
  have HF : Hid (decide (0 ≤ r) = true ↔ ¬ ∀ x ∈ vs, x.g = false) := by unfold Hid; rw [decide_eq_true_iff]; exact hr
  have HB := Lib.hid hb
  clear hr hb
  go_wp2_with fail
  go_ret
  exact ⟨_, rfl, HF.out, HB.out⟩
theorem feas_row {P K i : Nat} {la lb lc : List Int} {vs : List RD} {z : Int} {b : Bool} {g gf : Bool} {l d lf df : List Int} (hz : lb[i]? = some z) (h : RD.mk g l d = ldot (lrow K la i) vs) (hf : RD.mk gf lf df = rint z) (he : RatEqualIs g l d gf lf df b) : (b = false → ¬ FeasP P K la lb lc vs) ∧ (b = true → ldot (lrow K la i) vs = rint z) := by
  refine ⟨fun hb q => ?_, fun hb => ?_⟩
  · have h1 := q.2.2.2 i z hz
    rw [Int.toNat_natCast, ← h, ← hf] at h1
    have h2 := he.2 (by cases h1; exact ⟨rfl, rfl, rfl⟩)
    rw [hb] at h2
    cases h2
  · obtain ⟨rfl, rfl, rfl⟩ := he.1 hb
    rw [← h, hf]
theorem RatEnd.own {Q : Bool → List Int → List Int → Prop} {w w' : World} {e : Ending} (h : RatEnd Q w w' e) : ∃ g r A c d B f, e = .returned (.agg #[.bool g, .slice A r.length c, .slice B d.length f]) ∧ Q g r d ∧ w'.ownsRow w.heap.size 3 1 (.slice A r.length c) r.length (r.map (.int .i64)) ∧ w'.ownsRow w.heap.size 3 1 (.slice B d.length f) d.length (d.map (.int .i64)) ∧ Below w.heap.size w w' := by
  obtain ⟨g, r, v, d, u, rfl, hq, q1, q2, _, hb⟩ := h
  obtain ⟨A, c, rfl⟩ := own_slice q1.2
  obtain ⟨B, f, rfl⟩ := own_slice q2.2
  exact ⟨g, r, A, c, d, B, f, rfl, hq, q1.2, q2.2, hb⟩
set_option maxHeartbeats 6400000 in
theorem impl_isFeasible0 (p k : Int) (A : Option Addr) (n c : Nat) (la : List Int) (B : Option Addr) (m d : Nat) (lb : List Int) (C : Option Addr) (l f : Nat) (lc : List Int) (E : Option Addr) (nv cv : Nat) (vs : List RD) (w : World) (h : InP w A n la B m lb C l lc) (hc : n ≤ c) (hv : InV w E nv vs) :
    Calls Tryz.prog 41 #[.agg #[.int .i64 p, .int .i64 k, .slice A n c, .slice B m d, .slice C l f], .slice E nv cv] w fun e w' => LpOkEnd (FeasP p k la lb lc vs) w w' e := by
  obtain ⟨W0, hW0⟩ : ∃ W, W = (w.alloc (.cells #[.int .i64 p, .int .i64 k, .slice A n c, .slice B m d, .slice C l f] 61)) := ⟨_, rfl⟩
  have hp0_0 : Hid (Box W0 (w.heap.size) 61 #[.int .i64 p, .int .i64 k, .slice A n c, .slice B m d, .slice C l f]) := by rw [hW0]; exact (Box.at' (by simp))
  have BW_0 : Hid (Below w.heap.size w W0) := by rw [hW0]; exact ((Below.refl w.heap.size w).alloc (by simp) _)
  have hsz0 : w.heap.size + 1 ≤ W0.heap.size := by rw [hW0]; simp
  have HI := Lib.hid (h.below BW_0.out)
  have HV := Lib.hid (hv.below BW_0.out)
  have hnv := hv.2.1
  clear h hv
  go_enter Tryz.func41, Tryz.ntmps41
  go_wp2_with fail
  rw [← hW0]
  clear hW0
  refine (impl_linearOf p k A n c la B m d lb C l f lc _ HI.out).mono ?_
  rintro e w1 ⟨b1, rfl, h1, hb⟩
  have hp0_1 := Lib.hid (hp0_0.out.below hb hp0_0.out.lt)
  have BW_1 := Lib.hid (BW_0.out.trans (hb.mono BW_0.out.size))
  replace HI := Lib.hid (HI.out.below hb)
  replace HV := Lib.hid (HV.out.below hb)
  clear hb
  have H1 := Lib.hid h1
  clear h1
  have hbx : Below w1.heap.size w1 (w1.alloc (.cells #[.int .i64 p, .int .i64 k, .slice A n c, .slice B m d, .slice C l f] 128)) := (Below.refl _ _).alloc (Nat.le_refl _) _
  have hp0_x := Lib.hid (hp0_1.out.below hbx hp0_1.out.lt)
  have hq0_x : Hid (Box (w1.alloc (.cells #[.int .i64 p, .int .i64 k, .slice A n c, .slice B m d, .slice C l f] 128)) w1.heap.size 128 #[.int .i64 p, .int .i64 k, .slice A n c, .slice B m d, .slice C l f]) := Box.new _ _ _
  have BW_x := Lib.hid (BW_1.out.trans (hbx.mono BW_1.out.size))
  replace HI := Lib.hid (HI.out.below hbx)
  replace HV := Lib.hid (HV.out.below hbx)
  clear hbx
  have ehp00 := hp0_x.out.cell 0
  have ehp01 := hp0_x.out.cell 1
  have ehp02 := hp0_x.out.cell 2
  have ehp03 := hp0_x.out.cell 3
  have ehp04 := hp0_x.out.cell 4
  simp at ehp00 ehp01 ehp02 ehp03 ehp04
  cases b1
  case false =>
    have HF := Lib.hid (lpOk_no (Q := FeasP p k la lb lc vs) (fun q => by have := H1.out.2 q.1; cases this) BW_x.out)
    go_wp2_with fail
    go_ret
    exact HF.out
  have HOK : Hid (LP.ok ⟨p, k, la, lb, lc⟩) := H1.out.1 rfl
  clear H1
  go_wp2_with fail
  clear ehp00 ehp01 ehp02 ehp03 ehp04
  refine (impl_areRats E nv cv vs k _ HV.out).mono ?_
  rintro e w2 ⟨b2, rfl, h2, hb⟩
  have hp0_2 := Lib.hid (hp0_x.out.below hb hp0_x.out.lt)
  have hq0_2 := Lib.hid (hq0_x.out.below hb hq0_x.out.lt)
  have BW_2 := Lib.hid (BW_x.out.trans (hb.mono BW_x.out.size))
  replace HI := Lib.hid (HI.out.below hb)
  replace HV := Lib.hid (HV.out.below hb)
  clear hb
  have H2 := Lib.hid h2
  clear h2
  cases b2
  case false =>
    have HF : Hid (LpOkEnd (FeasP p k la lb lc vs) w w2 (.returned (.bool false))) := lpOk_no (fun q => by have := H2.out.2 q.2.1; cases this) BW_2.out
    go_wp2_with fail
    go_ret
    exact HF.out
  have HRV : Hid (Rats vs k) := H2.out.1 rfl
  go_wp2_with fail
  refine (contains_negative E nv cv vs _ HV.out HRV.out.2).mono ?_
  rintro e w3 ⟨b3, rfl, h3, hb⟩
  have hp0_3 := Lib.hid (hp0_2.out.below hb hp0_2.out.lt)
  have hq0_3 := Lib.hid (hq0_2.out.below hb hq0_2.out.lt)
  have BW_3 := Lib.hid (BW_2.out.trans (hb.mono BW_2.out.size))
  replace HI := Lib.hid (HI.out.below hb)
  replace HV := Lib.hid (HV.out.below hb)
  clear hb
  have H3 := Lib.hid h3
  clear h3
  cases b3
  case true =>
    have HF : Hid (LpOkEnd (FeasP p k la lb lc vs) w w3 (.returned (.bool false))) := lpOk_no (fun q => H3.out.1 rfl q.2.2.1) BW_3.out
    go_wp2_with fail
    go_ret
    exact HF.out
  have HPOS : Hid (∀ x ∈ vs, x.g = false) := Classical.byContradiction fun q => (by have := H3.out.2 q; cases this)
  obtain ⟨P, K, hP, hK, hP20, hK40, hla, hlb, _⟩ := HOK.out.nats
  simp only at hP hK hla hlb
  subst hP hK
  have HLA : Hid (n = P * K) := by rw [← HI.out.1.1]; exact hla
  have HLB : Hid (m = P) := by rw [← HI.out.2.1.1]; exact hlb
  have HNV : Hid (nv = K) := by have h1 := HRV.out.1; rw [HV.out.1] at h1; unfold Hid; omega
  obtain rfl := HNV.out
  have hn := HI.out.1.2.1
  have hm20 : m ≤ 20 := by have := HLB.out; omega
  clear hla hlb
  have eq0 := hq0_3.out.cell 0
  have eq1 := hq0_3.out.cell 1
  have eq2 := hq0_3.out.cell 2
  have eq3 := hq0_3.out.cell 3
  have eq4 := hq0_3.out.cell 4
  simp at eq0 eq1 eq2 eq3 eq4
  go_wp2_with fail
  clear eq0 eq1 eq2 eq3 eq4
  go_loopw [30] (fun x wq => ∃ i : Nat, i ≤ m ∧ x = .int .i64 i ∧ Hid (RowsTo nv la lb vs i) ∧ Hid (Below w3.heap.size w3 wq)) (fun x _ => m - (intOf x).toNat)
  case atStart => exact ⟨0, Nat.zero_le _, rfl, RowsTo.zero _ _ _ _, Below.refl _ _⟩
  case round =>
    obtain ⟨i, hle, rfl, hrows, hb⟩ := hrel
    have HI4 := Lib.hid (HI.out.below hb.out)
    have HV4 := Lib.hid (HV.out.below hb.out)
    have BW4 := Lib.hid (BW_3.out.trans (hb.out.mono BW_3.out.size))
    by_cases hlt : i < m
    · have P4 := Lib.hid (hq0_3.out.below hb.out hq0_3.out.lt)
      obtain ⟨b0, o0, z, hB, hz, hcell, hbl, hz0, hz1⟩ := HI4.out.ib.get hlt
      subst hB
      have hi0 : (0 : Int) ≤ (i : Int) := by omega
      have hi1 : (i : Int) < (m : Int) := by omega
      have hir : i * nv + nv ≤ n := by
        rw [HLA.out]
        have : (i + 1) * nv ≤ P * nv := Nat.mul_le_mul_right _ (by have := HLB.out; omega)
        rw [Nat.succ_mul] at this
        exact this
      have HZ := Lib.hid hz
      have ep0 := P4.out.cell 0
      have ep1 := P4.out.cell 1
      have ep2 := P4.out.cell 2
      have ep3 := P4.out.cell 3
      have ep4 := P4.out.cell 4
      simp at ep0 ep1 ep2 ep3 ep4
      clear hz
      go_wp2_with fail
      clear ep0 ep1 ep2 ep3 ep4 hcell
      refine (impl_row P nv i A n c _ hir hn hc HI4.out.1.some_ (by omega) hK40).mono ?_
      rintro e wa ⟨A2, c2, rfl, hat, hba⟩
      have HR := Lib.hid ((HI4.out.ia.below hba).rowI hat hir)
      have HVa := Lib.hid (HV4.out.below hba)
      have BWa := Lib.hid (BW4.out.trans (hba.mono BW4.out.size))
      have HBa := Lib.hid (hb.out.trans (hba.mono hb.out.size))
      clear hat hba
      go_wp2_with fail
      refine (impl_sumOfProducts A2 nv c2 (lrow nv la i) E cv vs _ HR.out HVa.out).mono ?_
      rintro e w5 hends
      obtain ⟨g, rr, A6, c6, dd, B6, d6, rfl, hq, q1, q2, hb5⟩ := RatEnd.own hends
      have HQ := Lib.hid hq
      have O_5 := Lib.hid q1
      have U_5 := Lib.hid q2
      have BW5 := Lib.hid (BWa.out.trans (hb5.mono BWa.out.size))
      have HB5 := Lib.hid (HBa.out.trans (hb5.mono HBa.out.size))
      have GS : Hid (GRat g rr dd) := RD.gr (r := ⟨g, rr, dd⟩) (by rw [hq]; exact ldot_good _ _)
      have hs1 : rr.length ≤ 24 := GS.out.short.1
      have hs2 : dd.length ≤ 24 := GS.out.short.2
      clear hends hq q1 q2 hb5
      go_wp2_with fail
      refine (impl_ratFromInt z _ ⟨hz0, hz1⟩).mono ?_
      rintro e w6 hends
      obtain ⟨gf, rf, Af, cf, df, Bf, ef, rfl, hq, q1, q2, hb6⟩ := RatEnd.own hends
      have HQ6 : Hid (RD.mk gf rf df = rint z) := rint_of hq
      have O_6 := Lib.hid q1
      have U_6 := Lib.hid q2
      have O_56 := Lib.hid (own_below O_5.out hb6)
      have U_56 := Lib.hid (own_below U_5.out hb6)
      have BW6 := Lib.hid (BW5.out.trans (hb6.mono BW5.out.size))
      have HB6 := Lib.hid (HB5.out.trans (hb6.mono HB5.out.size))
      have GF : Hid (GRat gf rf df) := RD.gr (r := ⟨gf, rf, df⟩) (by rw [HQ6.out]; exact rint_good _)
      have hf1 : rf.length ≤ 24 := GF.out.short.1
      have hf2 : df.length ≤ 24 := GF.out.short.2
      clear hends hq q1 q2 hb6
      go_wp2_with fail
      refine (impl_ratEqual0 g A6 rr.length c6 rr B6 dd.length d6 dd gf Af rf.length cf rf Bf df.length ef df _ (in_gr hs1 GS.out.nr O_56.out) (room_own O_56.out) (in_gr hs2 GS.out.dr U_56.out) (room_own U_56.out) (in_gr hf1 GF.out.nr O_6.out) (room_own O_6.out) (in_gr hf2 GF.out.dr U_6.out) (room_own U_6.out)).mono ?_
      rintro e w7 ⟨b7, rfl, h7, hb7⟩
      have HE := Lib.hid (feas_row (P := P) (lc := lc) HZ.out HQ.out HQ6.out h7)
      have BW7 := Lib.hid (BW6.out.trans (hb7.mono BW6.out.size))
      have HB7 := Lib.hid (HB6.out.trans (hb7.mono HB6.out.size))
      clear h7 hb7
      cases b7
      case false =>
        have HF := Lib.hid (lpOk_no (HE.out.1 rfl) BW7.out)
        go_wp2_with fail
        go_ret
        exact HF.out
      have HNX := Lib.hid (hrows.out.succ HZ.out (HE.out.2 rfl))
      go_wp2_with fail
      go_roundw
      case rel => exact ⟨i + 1, by omega, by go_num, HNX, HB7⟩
      case measure => simp [intOf]; omega
    · obtain rfl : i = m := by omega
      have HF : Hid (LpOkEnd (FeasP P nv la lb lc vs) w wr (.returned (.bool true))) := lpOk_yes ⟨HOK.out, HRV.out, HPOS.out, fun j z hj => by have hlt := (List.getElem?_eq_some_iff.1 hj).1; have hl := HI.out.2.1.1; simpa using hrows.out j z (by omega) hj⟩ BW4.out
      go_wp2_with fail
      go_ret
      exact HF.out
end Go.Proofs.YtegclofijaoajaaGreat
