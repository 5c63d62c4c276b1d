/- Contracts of linear programs, by the model: IsFeasible, IsDual, IsFarkas. -/
import Derived.Test.YtegclofijaoajaaGreatLpS3
import Derived.Test.YtegclofijaoajaaGreatLpI2
import Derived.Test.YtegclofijaoajaaGreatTA
import Derived.Test.YtegclofijaoajaaGreatGK
namespace Go.Proofs.YtegclofijaoajaaGreat
set_option maxRecDepth 100000
open Go.RowKit

def FeasP (p k : Int) (la lb lc : List Int) (vs : List RD) : Prop := (LP.mk p k la lb lc).ok ∧ Rats vs k ∧ (∀ r ∈ vs, r.g = false) ∧ ∀ i n, lb[i]? = some n → ldot (lrow k.toNat la i) vs = rint n
def DualP (p k : Int) (la lb lc : List Int) (vs : List RD) : Prop := (LP.mk p k la lb lc).ok ∧ Rats vs p ∧ ∀ j n, lc[j]? = some n → AtLeast (ldot (lcol k.toNat la p.toNat j) vs) n
def FarkasP (p k : Int) (la lb lc : List Int) (vs : List RD) : Prop := ((LP.mk p k la lb lc).ok ∧ Rats vs p) ∧ ((ldot lb vs).ok ∧ (ldot lb vs).g = true) ∧ ∀ j, j < k.toNat → AtLeast (ldot (lcol k.toNat la p.toNat j) vs) 0
theorem sg_neg {g : Bool} {n : Nat} : sg g n < 0 ↔ g = true := by
  unfold sg
  cases g
  · simp; split <;> omega
  · simp
theorem not_fits {ns : List Int} {vs : List RD} {g : Bool} {l d : List Int} (h : ValueIs True ns vs g l d false) : ¬ (ldot ns vs).ok := by
  rcases h with ⟨_, _, h⟩ | ⟨h, _⟩
  · cases h
  · exact fun q => h ⟨trivial, q⟩
theorem fits_is {ns : List Int} {vs : List RD} {g : Bool} {l d : List Int} (h : ValueIs True ns vs g l d true) : RD.mk g l d = ldot ns vs ∧ ROk g l d := by
  rcases h with ⟨⟨_, k⟩, e, _⟩ | ⟨_, _, h⟩
  · refine ⟨e, ?_⟩
    rw [← e] at k
    exact k
  · cases h
theorem cross_of {s : RD} {g gf : Bool} {l d lf df : List Int} {z : Int} (hs : RD.mk g l d = s) (hf : gf = (rint z).g ∧ lf = (rint z).xs ∧ df = (rint z).ds) : cmpV (bval g l * val df) (bval gf lf * val d) = cmpV (bval s.g s.xs * val (rint z).ds) (bval (rint z).g (rint z).xs * val s.ds) := by
  obtain ⟨rfl, rfl, rfl⟩ := hf
  subst hs
  rfl
theorem cmpS {w : World} {g G j b o : Nat} {t T : TypeId} {x y z v u : Value} {cs : Array Value} (h : Hid (Box w G t #[x, y, z])) (k : Hid (Box w g T cs)) (hc : Hid (cs[j]? = some v)) (c : Hid (w.cell? ⟨b, o, none⟩ = some u)) :
    w.cell? ⟨G, 0, none⟩ = some x ∧ w.cell? ⟨G, 1, none⟩ = some y ∧ w.cell? ⟨G, 2, none⟩ = some z ∧ w.cell? ⟨g, j, none⟩ = some v ∧ w.cell? ⟨b, o, none⟩ = some u :=
  ⟨h.out.cell 0, h.out.cell 1, h.out.cell 2, (k.out.cell j).trans hc.out, c.out⟩
/-- The first i rows hold. -/
def RowsTo (K : Nat) (la lb : List Int) (vs : List RD) (i : Nat) : Prop := ∀ j n, j < i → lb[j]? = some n → ldot (lrow K la j) vs = rint n
theorem RowsTo.zero (K : Nat) (la lb : List Int) (vs : List RD) : RowsTo K la lb vs 0 := fun _ _ h => absurd h (Nat.not_lt_zero _)
theorem RowsTo.succ {K i : Nat} {la lb : List Int} {vs : List RD} {z : Int} (h : RowsTo K la lb vs i) (hz : lb[i]? = some z) (he : ldot (lrow K la i) vs = rint z) : RowsTo K la lb vs (i + 1) := fun j n hj hn => by
  by_cases hji : j = i
  · subst hji; rw [hz] at hn; cases hn; exact he
  · exact h j n (by omega) hn
/-- The first i numbers are not negative. -/
def PosTo (vs : List RD) (i : Nat) : Prop := ∀ r ∈ vs.take i, r.g = false
theorem PosTo.zero (vs : List RD) : PosTo vs 0 := fun r hr => by simp at hr
theorem PosTo.succ {vs : List RD} {i : Nat} {r : RD} (h : PosTo vs i) (hr : vs[i]? = some r) (hg : r.g = false) : PosTo vs (i + 1) := by
  rw [PosTo, List.take_add_one, hr]
  intro x hx
  rcases List.mem_append.1 hx with hx | hx
  · exact h x hx
  · obtain rfl : x = r := by simpa using hx
    exact hg
theorem PosTo.all {vs : List RD} {n : Nat} (h : PosTo vs n) (hn : vs.length = n) : ∀ r ∈ vs, r.g = false := fun r hr => h r (by rw [List.take_of_length_le (by omega)]; exact hr)
theorem cmp_self (x : Int) : cmpV x x = 0 := cmpV_zero.2 rfl
theorem feas_long {P K i : Nat} {la lb lc : List Int} {vs : List RD} {z : Int} (hz : lb[i]? = some z) (hr : (rint z).ok) (h : ¬ (ldot (lrow K la i) vs).ok) : ¬ FeasP P K la lb lc vs := fun q => by
  have h1 := q.2.2.2 i z hz
  rw [Int.toNat_natCast] at h1
  exact h (by rw [h1]; exact hr)
theorem feas_off {P K i : Nat} {la lb lc : List Int} {vs : List RD} {z : Int} {g gf : Bool} {l d lf df : List Int} (hz : lb[i]? = some z) (h : RD.mk g l d = ldot (lrow K la i) vs ∧ ROk g l d) (hf : gf = (rint z).g ∧ lf = (rint z).xs ∧ df = (rint z).ds) (hc : (cmpV (bval g l * val df) (bval gf lf * val d) != 0) = true) : ¬ FeasP P K la lb lc vs := fun q => by
  have h1 := q.2.2.2 i z hz
  rw [Int.toNat_natCast] at h1
  rw [cross_of (h.1.trans h1) hf, cmp_self] at hc
  simp at hc
theorem feas_on {K i : Nat} {la : List Int} {vs : List RD} {z : Int} {g gf : Bool} {l d lf df : List Int} (hr : (rint z).ok) (h : RD.mk g l d = ldot (lrow K la i) vs ∧ ROk g l d) (hf : gf = (rint z).g ∧ lf = (rint z).xs ∧ df = (rint z).ds) (hc : (cmpV (bval g l * val df) (bval gf lf * val d) != 0) = false) : ldot (lrow K la i) vs = rint z := by
  rw [cross_of h.1 hf] at hc
  refine same_of_cross (by rw [← h.1]; exact h.2) hr (cmpV_zero.1 (by simpa using hc))
set_option maxHeartbeats 1600000 in
theorem spec_l09Row (p : Int) (K i : Nat) (A : Option Addr) (n c : Nat) (B : Option Addr) (m d : Nat) (C : Option Addr) (l f : Nat) (w : World) (hle : i * K + K ≤ n) (hn : n ≤ 1048576) (hc : n ≤ c) (hA : 0 < n → ∃ b o, A = some ⟨b, o, none⟩) (hi : i ≤ 20) (hK : K ≤ 40) :
    Calls Tryz.prog 188 #[.agg #[.int .i64 p, .int .i64 K, .slice A n c, .slice B m d, .slice C l f], .int .i64 i] w fun e w' => IRowEnd A K (i * K) w w' e := by
  obtain ⟨u, hu⟩ : ∃ u, u = i * K := ⟨_, rfl⟩
  rw [← hu] at hle ⊢
  have hik : (i : Int) * (K : Int) = u := by rw [hu]; exact (Int.natCast_mul _ _).symm
  have hik1 : ((i : Int) + 1) * (K : Int) = u + K := by rw [Int.add_mul, hik, Int.one_mul]
  clear hu
  by_cases h0 : K = 0
  · have HF : Hid (∀ W, Below w.heap.size w W → IRowEnd A K u w W (.returned (.slice A 0 c))) := fun W hW => ⟨A, c, by rw [h0], .inl h0, hW⟩
    subst h0
    go_enter Tryz.func188, Tryz.ntmps188
    go_wp2_with fail
    go_ret
    exact HF.out _ ((Below.refl _ _).alloc (Nat.le_refl _) _)
  · obtain ⟨b, o, rfl⟩ := hA (by omega)
    have hcu : ¬ (c = u) := by omega
    have hu0 : (0 : Int) ≤ (u : Int) := by omega
    have hu1 : (u : Int) + (K : Int) ≤ (n : Int) := by omega
    have HF : Hid (∀ W, Below w.heap.size w W → IRowEnd (some ⟨b, o, none⟩) K u w W (.returned (.slice (some ⟨b, o + u, none⟩) (u + K - u) (c - u)))) := fun W hW => ⟨_, c - u, by rw [show u + K - u = K by omega], .inr ⟨b, o, rfl, rfl⟩, hW⟩
    go_enter Tryz.func188, Tryz.ntmps188
    go_wp2_with fail
    go_ret
    exact HF.out _ ((Below.refl _ _).alloc (Nat.le_refl _) _)
set_option maxHeartbeats 6400000 in
theorem spec_isFeasible0 (p k : Int) (A : Option Addr) (n c : Nat) (la : List Int) (B : Option Addr) (m d : Nat) (lb : List Int) (C : Option Addr) (l f : Nat) (lc : List Int) (E : Option Addr) (nv cv : Nat) (vs : List RD) (w : World) (h : InP w A n la B m lb C l lc) (hc : n ≤ c) (hv : InV w E nv vs) :
    Calls Tryz.prog 131 #[.agg #[.int .i64 p, .int .i64 k, .slice A n c, .slice B m d, .slice C l f], .slice E nv cv] w fun e w' => LpOkEnd (FeasP p k la lb lc vs) w w' e := by
  obtain ⟨W0, hW0⟩ : ∃ W, W = (w.alloc (.cells #[.int .i64 p, .int .i64 k, .slice A n c, .slice B m d, .slice C l f] 61)) := ⟨_, rfl⟩
  have hp0_0 : Hid (Box W0 (w.heap.size) 61 #[.int .i64 p, .int .i64 k, .slice A n c, .slice B m d, .slice C l f]) := by rw [hW0]; exact (Box.at' (by simp))
  have BW_0 : Hid (Below w.heap.size w W0) := by rw [hW0]; exact ((Below.refl w.heap.size w).alloc (by simp) _)
  have hsz0 : w.heap.size + 1 ≤ W0.heap.size := by rw [hW0]; simp
  have HI := Lib.hid (h.below BW_0.out)
  have HV := Lib.hid (hv.below BW_0.out)
  have hnv := hv.2.1
  clear h hv
  go_enter Tryz.func131, Tryz.ntmps131
  go_wp2_with fail
  rw [← hW0]
  clear hW0
  refine (spec_programOk0 p k A n c la B m d lb C l f lc _ HI.out).mono ?_
  rintro e w1 ⟨b1, rfl, h1, hb⟩
  have hp0_1 := Lib.hid (hp0_0.out.below hb hp0_0.out.lt)
  have BW_1 := Lib.hid (BW_0.out.trans (hb.mono BW_0.out.size))
  replace HI := Lib.hid (HI.out.below hb)
  replace HV := Lib.hid (HV.out.below hb)
  clear hb
  have H1 := Lib.hid h1
  clear h1
  have ehp00 := hp0_1.out.cell 0
  have ehp01 := hp0_1.out.cell 1
  have ehp02 := hp0_1.out.cell 2
  have ehp03 := hp0_1.out.cell 3
  have ehp04 := hp0_1.out.cell 4
  simp at ehp00 ehp01 ehp02 ehp03 ehp04
  cases b1
  case false =>
    have HF : Hid (LpOkEnd (FeasP p k la lb lc vs) w w1 (.returned (.bool false))) := lpOk_no (fun q => by have := H1.out.2 q.1; cases this) BW_1.out
    go_wp2_with fail
    go_ret
    exact HF.out
  have HOK : Hid (LP.ok ⟨p, k, la, lb, lc⟩) := H1.out.1 rfl
  by_cases hne : ((nv : Int) != k) = true
  · have HF : Hid (LpOkEnd (FeasP p k la lb lc vs) w w1 (.returned (.bool false))) := lpOk_no (fun q => by have h2 := q.2.1.1; rw [HV.out.1] at h2; simp at hne; exact hne h2) BW_1.out
    have HNE := Lib.hid hne
    go_wp2_with fail
    go_ret
    exact HF.out
  have hne2 : ((nv : Int) != k) = false := by simpa using hne
  have HNV : Hid ((nv : Int) = k) := by unfold Hid; simpa using hne
  clear hne
  go_wp2_with fail
  clear ehp00 ehp01 ehp02 ehp03 ehp04
  clear hne2
  refine (spec_l09Valid E nv cv vs _ HV.out).mono ?_
  rintro e w2 ⟨b2, rfl, h2, hb⟩
  have hp0_2 := Lib.hid (hp0_1.out.below hb hp0_1.out.lt)
  have BW_2 := Lib.hid (BW_1.out.trans (hb.mono BW_1.out.size))
  replace HI := Lib.hid (HI.out.below hb)
  replace HV := Lib.hid (HV.out.below hb)
  clear hb
  have H2 := Lib.hid h2
  clear h2
  cases b2
  case false =>
    have HF : Hid (LpOkEnd (FeasP p k la lb lc vs) w w2 (.returned (.bool false))) := lpOk_no (fun q => by have := H2.out.2 q.2.1.2; cases this) BW_2.out
    go_wp2_with fail
    go_ret
    exact HF.out
  have HOKV : Hid (AllOk vs) := H2.out.1 rfl
  clear H1 H2
  have ehp00 := hp0_2.out.cell 0
  have ehp01 := hp0_2.out.cell 1
  have ehp02 := hp0_2.out.cell 2
  have ehp03 := hp0_2.out.cell 3
  have ehp04 := hp0_2.out.cell 4
  simp at ehp00 ehp01 ehp02 ehp03 ehp04
  obtain ⟨P, K, hP, hK, hP20, hK40, hla, hlb, _⟩ := HOK.out.nats
  simp only at hP hK hla hlb
  subst hP hK
  have HLA : Hid (n = P * K) := by rw [← HI.out.1.1]; exact hla
  have HLB : Hid (m = P) := by rw [← HI.out.2.1.1]; exact hlb
  obtain rfl : nv = K := by have := HNV.out; omega
  have hPi : (P : Int) ≤ 20 := by omega
  have hn := HI.out.1.2.1
  clear hla hlb
  go_wp2_with fail
  clear ehp00 ehp01 ehp02 ehp03 ehp04
  go_loopw [27] (fun x wr => ∃ i : Nat, i ≤ nv ∧ x = .int .i64 i ∧ Hid (PosTo vs i) ∧ Hid (Below w2.heap.size w2 wr)) (fun x _ => nv - (intOf x).toNat)
  case atStart => exact ⟨0, Nat.zero_le _, rfl, PosTo.zero _, Below.refl _ _⟩
  case round =>
    obtain ⟨i, hle, rfl, hk, hb⟩ := hrel
    by_cases hlt : i < nv
    · obtain ⟨b, o, rfl, hbs, r, hr, A1, n1, c1, B1, m1, d1, hat, i1, ra, j1, rb⟩ := (HV.out.below hb.out).at_ i hlt
      obtain ⟨e0, e1, e2⟩ := hat
      have hi0 : (0 : Int) ≤ (i : Int) := by omega
      have hi1 : (i : Int) < (nv : Int) := by omega
      have HI1 := Lib.hid i1
      have HJ1 := Lib.hid j1
      have RA := Lib.hid ra
      have RB := Lib.hid rb
      have HR := Lib.hid hr
      clear i1 j1 hr ra rb
      go_wp2_with fail
      clear e0 e1 e2
      have HB := Lib.hid (hb.out.alloc hb.out.size (.cells #[.bool r.g, .slice A1 n1 c1, .slice B1 m1 d1] 34))
      have hbx : Below wr.heap.size wr (wr.alloc (.cells #[.bool r.g, .slice A1 n1 c1, .slice B1 m1 d1] 34)) := (Below.refl _ _).alloc (Nat.le_refl _) _
      refine (spec_ratSign0 r.g A1 n1 c1 r.xs B1 m1 d1 r.ds _ (HI1.out.below hbx) RA.out (HJ1.out.below hbx) RB.out).mono ?_
      rintro e w3 ⟨s, rfl, hs, hb1⟩
      have HB2 := Lib.hid (HB.out.trans (hb1.mono HB.out.size))
      have HS : Hid (s = sg r.g r.xs.length) := by
        rcases hs with ⟨_, hs⟩ | ⟨hs, _⟩
        · exact hs
        · exact absurd (HOKV.out r (List.mem_of_getElem? HR.out)) hs
      clear hb1 hbx hs
      by_cases hneg : s < 0
      · have HF : Hid (LpOkEnd (FeasP P nv la lb lc vs) w w3 (.returned (.bool false))) := lpOk_no (fun q => by have h1 := q.2.2.1 r (List.mem_of_getElem? HR.out); rw [HS.out, sg_neg, h1] at hneg; cases hneg) (BW_2.out.trans (HB2.out.mono BW_2.out.size))
        go_wp2_with fail
        go_ret
        exact HF.out
      · have HK := Lib.hid (hk.out.succ HR.out (by rw [HS.out, sg_neg] at hneg; simpa using hneg))
        go_wp2_with fail
        go_roundw
        case rel => exact ⟨i + 1, by omega, by go_num, HK, HB2⟩
        case measure => simp [intOf]; omega
    · obtain rfl : nv = i := by omega
      have HPOS := Lib.hid (hk.out.all HV.out.1)
      have HB0 := hb
      clear hk hb
      go_wp2_with fail
      go_loopw [7] (fun x wq => ∃ i : Nat, i ≤ P ∧ x = .int .i64 i ∧ Hid (RowsTo nv la lb vs i) ∧ Hid (Below w2.heap.size w2 wq)) (fun x _ => P - (intOf x).toNat)
      case atStart => exact ⟨0, Nat.zero_le _, rfl, RowsTo.zero _ _ _ _, HB0⟩
      case round =>
        obtain ⟨i, hle, rfl, hrows, hb⟩ := hrel
        have P3 := Lib.hid (hp0_2.out.below hb.out hp0_2.out.lt)
        have HI3 := Lib.hid (HI.out.below hb.out)
        have HV3 := Lib.hid (HV.out.below hb.out)
        have BW3 := Lib.hid (BW_2.out.trans (hb.out.mono BW_2.out.size))
        have ep0 := P3.out.cell 0
        have ep1 := P3.out.cell 1
        have ep2 := P3.out.cell 2
        have ep3 := P3.out.cell 3
        have ep4 := P3.out.cell 4
        simp at ep0 ep1 ep2 ep3 ep4
        by_cases hlt : i < P
        · have hii : (i : Int) < (P : Int) := by omega
          have hir : i * nv + nv ≤ n := by
            rw [HLA.out]
            have : (i + 1) * nv ≤ P * nv := Nat.mul_le_mul_right _ hlt
            rw [Nat.succ_mul] at this
            exact this
          go_wp2_with fail
          clear ep0 ep1 ep2 ep3 ep4
          refine (spec_l09Row P nv i A n c B m d C l f _ hir hn hc HI3.out.1.some_ (by omega) hK40).mono ?_
          rintro e wa ⟨A2, c2, rfl, hat, hba⟩
          have HR := Lib.hid ((HI3.out.ia.below hba).rowI hat hir)
          have HVa := Lib.hid (HV3.out.below hba)
          have HIa := Lib.hid (HI3.out.below hba)
          have Pa := Lib.hid (P3.out.below hba P3.out.lt)
          have BWa := Lib.hid (BW3.out.trans (hba.mono BW3.out.size))
          have HBa := Lib.hid (hb.out.trans (hba.mono hb.out.size))
          clear hat hba
          go_wp2_with fail
          refine (spec_l09Sum A2 nv c2 (lrow nv la i) E cv vs _ HR.out HVa.out).mono ?_
          rintro e w4 ⟨g, rr, v, dd, u, b, rfl, hq, q1, q2, hap, hb4⟩
          obtain ⟨A6, c6, rfl⟩ := own_slice q1.2
          obtain ⟨B6, d6, rfl⟩ := own_slice q2.2
          have HQ := Lib.hid hq
          have HO1 := Lib.hid q1
          have HO2 := Lib.hid q2
          have HI4 := Lib.hid (HIa.out.below hb4)
          have P4 := Lib.hid (Pa.out.below hb4 Pa.out.lt)
          have BW4 := Lib.hid (BWa.out.trans (hb4.mono BWa.out.size))
          have HB4 := Lib.hid (HBa.out.trans (hb4.mono HBa.out.size))
          clear hq q1 q2 hap hb4
          obtain ⟨b0, o0, z, hB, hz, hcell, hbl, hz0, hz1⟩ := HI4.out.ib.get (show i < m by rw [HLB.out]; exact hlt)
          subst hB
          have HZ := Lib.hid hz
          have hent : -100 ≤ z ∧ z ≤ 100 := HOK.out.2.1.2 z (List.mem_of_getElem? hz)
          have HRZ : Hid (rint z).ok := rint_okc hent
          have hi0 : (0 : Int) ≤ (i : Int) := by omega
          have him : (i : Int) < (m : Int) := by have := HLB.out; omega
          clear hz hent
          cases b
          case false =>
            have HF : Hid (¬ FeasP P nv la lb lc vs) := feas_long HZ.out HRZ.out (not_fits HQ.out)
            have BWn := Lib.hid (BW4.out.alloc BW4.out.size (.cells #[.bool g, .slice A6 rr.length c6, .slice B6 dd.length d6] 34)).drew
            clear hz0 hz1 hcell
            go_wp2_with fail
            refine wp_region_held_drew (S := (fun _ => True)) (by kernel_rfl) ?_ (fun hHeld => ?_)
            · (try dsimp only); (try trivial)
            refine wpAnyH_go (i := 0) (d := some 49) (v := ?_) (by rfl) (by kernel_rfl) (by kernel_rfl) (by kernel_rfl) (fun _ _ _ h => h) (by assumption) ?_ ?_
            rotate_left 1
            · (intro oS hoS wS hSw; obtain rfl := Option.some.inj hoS; (try dsimp only at hSw); go_simp; try with_reducible rfl)
            (try simp only [Act.put, List.setIfInBounds_toArray])
            refine wpAnyH_go (i := 1) (d := some 50) (v := ?_) (by rfl) (by kernel_rfl) (by kernel_rfl) (by kernel_rfl) (fun _ _ _ h => h) (by assumption) ?_ ?_
            rotate_left 1
            · (intro oS hoS wS hSw; obtain rfl := Option.some.inj hoS; (try dsimp only at hSw); go_simp; try with_reducible rfl)
            (try simp only [Act.put, List.setIfInBounds_toArray])
            refine wpAnyH_go (i := 2) (d := some 51) (v := ?_) (by rfl) (by kernel_rfl) (by kernel_rfl) (by kernel_rfl) (fun _ _ _ h => h) (by assumption) ?_ ?_
            rotate_left 1
            · (intro oS hoS wS hSw; obtain rfl := Option.some.inj hoS; (try dsimp only at hSw); go_simp; try with_reducible rfl)
            (try simp only [Act.put, List.setIfInBounds_toArray])
            refine wpAnyH_skip (i := 3) (d := some 52) (by rfl) (by kernel_rfl) (by kernel_rfl) (by kernel_rfl) (fun _ _ _ h => h) (by assumption) ?_
            (try simp only [Act.put, List.setIfInBounds_toArray])
            refine wpAnyH_skip (i := 4) (d := some 53) (by rfl) (by kernel_rfl) (by kernel_rfl) (by kernel_rfl) (fun _ _ _ h => h) (by assumption) ?_
            (try simp only [Act.put, List.setIfInBounds_toArray])
            refine wpAnyH_skip (i := 5) (d := some 54) (by rfl) (by kernel_rfl) (by kernel_rfl) (by kernel_rfl) (fun _ _ _ h => h) (by assumption) ?_
            (try simp only [Act.put, List.setIfInBounds_toArray])
            refine wpAnyH_skip (i := 6) (d := some 55) (by rfl) (by kernel_rfl) (by kernel_rfl) (by kernel_rfl) (fun _ _ _ h => h) (by assumption) ?_
            (try simp only [Act.put, List.setIfInBounds_toArray])
            refine wpAnyH_skip (i := 7) (d := some 56) (by rfl) (by kernel_rfl) (by kernel_rfl) (by kernel_rfl) (fun _ _ _ h => h) (by assumption) ?_
            (try simp only [Act.put, List.setIfInBounds_toArray])
            refine wpAnyH_skip (i := 8) (d := some 57) (by rfl) (by kernel_rfl) (by kernel_rfl) (by kernel_rfl) (fun _ _ _ h => h) (by assumption) ?_
            (try simp only [Act.put, List.setIfInBounds_toArray])
            refine wpAnyH_skip (i := 9) (d := some 58) (by rfl) (by kernel_rfl) (by kernel_rfl) (by kernel_rfl) (fun _ _ _ h => h) (by assumption) ?_
            (try simp only [Act.put, List.setIfInBounds_toArray])
            refine wpAnyH_skip (i := 10) (d := some 59) (by rfl) (by kernel_rfl) (by kernel_rfl) (by kernel_rfl) (fun _ _ _ h => h) (by assumption) ?_
            (try simp only [Act.put, List.setIfInBounds_toArray])
            refine wpAnyH_skip (i := 11) (d := some 60) (by rfl) (by kernel_rfl) (by kernel_rfl) (by kernel_rfl) (fun _ _ _ h => h) (by assumption) ?_
            (try simp only [Act.put, List.setIfInBounds_toArray])
            refine wpAnyH_go (i := 12) (d := some 61) (v := ?_) (by rfl) (by kernel_rfl) (by kernel_rfl) (by kernel_rfl) (fun _ _ _ h => h) (by assumption) ?_ ?_
            rotate_left 1
            · (intro oS hoS wS hSw; obtain rfl := Option.some.inj hoS; (try dsimp only at hSw); go_simp; try with_reducible rfl)
            (try simp only [Act.put, List.setIfInBounds_toArray])
            refine wpAnyH_done (by kernel_rfl) ?_ _
            go_wp2_with fail
            go_ret
            exact lpOk_no HF.out BWn.out
          have HCV : Hid ((#[.int .i64 P, .int .i64 nv, .slice A n c, .slice (some ⟨b0, o0, none⟩) m d, .slice C l f] : Array Value)[3]? = some (.slice (some ⟨b0, o0, none⟩) m d)) := rfl
          have X_5 : Hid (Box (w4.alloc (.cells #[.bool g, .slice A6 rr.length c6, .slice B6 dd.length d6] 34)).drew w4.heap.size 34 #[.bool g, .slice A6 rr.length c6, .slice B6 dd.length d6]) := (Box.new _ _ _).drew
          have P_5 : Hid (Box (w4.alloc (.cells #[.bool g, .slice A6 rr.length c6, .slice B6 dd.length d6] 34)).drew w.heap.size 61 #[.int .i64 P, .int .i64 nv, .slice A n c, .slice (some ⟨b0, o0, none⟩) m d, .slice C l f]) := (P4.out.alloc _).drew
          have hbx : Below w4.heap.size w4 (w4.alloc (.cells #[.bool g, .slice A6 rr.length c6, .slice B6 dd.length d6] 34)) := (Below.refl _ _).alloc (Nat.le_refl _) _
          have C_5 : Hid ((w4.alloc (.cells #[.bool g, .slice A6 rr.length c6, .slice B6 dd.length d6] 34)).drew.cell? ⟨b0, o0 + i, none⟩ = some (.int .i64 z)) := (hbx.cell (p := ⟨b0, o0 + i, none⟩) hbl).trans hcell
          have HL5 : Hid (b0 < (w4.alloc (.cells #[.bool g, .slice A6 rr.length c6, .slice B6 dd.length d6] 34)).drew.heap.size) := Nat.lt_of_lt_of_le hbl hbx.size
          have BW5 := Lib.hid (BW4.out.alloc BW4.out.size (.cells #[.bool g, .slice A6 rr.length c6, .slice B6 dd.length d6] 34)).drew
          have HB5 := Lib.hid (HB4.out.alloc HB4.out.size (.cells #[.bool g, .slice A6 rr.length c6, .slice B6 dd.length d6] 34)).drew
          have HSK : Hid (ROk g rr dd) := (fits_is HQ.out).2
          have O_5 := Lib.hid (own_drew (HO1.out.2.alloc (.cells #[.bool g, .slice A6 rr.length c6, .slice B6 dd.length d6] 34)))
          have U_5 := Lib.hid (own_drew (HO2.out.2.alloc (.cells #[.bool g, .slice A6 rr.length c6, .slice B6 dd.length d6] 34)))
          have hs1 : rr.length ≤ 24 := HSK.out.2.2.2.2.1
          have hs2 : dd.length ≤ 24 := HSK.out.2.2.2.2.2
          have HZB : Hid (-9223372036854775808 ≤ z ∧ z ≤ 9223372036854775807) := ⟨by omega, by omega⟩
          clear hcell hbx
          go_wp2_with fail
          go_region_held3 (fun w' => w'.cell? ⟨w4.heap.size, 0, none⟩ = some (.bool g) ∧ w'.cell? ⟨w4.heap.size, 1, none⟩ = some (.slice A6 rr.length c6) ∧ w'.cell? ⟨w4.heap.size, 2, none⟩ = some (.slice B6 dd.length d6) ∧ w'.cell? ⟨w.heap.size, 3, none⟩ = some (.slice (some ⟨b0, o0, none⟩) m d) ∧ w'.cell? ⟨b0, o0 + i, none⟩ = some (.int .i64 z)) (first | with_reducible exact cmpS X_7 P_7 HCV C_7 | with_reducible exact cmpS X_6 P_6 HCV C_6 | with_reducible exact cmpS X_5 P_5 HCV C_5) (first | (go_at_call 184; (with_reducible refine (spec_ratFromInt z _ HZB.out).mono ?_); rintro e w6 ⟨gf, rf, vf, df, uf, rfl, hq6, q16, q26, hap6, hb6⟩; obtain ⟨Af, cf, rfl⟩ := own_slice q16.2; obtain ⟨Bf, ef, rfl⟩ := own_slice q26.2; have HQ6 : Hid (RD.mk gf rf df = rint z) := rint_of hq6; have HK6 : Hid (ROk gf rf df) := (by have h0 := HRZ.out; rw [← HQ6.out] at h0; exact h0); have O_6 := Lib.hid q16.2; have U_6 := Lib.hid q26.2; have hf1 : rf.length ≤ 24 := HK6.out.2.2.2.2.1; have hf2 : df.length ≤ 24 := HK6.out.2.2.2.2.2; have X_6 := Lib.hid (X_5.out.below hb6 X_5.out.lt); have P_6 := Lib.hid (P_5.out.below hb6 P_5.out.lt); have C_6 := Lib.hid ((hb6.cell (p := ⟨b0, o0 + i, none⟩) HL5.out).trans C_5.out); have HL6 := Lib.hid (Nat.lt_of_lt_of_le HL5.out hb6.size); have BW6 := Lib.hid (BW5.out.trans (hb6.mono BW5.out.size)); have HB6 := Lib.hid (HB5.out.trans (hb6.mono HB5.out.size)); have O_56 := Lib.hid (own_below O_5.out hb6); have U_56 := Lib.hid (own_below U_5.out hb6); clear hq6 q16 q26 hap6 hb6) | (go_at_call 201; (with_reducible refine (spec_l04Cmp g A6 rr.length c6 rr B6 dd.length d6 dd gf Af rf.length cf rf Bf df.length ef df _ (in_gr hs1 (ROk.nr HSK.out) O_56.out) (room_own O_56.out) (in_gr hs2 (ROk.dr HSK.out) U_56.out) (room_own U_56.out) (in_gr hf1 (ROk.nr HK6.out) O_6.out) (room_own O_6.out) (in_gr hf2 (ROk.dr HK6.out) U_6.out) (room_own U_6.out) HSK.out HK6.out).mono ?_); rintro e w7 ⟨rfl, hb7⟩; have X_7 := Lib.hid (X_6.out.below hb7 X_6.out.lt); have P_7 := Lib.hid (P_6.out.below hb7 P_6.out.lt); have C_7 := Lib.hid ((hb7.cell (p := ⟨b0, o0 + i, none⟩) HL6.out).trans C_6.out); have BW7 := Lib.hid (BW6.out.trans (hb7.mono BW6.out.size)); have HB7 := Lib.hid (HB6.out.trans (hb7.mono HB6.out.size)); clear hb7))
          have HQ6' : gf = (rint z).g ∧ rf = (rint z).xs ∧ df = (rint z).ds := by rw [← HQ6.out]; exact ⟨rfl, rfl, rfl⟩
          by_cases hcm : (cmpV (bval g rr * val df) (bval gf rf * val dd) != 0) = true
          · have HF : Hid (¬ FeasP P nv la lb lc vs) := feas_off HZ.out (fits_is HQ.out) HQ6' hcm
            have HCM := hcm
            clear hcm
            go_wp2_with fail
            go_ret
            exact lpOk_no HF.out BW7.out
          have hcm2 : (cmpV (bval g rr * val df) (bval gf rf * val dd) != 0) = false := by simpa using hcm
          have HNX := Lib.hid (feas_on HRZ.out (fits_is HQ.out) HQ6' hcm2)
          clear hcm
          go_wp2_with fail
          go_roundw
          case rel => exact ⟨i + 1, by omega, by go_num, Lib.hid (hrows.out.succ HZ.out HNX.out), HB7⟩
          case measure => simp [intOf]; omega
        · obtain rfl : i = P := by omega
          have HF : Hid (LpOkEnd (FeasP i nv la lb lc vs) w wr (.returned (.bool true))) := lpOk_yes ⟨HOK.out, ⟨by rw [HV.out.1], HOKV.out⟩, HPOS.out, fun j z hj => by have hlt := (List.getElem?_eq_some_iff.1 hj).1; have hl := HI.out.2.1.1; simpa using hrows.out j z (by have := HLB.out; omega) hj⟩ BW3.out
          go_wp2_with fail
          go_ret
          exact HF.out
end Go.Proofs.YtegclofijaoajaaGreat
