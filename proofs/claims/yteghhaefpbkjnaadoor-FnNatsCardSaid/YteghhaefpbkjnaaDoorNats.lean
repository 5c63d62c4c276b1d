/- For every slice of bytes the law FnNats returns true: of two drawn natural numbers, quotient times divisor plus remainder is the first, the remainder is less than the divisor, the greatest common divisor divides the first, and the first is read again from its text; where the library's table of powers of ten is as the program's text lays it; no other condition. -/
import Derived.Test.YteghhaefpbkjnaaDoorMkNat
import Derived.Test.YteghhaefpbkjnaaDoorIm5
import Derived.Test.YteghhaefpbkjnaaDoorIm9
import Derived.Test.YteghhaefpbkjnaaDoorPar
import Derived.Test.YteghhaefpbkjnaaDoorFnt
import Derived.Test.YteghhaefpbkjnaaDoorTab
import Derived.ProofKit
import Derived.OpenShut
import Derived.LaidMore
import Derived.Stop.Joined
import Derived.Test.YteghhaefpbkjnaaDoorCards
import Derived.Test.YteghhaefpbkjnaaDoorTie
namespace Go.Proofs.YteghhaefpbkjnaaDoor.fnNats
open Go.ChangeShapes Go.WideShapes Go.ChangeAt Go.RowKit
open Go.ChangeMaps (open_string shut_string)

theorem Small3.ok {a : List Int} (h : Small3 a) : Ok a := ⟨h.1, by have := h.2; omega⟩
/-- A result that is a number of at most three limbs, as an argument. -/
theorem res_in {w w' : World} {v : Value} {rs : List Int} (h : ResI w w' v rs) (hs : Small3 rs) : ∃ A c N, v = .slice A N c ∧ N ≤ 3 ∧ rs.length = N ∧ InI w' A N rs := by
  obtain ⟨A, c, hv⟩ := own_slice h.2
  subst hv
  exact ⟨A, c, rs.length, rfl, hs.2, rfl, rfl, by have := hs.2; omega, Reads.of_own h.2, fun z hz => by have := hs.1.1 z hz; omega⟩
theorem small_le {a b : List Int} (h : Small3 a) (hb : Canon b) (hle : val b ≤ val a) : Small3 b := by
  refine ⟨hb, short_of hb ?_⟩
  have h1 := val_lt h.1.1
  have h2 := pw_mono h.2
  omega
theorem pos_of {b : List Int} (h : Small3 b) {N : Nat} (hN : b.length = N) (h0 : 0 < N) : 0 < val b := canon_pos h.1 (by omega)
theorem div_none {a b q r : List Int} (h : NatDivIs a b q r) (hb : b.length = 0) : q = [] ∧ r = [] := by
  rcases h with ⟨_, _, h, _⟩ | ⟨_, h1, h2⟩
  · rw [List.eq_nil_of_length_eq_zero hb] at h
    exact absurd h (by decide)
  · exact ⟨h1, h2⟩
/-- What a division of two drawn numbers gives. -/
def Good (a b q r : List Int) : Prop := Small3 q ∧ Small3 r ∧ val a = val q * val b + val r ∧ val r < val b
theorem div_some {a b q r : List Int} (h : NatDivIs a b q r) (ha : Small3 a) (hb : Small3 b) (h0 : 0 < val b) : Good a b q r := by
  rcases h with ⟨_, _, _, h1, h2, h3, h4⟩ | ⟨h, _⟩
  · have r0 := val_nonneg h2.1
    have q0 := val_nonneg h1.1
    have h5 : val q * 1 ≤ val q * val b := Int.mul_le_mul_of_nonneg_left (by omega) q0
    have h6 : 0 ≤ val q * val b := Int.mul_nonneg q0 (by omega)
    exact ⟨small_le ha h1 (by omega), small_le ha h2 (by omega), h3, h4⟩
  · exact absurd ⟨Small3.ok ha, Small3.ok hb, h0⟩ h
theorem gcd_some {a b g : List Int} (h : NatGcdIs a b g) (ha : Small3 a) (hb : Small3 b) (h0 : 0 < val b) : Small3 g ∧ val g = (Int.gcd (val a) (val b) : Int) ∧ 0 < val g := by
  rcases h with ⟨_, _, h1, h2⟩ | ⟨h, _⟩
  · have h3 : 0 < Int.gcd (val a) (val b) := Int.gcd_pos_of_ne_zero_right _ (by omega)
    have h4 : ((Int.gcd (val a) (val b) : Nat) : Int) ≤ val b := Int.le_of_dvd h0 (Int.gcd_dvd_right _ _)
    exact ⟨small_le hb h1 (by omega), h2, by omega⟩
  · exact absurd ⟨Small3.ok ha, Small3.ok hb⟩ h
theorem rest_none {a b g q r : List Int} (hg : val g = (Int.gcd (val a) (val b) : Int)) (_h0 : 0 < val g) (h : Good a g q r) : r = [] := by
  obtain ⟨_, h2, h3, h4⟩ := h
  have r0 := val_nonneg h2.1.1
  have hd : val g ∣ val a := hg ▸ Int.gcd_dvd_left _ _
  have hr : val g ∣ val r := by
    have e : val r = val a - val q * val g := by omega
    rw [e]
    exact Int.dvd_sub hd (Int.dvd_mul_left _ _)
  refine canon_zero h2.1 ?_
  by_cases e : val r = 0
  · exact e
  · have := Int.le_of_dvd (by omega) hr; omega
theorem mul_some {a b q r p : List Int} (h : Good a b q r) (ha : Small3 a) (hb : Small3 b) (hp : NatMulIs q b p) : Small3 p ∧ val p = val q * val b := by
  obtain ⟨h1, h2, h3, h4⟩ := h
  rcases hp with ⟨_, l, hl, hv, hr⟩ | ⟨hn, _⟩
  · have r0 := val_nonneg h2.1.1
    have hs := small_le ha hl (by omega)
    have hc := (Canon.ok hl (by have := hs.2; omega)).2
    rw [hr, hc]
    exact ⟨hs, hv⟩
  · exact absurd ⟨Small3.ok h1, Small3.ok hb⟩ hn
theorem add_some {a b q r p s : List Int} (h : Good a b q r) (ha : Small3 a) (hp : Small3 p ∧ val p = val q * val b) (hs : NatAddIs p r s) : s = a := by
  obtain ⟨h1, h2, h3, h4⟩ := h
  rcases hs with ⟨_, l, hl, hv, hr⟩ | ⟨hn, _⟩
  · have hla : l = a := canon_unique hl ha.1 (by omega)
    have hc := (Canon.ok hl (by rw [hla]; have := ha.2; omega)).2
    rw [hr, hc, hla]
  · exact absurd ⟨Small3.ok hp.1, Small3.ok h2⟩ hn
theorem cmp_same {a : List Int} {r : Int} (h : NatCmpIs a a r) : r = 0 := by
  rcases h with ⟨_, _, rfl⟩ | ⟨_, rfl⟩
  · exact cmpV_eq rfl
  · rfl
theorem cmp_less {a b : List Int} {r : Int} (h : NatCmpIs a b r) (ha : Small3 a) (hb : Small3 b) (hlt : val a < val b) : r = -1 := by
  rcases h with ⟨_, _, rfl⟩ | ⟨hn, _⟩
  · exact cmpV_lt hlt
  · exact absurd ⟨Small3.ok ha, Small3.ok hb⟩ hn
theorem back {a x : List Int} {t : ByteArray} {b : Bool} (ha : Small3 a) (ht : FormatNatIs a t) (h : ParseNatIs t x b) : x = a ∧ b = true := by
  obtain ⟨h1, h2⟩ := format_parse (Small3.ok ha) ht
  rcases h with ⟨rfl, _, h3, h4⟩ | ⟨_, _, h3⟩
  · exact ⟨canon_unique h3 ha.1 (h4.trans h2), rfl⟩
  · exact absurd h1 h3
theorem size_text {a : List Int} {t : ByteArray} (ha : Small3 a) (ht : FormatNatIs a t) : t.size ≤ 1048576 := by
  have := (format_parse (Small3.ok ha) ht).1.2.1; omega
theorem twelve {l : List Int} (h : NatOfIs 12 l) : Small3 l ∧ ∀ t, FormatNatIs l t → t = ⟨#[49, 50]⟩ := by
  have e : l = [12] := canon_unique h.1 ⟨by intro d hd; simp at hd; omega, by decide⟩ (by rw [h.2]; decide)
  subst e
  have hs : Small3 [12] := ⟨h.1, by decide⟩
  refine ⟨hs, fun t ht => ?_⟩
  rw [ht, fmtNat_ok (Small3.ok hs), textL, show (val [12]).toNat = 12 from by decide, decDigits_last (by omega), Lib.decDigits_one (by omega)]
  rfl

set_option maxHeartbeats 1600000 in
theorem walk {w : World} (A : Option Addr) (n c : Nat) (hx : IsBytes w A n) (ht : Tab w) :
    Calls Tryd.prog 3 #[.slice A n c] w fun e w' => e = .returned (.bool true) ∧ Below w.heap.size w w' := by
  have Ht := Lib.hid ht
  have Hby := Lib.hid hx.2
  clear ht hx
  by_cases hb : 1048576 < (n : Int)
  · go_enter Tryd.func3, Tryd.ntmps3
    go_wp2_with fail
    go_ret
    exact ⟨rfl, Below.refl _ _⟩
  go_enter Tryd.func3, Tryd.ntmps3
  go_wp2_with fail
  refine (spec_makeNat A n c 1 _ (by omega) (by omega) Hby.out).mono ?_
  rintro e w1 ⟨a, v, rfl, ha, hra, hb1⟩
  obtain ⟨Aa, ca, Na, rfl, la, ea, ia⟩ := res_in hra ha
  have SA := Lib.hid ha
  have EA := Lib.hid ea
  have IA1 := Lib.hid ia
  have B1 := Lib.hid hb1
  clear ha ea ia hb1 hra
  go_wp2_with fail
  refine (spec_makeNat A n c 9 _ (by omega) (by omega) (Hby.out.keep2 B1.out)).mono ?_
  rintro e w2 ⟨b, v, rfl, ha, hra, hb1⟩
  obtain ⟨Ab, cb, Nb, rfl, lb, ea, ib⟩ := res_in hra ha
  have SB := Lib.hid ha
  have EB := Lib.hid ea
  have IB2 := Lib.hid ib
  have IA2 := Lib.hid (IA1.out.below hb1)
  have B2 := Lib.hid (B1.out.trans (hb1.mono B1.out.size))
  clear ha ea ib hb1 hra IA1
  go_wp2_with fail
  refine (impl_natDiv Aa Na ca a Ab Nb cb b _ IA2.out IB2.out).mono ?_
  rintro e w3 ⟨q, vq, r, vr, rfl, hdiv, hrq, hrr, hap, hb3⟩
  have IA3 := Lib.hid (IA2.out.below hb3)
  have IB3 := Lib.hid (IB2.out.below hb3)
  have B3 := Lib.hid (B2.out.trans (hb3.mono B2.out.size))
  have HD := Lib.hid hdiv
  have HRQ := Lib.hid hrq
  have HRR := Lib.hid hrr
  obtain ⟨Aq, cq, hvq⟩ := own_slice hrq.2
  obtain ⟨Ar, cr, hvr⟩ := own_slice hrr.2
  have HVQ := Lib.hid hvq
  have HVR := Lib.hid hvr
  clear hdiv hrq hrr hap hb3 IA2 IB2 hvq hvr
  go_wp2_with fail
  refine (impl_natGcd Aa Na ca a Ab Nb cb b _ IA3.out IB3.out).mono ?_
  rintro e w4 ⟨g, vg, rfl, hgcd, hrg, hb4⟩
  have IA4 := Lib.hid (IA3.out.below hb4)
  have IB4 := Lib.hid (IB3.out.below hb4)
  have B4 := Lib.hid (B3.out.trans (hb4.mono B3.out.size))
  have HB4 := Lib.hid hb4
  have HG := Lib.hid hgcd
  have HRG := Lib.hid hrg
  clear hgcd hrg hb4 IA3 IB3
  go_wp2_with fail
  refine (impl_formatNat Aa Na ca a _ IA4.out (Ht.out.below B4.out)).mono ?_
  rintro e w5 ⟨t, rfl, hft, hb5⟩
  have IA5 := Lib.hid (IA4.out.below hb5)
  have IB5 := Lib.hid (IB4.out.below hb5)
  have B5 := Lib.hid (B4.out.trans (hb5.mono B4.out.size))
  have HB5 := Lib.hid hb5
  have HF := Lib.hid hft
  clear hft hb5 IA4 IB4
  go_wp2_with fail
  refine (impl_parseNat t _ (size_text SA.out HF.out)).mono ?_
  rintro e w6 ⟨x, vx, bx, rfl, hpar, hrx, hb6⟩
  have IA6 := Lib.hid (IA5.out.below hb6)
  have IB6 := Lib.hid (IB5.out.below hb6)
  have B6 := Lib.hid (B5.out.trans (hb6.mono B5.out.size))
  have HB6 := Lib.hid hb6
  obtain ⟨rfl, rfl⟩ := back SA.out HF.out hpar
  obtain ⟨Ax, cx, Nx, rfl, lx, ex, ix⟩ := res_in hrx SA.out
  have IX6 := Lib.hid ix
  clear hpar hrx hb6 IA5 IB5 ex ix
  go_wp2_with fail
  refine (impl_natCmp Ax Nx cx x Aa Na ca x _ IX6.out IA6.out).mono ?_
  rintro e w7 ⟨o, rfl, hcm, hb7⟩
  obtain rfl := cmp_same hcm
  have IA7 := Lib.hid (IA6.out.below hb7)
  have IB7 := Lib.hid (IB6.out.below hb7)
  have B7 := Lib.hid (B6.out.trans (hb7.mono B6.out.size))
  have HB7 := Lib.hid hb7
  clear hcm hb7 IA6 IB6 IX6
  go_wp2_with fail
  refine (impl_natOf 12 _ (by omega)).mono ?_
  rintro e w8 ⟨d, vd, rfl, hof, hrd, hb8⟩
  obtain ⟨sd, td⟩ := twelve hof
  obtain ⟨Ad, cd, Nd, rfl, ld, ed, idd⟩ := res_in hrd sd
  have TD := Lib.hid td
  have ID8 := Lib.hid idd
  have IA8 := Lib.hid (IA7.out.below hb8)
  have IB8 := Lib.hid (IB7.out.below hb8)
  have B8 := Lib.hid (B7.out.trans (hb8.mono B7.out.size))
  have HB8 := Lib.hid hb8
  clear hof hrd hb8 sd td ed idd IA7 IB7
  go_wp2_with fail
  refine (impl_formatNat Ad Nd cd d _ ID8.out (Ht.out.below B8.out)).mono ?_
  rintro e w9 ⟨t2, rfl, hft2, hb9⟩
  obtain rfl := TD.out t2 hft2
  have IA9 := Lib.hid (IA8.out.below hb9)
  have IB9 := Lib.hid (IB8.out.below hb9)
  have B9 := Lib.hid (B8.out.trans (hb9.mono B8.out.size))
  have HB9 := Lib.hid hb9
  clear hft2 hb9 IA8 IB8 ID8 TD
  by_cases h0 : Nb = 0
  · obtain ⟨rfl, rfl⟩ := div_none HD.out (EB.out.trans h0)
    have e1 := HVQ.out
    have e2 := HVR.out
    subst e1 e2
    subst h0
    go_wp2_with fail
    go_ret
    exact ⟨rfl, B9.out⟩
  have hpb := pos_of SB.out EB.out (by omega)
  have hgood := div_some HD.out SA.out SB.out hpb
  obtain ⟨Aq2, cq2, Nq, e1, lq, eq, iq⟩ := res_in HRQ.out hgood.1
  obtain ⟨Ar2, cr2, Nr, e2, lr, er, ir⟩ := res_in HRR.out hgood.2.1
  subst e1 e2
  obtain ⟨sg, vg1, vg2⟩ := gcd_some HG.out SA.out SB.out hpb
  obtain ⟨Ag, cg, Ng, rfl, lg, eg, ig⟩ := res_in HRG.out sg
  have b39 := HB4.out.trans ((HB5.out.trans ((HB6.out.trans ((HB7.out.trans ((HB8.out.trans (HB9.out.mono HB8.out.size)).mono HB7.out.size)).mono HB6.out.size)).mono HB5.out.size)).mono HB4.out.size)
  have b49 := HB5.out.trans ((HB6.out.trans ((HB7.out.trans ((HB8.out.trans (HB9.out.mono HB8.out.size)).mono HB7.out.size)).mono HB6.out.size)).mono HB5.out.size)
  have IQ9 := Lib.hid (iq.below b39)
  have IR9 := Lib.hid (ir.below b39)
  have IG9 := Lib.hid (ig.below b49)
  have GOOD := Lib.hid hgood
  have SG := Lib.hid sg
  have VG1 := Lib.hid vg1
  have VG2 := Lib.hid vg2
  have hne : ((Nb : Int) == 0) = false := by simp; omega
  clear hpb hgood eq iq er ir sg vg1 vg2 eg ig b39 b49 HVQ HVR HRQ HRR HRG h0
  go_wp2_with fail
  refine (impl_natDiv Aa Na ca x Ag Ng cg g _ IA9.out IG9.out).mono ?_
  rintro e w10 ⟨q9, v9, r9, u9, rfl, hdiv, hrq, hrr, hap, hb10⟩
  obtain rfl := rest_none VG1.out VG2.out (div_some hdiv SA.out SG.out VG2.out)
  obtain ⟨A9, c9, rfl⟩ := own_slice hrr.2
  have IA10 := Lib.hid (IA9.out.below hb10)
  have IB10 := Lib.hid (IB9.out.below hb10)
  have IQ10 := Lib.hid (IQ9.out.below hb10)
  have IR10 := Lib.hid (IR9.out.below hb10)
  have B10 := Lib.hid (B9.out.trans (hb10.mono B9.out.size))
  clear hdiv hrq hrr hap hb10 IA9 IB9 IQ9 IR9 IG9
  go_wp2_with fail
  refine (impl_natMul _ Nq _ q Ab Nb cb b _ IQ10.out IB10.out).mono ?_
  rintro e w11 ⟨p, vp, rfl, hmul, hrp, hb11⟩
  have hsp := mul_some GOOD.out SA.out SB.out hmul
  obtain ⟨Ap, cp, Np, rfl, lp, ep, ip⟩ := res_in hrp hsp.1
  have SP := Lib.hid hsp
  have IP11 := Lib.hid ip
  have IA11 := Lib.hid (IA10.out.below hb11)
  have IB11 := Lib.hid (IB10.out.below hb11)
  have IR11 := Lib.hid (IR10.out.below hb11)
  have B11 := Lib.hid (B10.out.trans (hb11.mono B10.out.size))
  clear hmul hrp hb11 hsp ep ip IA10 IB10 IQ10 IR10
  go_wp2_with fail
  refine (impl_natAdd Ap Np cp p _ Nr _ r _ IP11.out IR11.out).mono ?_
  rintro e w12 ⟨s, vs, rfl, hadd, hrs, hb12⟩
  obtain rfl := add_some GOOD.out SA.out SP.out hadd
  obtain ⟨As, cs, Ns, rfl, ls, es, is⟩ := res_in hrs SA.out
  have IS12 := Lib.hid is
  have IA12 := Lib.hid (IA11.out.below hb12)
  have IB12 := Lib.hid (IB11.out.below hb12)
  have IR12 := Lib.hid (IR11.out.below hb12)
  have B12 := Lib.hid (B11.out.trans (hb12.mono B11.out.size))
  clear hadd hrs hb12 es is IA11 IB11 IR11 IP11
  go_wp2_with fail
  refine (impl_natCmp As Ns cs s Aa Na ca s _ IS12.out IA12.out).mono ?_
  rintro e w13 ⟨o, rfl, hcm, hb13⟩
  obtain rfl := cmp_same hcm
  have IB13 := Lib.hid (IB12.out.below hb13)
  have IR13 := Lib.hid (IR12.out.below hb13)
  have B13 := Lib.hid (B12.out.trans (hb13.mono B12.out.size))
  clear hcm hb13 IA12 IB12 IR12 IS12
  go_wp2_with fail
  refine (impl_natCmp _ Nr _ r Ab Nb cb b _ IR13.out IB13.out).mono ?_
  rintro e w14 ⟨o, rfl, hcm, hb14⟩
  obtain rfl := cmp_less hcm GOOD.out.2.1 SB.out GOOD.out.2.2.2
  have B14 := Lib.hid (B13.out.trans (hb14.mono B13.out.size))
  clear hcm hb14 IB13 IR13
  go_wp2_with fail
  go_ret
  exact ⟨rfl, B14.out⟩
theorem given {W : World} (h : laidMetH Tryd.prog Rows.fnNatsRow.laid W) : Tab W := by
  rw [MakeChecks.laidMetH_plain _ _ _ (by kernel_rfl)] at h
  obtain ⟨ps, h, _⟩ := h
  obtain ⟨ps, h⟩ := laid_tail h
  obtain ⟨ps, h⟩ := laid_tail h
  exact Tab.of_vars h
-- THE FRAME, by wip/tools/frame.py
theorem own : ownKnob Tryd.prog.godebug = none := by kernel_rfl
theorem laidOut : laidOutB Tryd.prog = true := by kernel_rfl

theorem door_met (os : Os) (args : Array Value) : laidMetH Tryd.prog Rows.fnNatsRow.laid ((World.doorLaid Tryd.prog 400 os).forCall (fun _ _ => 0) ⟨#[], args, []⟩).memory :=
  laidMetH_of_parts3 (fuel := 8) (laidMet_of_run' 8 (by kernel_rfl) (by kernel_rfl)) (by kernel_rfl) (by kernel_rfl)
set_option maxRecDepth 100000 in
theorem lifted (os : Os) (started : os.Started) (H : Type) (enc : TypeId × Value → H) :
    ReturnsInHanded {} Tryd.checked os 3 .any (fun w args => (Rows.fnNatsSpec.pre enc Tryd.prog Tryd.f3 [] false w args ∧ laidMetH Tryd.prog Rows.fnNatsRow.laid w) ∧ sizedMet enc Tryd.prog Tryd.f3 (OpenSpec.ofChange Rows.fnNatsSpec) false w args)
      (Rows.fnNatsSpec.post enc Tryd.prog Tryd.f3 false true false false) := by
  refine returnsInHanded_of_change_and (C := Tryd.checked) (X := fun w _ => laidMetH Tryd.prog Rows.fnNatsRow.laid w) (fun _ _ _ hh h => h.of_heap hh) own started (by kernel_rfl) Tryd.func3
    (ChangeSpec.witness_shaped (enc := enc) (C := Tryd.checked) (os := os) (X := fun w _ => laidMetH Tryd.prog Rows.fnNatsRow.laid w) false (World.doorLaid Tryd.prog 400 os) #[.slice none 0 0] 8 rfl (World.shaped_of_RefB (by kernel_rfl) (by kernel_rfl)) (by kernel_rfl) (by kernel_rfl) (by kernel_rfl) (door_met os _)) ?_
  intro W base args ds gs before hval0 hW _ _ hL _
  have hval : ∀ (j : Nat) t v, Tryd.f3.params[j]? = some t → args[j]? = some v → Value.okWide Tryd.prog W .any base t v := hval0
  have hW' := hW
  obtain ⟨p, q, hA0, hV, rfl, _, _⟩ := hW
  have hA : DataW.TrodAll enc Tryd.prog W 0 (fun _ => true) true Tryd.f3.params.toList args.toList ds p := hA0
  rw [Tryd.params3] at hA hval
  obtain ⟨v0, vs0, d0, ds0, p0, q0, hargs, rfl, rfl, h0, r0⟩ := trodAll_cons hA
  obtain ⟨rfl, rfl, rfl⟩ := trodAll_nil r0
  obtain rfl : args = #[v0] := by cases args; simp_all
  obtain ⟨rfl, rfl⟩ := trodVars_none hV
  obtain ⟨a0, len0, cap0, rfl⟩ := okWide_slice Tryd.underlying22 (hval 0 22 v0 rfl rfl)
  have k0 := h0
  have lt0 : ∀ x ∈ p0, x.block < W.heap.size := by obtain ⟨m, hm⟩ := k0; exact DataW.trod_lt m _ _ _ hm
  have w0 := isBytes_of Tryd.underlying22 Tryd.underlying5 (by kernel_rfl) h0
  clear hA0 hval0
  refine (walk (w := W) a0 len0 cap0 w0 (given hL)).mono fun e W' ⟨he, bel⟩ => ?_
  subst he
  exact ⟨_, rfl, _, _, _, [], _, [], hW', trodAll_mk1 (shut_bool Tryd.underlying4 _), (trodAll_cons_mk (Below.trod laidOut (by kernel_rfl) (of_decide_eq_true (by kernel_rfl)) k0 bel lt0) trodAll_mk0), rfl, bel.frame _, fun h => by cases h⟩

theorem over : Rows.fnNatsRow.holds Tryd.pinned (OpenSpec.ofChange Rows.fnNatsSpec) :=
  OpenClaim.holds_of_wide 3 Tryd.f3 rfl rfl rfl rfl rfl rfl rfl ⟨rfl, rfl, rfl, rfl, rfl⟩ rfl rfl rfl rfl rfl (by kernel_rfl) Tryd.func3 (by kernel_rfl)
    (of_decide_eq_true (by kernel_rfl)) (by unfold Func.isWrapper; rw [if_neg (of_decide_eq_false (by kernel_rfl))]; exact ⟨rfl, rfl⟩)
    (fun os started H enc _ => lifted os started H enc)

theorem proved : Rows.FnNatsSaid := over

theorem plain (f : FuncId) (fn : Func) (hf : Tryd.pinned.checked.prog.funcNamed "loop.example/g00830/laws.FnNats" = some f) (hfn : Tryd.pinned.checked.prog.funcs[f]? = some fn) :
    ∀ (j : Nat) t, fn.params[j]? = some t → Tryd.pinned.checked.prog.wantsStandIn t = false := by
  obtain rfl : f = 3 := Option.some.inj ((show Tryd.prog.funcNamed "loop.example/g00830/laws.FnNats" = some 3 by kernel_rfl).symm.trans hf) |>.symm
  obtain rfl : fn = Tryd.f3 := (Option.some.inj (Tryd.func3.symm.trans hfn)).symm
  intro j t ht
  rw [Tryd.params3] at ht
  have hm : t ∈ [22] := by have := Array.mem_of_getElem? ht; simp at this ⊢; omega
  have hall : ([22].all fun u => !Tryd.prog.wantsStandIn u) = true := by kernel_rfl
  exact (show Tryd.prog.wantsStandIn t = false by simpa using List.all_eq_true.1 hall t hm)

theorem card : Rows.FnNatsCardSaid :=
  Claim7.holds_tied_plain_at .later [] _ _ _ _ proved (fun _ h => by cases h) (by kernel_rfl) (fun _ h => by cases h) fnNats_row_tie rfl ⟨rfl, rfl⟩ (by kernel_rfl) rfl (fun f fn hf hfn => ⟨by kernel_rfl, plain f fn hf hfn⟩) (by kernel_rfl)
end Go.Proofs.YteghhaefpbkjnaaDoor.fnNats
