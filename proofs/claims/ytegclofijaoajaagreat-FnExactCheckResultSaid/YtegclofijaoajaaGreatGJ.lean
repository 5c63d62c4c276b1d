/- Contract of the program's one limb of a long division. -/
import Derived.Test.YtegclofijaoajaaGreatGI
import Derived.Deep.DeepCutAuto
import Derived.Test.YtegclofijaoajaaGreatGA
import Derived.Deep.LoopGhost
import Derived.Test.YtegclofijaoajaaGreatGN
namespace Go.Proofs.YtegclofijaoajaaGreat
set_option maxRecDepth 100000
open Go.RowKit

/-- What a limb of the quotient ends in. -/
def LimbEnd (g N c : Nat) (P X ds : List Int) (base : Nat) (w w' : World) (e : Ending) : Prop :=
  ∃ q X', e = .returned (.int .i64 q) ∧ 0 ≤ q ∧ q ≤ 999999999 ∧ X'.length = X.length ∧ InR X' ∧ val X' = val X - q * val ds ∧ val X' < val ds ∧ w'.ownsRow base 3 1 (.slice (some ⟨g, 0, none⟩) N c) N ((P ++ X').map (.int .i64)) ∧ w.grownBy w' (some g)
/-- The window under subtraction. -/
def LessMem (g N c : Nat) (P X ds : List Int) (n base : Nat) (G : Int) (w wr : World) (i : Nat) (cy : Int) (X' : List Int) : Prop :=
  LessAt (val X) G ds i cy X' ∧ X'.length = X.length ∧ ZeroFrom X' (n + 1) ∧ wr.ownsRow base 3 1 (.slice (some ⟨g, 0, none⟩) N c) N ((P ++ X').map (.int .i64)) ∧ w.grownBy wr (some g)
/-- The window being corrected. -/
def TopMem (g N c : Nat) (P X ds : List Int) (n base : Nat) (w wr : World) (q t : Int) (X' : List Int) : Prop :=
  TopAt n (val X - q * val ds) t X' ∧ val X < (q + 1) * val ds ∧ X'.length = X.length ∧ wr.ownsRow base 3 1 (.slice (some ⟨g, 0, none⟩) N c) N ((P ++ X').map (.int .i64)) ∧ w.grownBy wr (some g)
theorem floor_tdiv (S : Int) : (S - S % 1000000000).tdiv 1000000000 = S / 1000000000 := by
  have h := Int.mul_ediv_add_emod S 1000000000
  have e : S - S % 1000000000 = S / 1000000000 * 1000000000 := by omega
  rw [e, Int.mul_tdiv_cancel _ (by decide)]
theorem grownBy_drewN (w : World) (n : Nat) (row : Option Nat) : w.grownBy (w.drewN n) row := ⟨rfl, rfl, rfl, Nat.le_refl _, fun _ _ _ => rfl⟩
theorem drop_get {l r : List Int} {n : Nat} (h : l.drop n = r.drop n) (hl : n < l.length) (hr : n < r.length) : l[n] = r[n] := by
  rw [List.drop_eq_getElem_cons hl, List.drop_eq_getElem_cons hr] at h
  exact (List.cons.inj h).1
theorem getD_set_self (l : List Int) (n : Nat) (v : Int) (h : n < l.length) : (l.set n v).getD n 0 = v := by
  rw [List.getD_eq_getElem?_getD, List.getElem?_set_self h]; rfl

theorem zeroFrom_drop {l r : List Int} {n : Nat} (h : l.drop n = r.drop n) (hz : ZeroFrom r (n + 1)) : ZeroFrom l (n + 1) := by
  intro j hj hle
  have hlen : l.length - n = r.length - n := by rw [← List.length_drop, ← List.length_drop, h]
  have h2 : l.drop j = r.drop j := by
    rw [show j = n + (j - n) by omega, ← List.drop_drop, ← List.drop_drop, h]
  rw [drop_get h2 hj (by omega)]
  exact hz j (by omega) hle
theorem TopMem.next {g N c m base : Nat} {P X ds X1 X2 : List Int} {w wi w1 : World} {q tt cz : Int} (HT : TopAt (m + 1) (val X - q * val ds) tt X1) (zl : X2.length = X1.length) (zr : InR (X2.take (m + 1))) (zv : val X2 + pw (m + 1) * cz = val X1 + val ds)
    (zd : X2.drop (m + 1) = X1.drop (m + 1)) (hl : X1.length = X.length) (hup : val X < (q - 1 + 1) * val ds) (zo : w1.ownsRow base 3 1 (.slice (some ⟨g, 0, none⟩) N c) N ((P ++ X2).map (.int .i64))) (zg : wi.grownBy w1 (some g)) (hg : w.grownBy wi (some g)) :
    TopMem g N c P X ds (m + 1) base w (w1.setCell ⟨g, P.length + (m + 1), none⟩ (.int .i64 (tt + cz))) (q - 1) (tt + cz) (X2.set (m + 1) (tt + cz)) := by
  obtain ⟨_, h2, h3, _, h5, h6⟩ := HT
  have hx : m + 1 < X2.length := by omega
  rw [List.getD_eq_getElem?_getD, List.getElem?_eq_getElem h5] at h6
  have h7 : X1[m + 1] = tt := h6
  have h8 := (drop_get zd hx h5).trans h7
  have h9 : InR ((X2.set (m + 1) (tt + cz)).take (m + 1)) := by rw [List.take_set_of_le (Nat.le_refl _)]; exact zr
  have ht := top_at h9 ((zeroFrom_drop zd h2).set (by omega) (tt + cz)) (by simpa using hx)
  have hv : val X2 + pw (m + 1) * (tt + cz - tt) = val X - (q - 1) * val ds := by grind
  rw [getD_set_self _ _ _ hx, val_set _ _ _ hx, h8, hv] at ht
  have hst := zo.stored (P.length + (m + 1)) (.int .i64 (tt + cz))
  rw [map_append_set] at hst
  exact ⟨ht, hup, by simp; omega, hst.1, grownBy_trans (grownBy_trans hg zg) hst.2⟩

set_option maxHeartbeats 1600000 in
theorem impl_quotientLimb (g N c base k m cw : Nat) (P X ds : List Int) (A2 : Option Addr) (c2 : Nat) (w : World) (ho : w.ownsRow base 3 1 (.slice (some ⟨g, 0, none⟩) N c) N ((P ++ X).map (.int .i64))) (hP : P.length = k) (hN : P.length + X.length = N) (hnX : m + 1 < X.length) (hN60 : N ≤ 1048576)
    (hX : InR X) (hd : ds.length = m + 1) (hdr : InR ds) (hcw : m + 1 + 1 ≤ cw) (hmd : m < ds.length) (htop : 1 ≤ ds[m]) (hlt : val X < 1000000000 * val ds) (hr : Reads w A2 (ds.map (.int .i64))) (hne : ∀ b o, A2 = some ⟨b, o, none⟩ → b ≠ g) :
    Calls Tryz.prog 248 #[.slice (some ⟨g, k, none⟩) (m + 1 + 1) cw, .slice A2 (m + 1) c2] w fun e w' => LimbEnd g N c P X ds base w w' e := by
  subst hP
  obtain ⟨t, ht⟩ : ∃ t, t = ds[m] := ⟨_, rfl⟩
  rw [← ht] at htop
  have ht2 : t ≤ 999999999 := by have := hdr _ (List.getElem_mem hmd); rw [← ht] at this; exact this.2
  obtain ⟨a, ha⟩ : ∃ a, a = X[m + 1] := ⟨_, rfl⟩
  obtain ⟨b, hb⟩ : ∃ b, b = X[m]'(by omega) := ⟨_, rfl⟩
  have ba := hX _ (List.getElem_mem hnX)
  have bb := hX _ (List.getElem_mem (show m < X.length by omega))
  rw [← ha] at ba
  rw [← hb] at bb
  obtain ⟨a0, a1⟩ := ba
  obtain ⟨b0, b1⟩ := bb
  have hdlt := val_lt hdr
  rw [hd] at hdlt
  have hz : ZeroFrom X (m + 1 + 1) := zeroFrom_of_lt hX (by rw [pw]; omega)
  have hP9 := pw_pos m
  have htd : val (ds.drop m) = t := by rw [val_drop_at hmd, List.drop_eq_nil_of_le (by omega), ← ht]; simp [val]
  have hxd : val (X.drop m) = a * 1000000000 + b := by
    rw [val_drop_at (by omega), val_drop_at hnX, ← ha, ← hb, val_zero (l := X.drop (m + 1 + 1)) (fun d hd => by
      obtain ⟨j, hj, rfl⟩ := List.mem_iff_getElem.1 hd
      rw [List.getElem_drop]; exact hz _ _ (by omega))]
    omega
  have tD := take_bd hdr m (by omega)
  have tX := take_bd hX m (by omega)
  have sD := val_split ds m (by omega)
  have sX := val_split X m (by omega)
  rw [htd] at sD
  rw [hxd] at sX
  have e2 : val X < (a * 1000000000 + b + 1) * pw m := by rw [Int.add_mul, Int.mul_comm (a * 1000000000 + b)]; omega
  have e3 : t * pw m ≤ val ds := by rw [Int.mul_comm]; omega
  have g2 := lt_guess hP9 e2 e3 (by omega) htop
  have hq0 : 0 ≤ (a * 1000000000 + b) / t := Int.ediv_nonneg (by omega) (by omega)
  obtain ⟨Q, hQ⟩ : ∃ Q, Q = (a * 1000000000 + b) / t := ⟨_, rfl⟩
  rw [← hQ] at g2 hq0
  have hlt2 : m < X.length := by omega
  obtain ⟨b2, o2, rfl, hbs2, hc2⟩ := hr.at_ (by simp; omega)
  have g1 : w.cell? ⟨g, P.length + (m + 1), none⟩ = some (.int .i64 a) := by rw [ho.cellAt _ (by omega), map_append_get _ _ _ hnX, ha]
  have g3 : w.cell? ⟨g, P.length + m, none⟩ = some (.int .i64 b) := by rw [ho.cellAt _ (by omega), map_append_get _ _ _ hlt2, hb]
  have g4 : w.cell? ⟨b2, o2 + m, none⟩ = some (.int .i64 t) := (hc2 m (by simpa using hmd)).trans (by simp [ht])
  have hsub : ((m + 1 : Nat) : Int) - 1 = (m : Int) := by omega
  have Hd := Lib.hid hd
  have Hdr := Lib.hid hdr
  have Hr := Lib.hid hr
  have Hne := Lib.hid hne
  have HN := Lib.hid hN
  have HnX := Lib.hid hnX
  have Hz := Lib.hid hz
  have Hlt := Lib.hid hlt
  have HX := Lib.hid hX
  have G2 := Lib.hid g2
  have HO := Lib.hid ho
  have hm60 : m ≤ 1048576 := by omega
  have hm0 : (0 : Int) ≤ (m : Int) := by omega
  have hm1 : (0 : Int) ≤ (m : Int) + 1 := by omega
  have hm2 : (m : Int) + 1 < ((m + 1 + 1 : Nat) : Int) := by omega
  have hm3 : ((m : Int) + 1).toNat = m + 1 := by omega
  have hm4 : (m : Int) + 1 ≤ (cw : Int) := by omega
  have hm5 : (m : Int) + 1 < (m : Int) + 1 + 1 := by omega
  clear hd hdr hr hne ho hX hN hnX hz hlt tD tX sD sX htd hxd e2 e3 g2 ha hb ht hc2 hdlt hP9 hlt2 hmd
  have hQs : Hid (0 ≤ Q ∧ val X < (Q + 1) * val ds ∧ Q = (a * 1000000000 + b) / t) := ⟨hq0, G2.out, hQ⟩
  have M0 : Hid (LessMem g N c P X ds (m + 1) base 0 w w 0 0 X) := ⟨⟨HX.out, by simp [val], by omega, by omega⟩, rfl, Hz.out, HO.out, World.grownBy.refl _ _⟩
  go_enter Tryz.func248, Tryz.ntmps248
  go_upto_region 2 with fail
  go_cut [6] (fun x wx => ∃ (G : Int) (nq : Nat), x = .int .i64 G ∧ 0 ≤ G ∧ G ≤ 999999999 ∧ Hid (val X < (G + 1) * val ds) ∧ wx = w.drewN nq)
  case first =>
    by_cases hmn : Q < 999999999
    · go_quiet (fail)
      go_wp2_with fail
      go_meet
      exact ⟨_, _, rfl, by omega, by omega, by rw [← hQ]; exact hQs.out.2.1, rfl⟩
    · have hQ4 : Hid (val X < (999999999 + 1) * val ds) := by have := Hlt.out; unfold Hid; omega
      have hif : (if 999999999 < (a * 1000000000 + b) / t then (999999999 : Int) else (a * 1000000000 + b) / t) = 999999999 := by
        rw [← hQ]; split <;> omega
      have Hif := Lib.hid hif
      clear hif
      go_quiet (fail)
      rw [Hif.out]
      clear hQ hmn
      go_wp2_with fail
      go_meet
      exact ⟨999999999, _, rfl, by omega, by omega, hQ4, rfl⟩
  case rest =>
    obtain ⟨G, nq, rfl, G0, G1, HG, rfl⟩ := hcut
    have M1 : Hid (LessMem g N c P X ds (m + 1) base G w (w.drewN nq) 0 0 X) := by
      obtain ⟨z1, z2, z3, z4, z5⟩ := M0.out
      exact ⟨⟨z1.1, by simp [val], by omega, by omega⟩, z2, z3, z4, grownBy_drewN _ _ _⟩
    clear hQs hQ hq0 G2 M0 g1 g3 g4
    go_wp2_with fail
    go_loopw [7, 30] (fun x y wr => ∃ (i : Nat) (cy : Int) (X' : List Int), i ≤ m + 1 ∧ y = .int .i64 (i : Int) ∧ x = .int .i64 cy ∧ -1000000000 ≤ cy ∧ cy ≤ 0 ∧ Hid (LessMem g N c P X ds (m + 1) base G w wr i cy X')) (fun _ y _ => m + 1 - (intOf y).toNat)
    case atStart => exact ⟨0, 0, X, Nat.zero_le _, rfl, rfl, by omega, by omega, M1⟩
    case round =>
      obtain ⟨i, cy, X', hi, rfl, rfl, c0, c9, hm⟩ := hrel
      obtain ⟨wo, rfl⟩ : ∃ wo : World, wo = wr := ⟨_, rfl⟩
      have hi0 : (0 : Int) ≤ (i : Int) := by omega
      obtain ⟨hp, hl, hzf, ho, hg⟩ := hm.out
      have hlN := HN.out
      have hnX := HnX.out
      by_cases hlt : i < m + 1
      · have hid : i < ds.length := by rw [Hd.out]; exact hlt
        have hiX : i < X'.length := by rw [hl]; omega
        obtain ⟨b3, o3, hE, hbs3, hc2⟩ := (Hr.out.grown hg Hne.out).at_ (by simp; omega)
        cases hE
        obtain ⟨d, hdd⟩ : ∃ d, d = ds[i] := ⟨_, rfl⟩
        have g2 : wo.cell? ⟨b2, o2 + i, none⟩ = some (.int .i64 d) := (hc2 i (by simpa using hid)).trans (by simp [hdd])
        have hdr := Hdr.out _ (List.getElem_mem hid)
        rw [← hdd] at hdr
        obtain ⟨d0, d1⟩ := hdr
        obtain ⟨o, hoo⟩ : ∃ o, o = X'[i] := ⟨_, rfl⟩
        have hor := hp.1 _ (List.getElem_mem hiX)
        rw [← hoo] at hor
        obtain ⟨q0, q1⟩ := hor
        have g3 : wo.cell? ⟨g, P.length + i, none⟩ = some (.int .i64 o) := by
          rw [ho.cellAt (P.length + i) (by omega), map_append_get _ _ _ hiX, hoo]
        obtain ⟨p0, p1⟩ := prod_bd G0 G1 d0 d1
        have hnx := hp.step hiX hoo hid hdd p0 p1 q0 q1
        obtain ⟨S, hS⟩ : ∃ S, S = cy + (o - G * d) := ⟨_, rfl⟩
        rw [← hS] at hnx
        have hfr := ho.frozenAt (P.length + i)
        have hst := ho.stored (P.length + i) (.int .i64 (S % 1000000000))
        rw [map_append_set] at hst
        have hSb : -1000000000000000000 ≤ S ∧ S ≤ 999999999 := by omega
        obtain ⟨S0, S1⟩ := hSb
        have hSd : -1000000000 ≤ S / 1000000000 ∧ S / 1000000000 ≤ 0 := by omega
        have HS := Lib.hid hSd
        have hfl := floor_tdiv S
        have hfin : Hid (LessMem g N c P X ds (m + 1) base G w (wo.setCell ⟨g, P.length + i, none⟩ (.int .i64 (S % 1000000000))) (i + 1) (S / 1000000000) (X'.set i (S % 1000000000))) :=
          ⟨hnx, by simpa using hl, hzf.set (by omega) _, hst.1, grownBy_trans hg hst.2⟩
        have hi1 : (i : Int) < (m : Int) + 1 := by omega
        clear hc2 hdd hoo hst hnx hp hl hzf ho hg hSd hlN hnX hm hid hiX
        go_wp2_with fail
        go_quiet (fail)
        rw [← hS]
        clear hS p0 p1 q0 q1 d0 d1
        go_wp2_with fail
        refine (impl_floorMod S _).mono ?_
        rintro e w' ⟨rfl, rfl⟩
        go_wp2_with fail
        go_roundw
        case rel =>
          obtain ⟨f1, f2, f3, f4, f5⟩ := hfin.out
          first
            | exact ⟨i + 1, _, _, by omega, by go_num, rfl, HS.out.1, HS.out.2, ⟨f1, f2, f3, f4, ⟨f5.os, f5.tape, f5.output, f5.size, f5.block⟩⟩⟩
            | ((repeat apply Exists.intro); exact ⟨⟨i + 1, _, _, by omega, by go_num, rfl, HS.out.1, HS.out.2, ⟨f1, f2, f3, f4, ⟨f5.os, f5.tape, f5.output, f5.size, f5.block⟩⟩⟩, rfl⟩)
        case measure => simp [intOf]; omega
      · obtain rfl : i = m + 1 := by omega
        have hnl : m + 1 < X'.length := by rw [hl]; exact hnX
        obtain ⟨o, hoo⟩ : ∃ o, o = X'[m + 1] := ⟨_, rfl⟩
        have hor := hp.1 _ (List.getElem_mem hnl)
        rw [← hoo] at hor
        obtain ⟨q0, q1⟩ := hor
        have g3 : wo.cell? ⟨g, P.length + (m + 1), none⟩ = some (.int .i64 o) := by
          rw [ho.cellAt _ (by omega), map_append_get _ _ _ hnl, hoo]
        have hfr := ho.frozenAt (P.length + (m + 1))
        have hst := ho.stored (P.length + (m + 1)) (.int .i64 (o + cy))
        rw [map_append_set] at hst
        have hlt9 : InR ((X'.set (m + 1) (o + cy)).take (m + 1)) := by rw [List.take_set_of_le (Nat.le_refl _)]; exact hp.1.take _
        have htop9 := top_at hlt9 (hzf.set (by omega) (o + cy)) (by simpa using hnl)
        rw [getD_set_self _ _ _ hnl, val_set _ _ _ hnl, ← hoo, show o + cy - o = cy by omega, hp.2.1, List.take_of_length_le (by rw [Hd.out]; exact Nat.le_refl _)] at htop9
        have hT : Hid (TopMem g N c P X ds (m + 1) base w (wo.setCell ⟨g, P.length + (m + 1), none⟩ (.int .i64 (o + cy))) G (o + cy) (X'.set (m + 1) (o + cy))) :=
          ⟨htop9, HG.out, by simpa using hl, hst.1, grownBy_trans hg hst.2⟩
        clear hoo hst hlt9 htop9 hp hl hzf ho hg hlN hnX hm
        go_wp2_with fail
        go_loopw [6] (fun x wr => ∃ (q t : Int) (X' : List Int), x = .int .i64 q ∧ 0 ≤ q ∧ q ≤ 999999999 ∧ -1000000000 ≤ t ∧ t ≤ 999999999 ∧ Hid (TopMem g N c P X ds (m + 1) base w wr q t X')) (fun x _ => (intOf x).toNat)
        case atStart => exact ⟨G, o + cy, _, rfl, G0, G1, by omega, by omega, hT⟩
        case round =>
          obtain ⟨q, tt, X1, rfl, e0, e1, t0, t1, hm⟩ := hrel
          obtain ⟨wi, rfl⟩ : ∃ wi : World, wi = wr := ⟨_, rfl⟩
          obtain ⟨htp, hup, hl, ho, hg⟩ := hm.out
          have hlN := HN.out
          have hnX := HnX.out
          have hnl : m + 1 < X1.length := by rw [hl]; exact hnX
          have hge := htp.2.2.2.2.2
          rw [List.getD_eq_getElem?_getD, List.getElem?_eq_getElem hnl] at hge
          have g5 : wi.cell? ⟨g, P.length + (m + 1), none⟩ = some (.int .i64 tt) := by
            rw [ho.cellAt _ (by omega), map_append_get _ _ _ hnl, show X1[m + 1] = tt from hge]
          by_cases hneg : tt < 0
          · have hW := htp.neg hneg
            have hq1 : 1 ≤ q := by
              by_cases e : q = 0
              · subst e
                have := val_nonneg HX.out
                omega
              · omega
            have hup2 : Hid (val X < (q - 1 + 1) * val ds) := by unfold Hid; rw [Int.sub_add_cancel]; omega
            have hRd := Lib.hid (Hr.out.grown hg Hne.out)
            have hlX := Lib.hid hl
            have HT := Lib.hid htp
            have hO := Lib.hid ho
            have hG9 := Lib.hid hg
            have hnL := Lib.hid hnl
            clear hm htp hup hl ho hg hW hlN hnX
            go_wp2_with fail
            have hnl2 := hnL.out
            have htt : X1[m + 1] = tt := hge
            have Htt := Lib.hid htt
            clear hge htt
            go_region_with (go_at_call 266; refine (impl_addTo g N c base P.length (m + 1) cw P X1 ds _ c2 wi.drew hO.out rfl (by rw [hlX.out]; exact HN.out) (by omega) hN60 HT.out.1 Hd.out Hdr.out hRd.out Hne.out).mono ?_; rintro e w1 ⟨cz, X2, rfl, z0, z1, zl, zd, zr, zv, zo, zg⟩; have hx2 : m + 1 < X2.length := (by omega); have hx3 : X2[m + 1] = tt := (drop_get zd hx2 hnl2).trans Htt.out; have g6 : w1.cell? ⟨g, P.length + (m + 1), none⟩ = some (.int .i64 tt) := (by rw [zo.cellAt _ (by have := HN.out; have := hlX.out; omega), map_append_get _ _ _ hx2, hx3]); have hfr6 := zo.frozenAt (P.length + (m + 1)); have hfin := Lib.hid (TopMem.next HT.out zl zr zv zd hlX.out hup2.out zo zg (grownBy_trans hG9.out (grownBy_drewN wi 1 _))); have hz0 : -1000000000 ≤ tt + cz ∧ tt + cz ≤ 999999999 := (by omega); clear zl zd zr zv zo zg hx3)
            all_goals
              go_wp2_with fail
              go_roundw
              case rel =>
                obtain ⟨f1, f2, f3, f4, f5⟩ := hfin.out
                rw [IntWalk.i64_in (tt + cz) (by omega)]
                first
                  | exact ⟨q - 1, tt + cz, _, rfl, by omega, by omega, hz0.1, hz0.2, ⟨f1, f2, f3, f4, ⟨f5.os, f5.tape, f5.output, f5.size, f5.block⟩⟩⟩
                  | ((repeat apply Exists.intro); exact ⟨⟨q - 1, tt + cz, _, rfl, by omega, by omega, hz0.1, hz0.2, ⟨f1, f2, f3, f4, ⟨f5.os, f5.tape, f5.output, f5.size, f5.block⟩⟩⟩, rfl⟩)
              case measure => simp [intOf]; omega
          · have hW := htp.nonneg (by omega)
            have hdl := val_lt Hdr.out
            rw [Hd.out] at hdl
            have hlt9 : val X - q * val ds < val ds := by have h := hup; rw [Int.add_mul, Int.one_mul] at h; omega
            obtain ⟨_, hir⟩ := htp.zero (by omega) (by omega)
            have hfin : Hid (LimbEnd g N c P X ds base w wi (.returned (.int .i64 q))) := ⟨q, X1, rfl, e0, e1, hl, hir, htp.2.2.1, by rw [htp.2.2.1]; exact hlt9, ho, hg⟩
            clear hm hge htp hup hl ho hg hW hlN hnX hdl hlt9 hir
            go_wp2_with fail
            go_ret
            exact hfin.out
end Go.Proofs.YtegclofijaoajaaGreat
namespace Go.Proofs.YtegclofijaoajaaGreat
set_option maxRecDepth 100000
open Go.RowKit

theorem top_pos {l : List Int} {m : Nat} (h : InR l) (hl : m < l.length) (hl2 : l.length ≤ m + 1) (hv : pw m ≤ val l) : 1 ≤ l[m] := by
  have h0 := h _ (List.getElem_mem hl)
  have h1 := val_split l m (by omega)
  have h2 := take_bd h m (by omega)
  have h3 := val_drop_at hl
  rw [List.drop_eq_nil_of_le hl2] at h3
  by_cases e : l[m] = 0
  · rw [h3, e] at h1; simp [val] at h1; omega
  · omega
/-- What a division ends in: quotient and remainder, in memory of their own. -/
def DivEnd (a b : Int) (B : Nat) (w w' : World) (e : Ending) : Prop := ∃ q v r u, e = .returned (.tuple #[v, u]) ∧ DivIs a b q r ∧ q.length ≤ B ∧ r.length ≤ B ∧ w'.ownsRow w.heap.size 3 1 v q.length (q.map (.int .i64)) ∧ w'.ownsRow w.heap.size 3 1 u r.length (r.map (.int .i64)) ∧ Apart u v ∧ Below w.heap.size w w'
theorem scale_bd {t : Int} (t1 : 1 ≤ t) (t2 : t ≤ 999999999) : 1 ≤ 1000000000 / (t + 1) ∧ 1000000000 / (t + 1) ≤ 500000000 ∧ (t + 1) * (1000000000 / (t + 1)) ≤ 1000000000 := by
  have h1 : 1000000000 / (t + 1) * (t + 1) ≤ 1000000000 := Int.ediv_mul_le _ (by omega)
  have h2 : 1 ≤ 1000000000 / (t + 1) := (Int.le_ediv_iff_mul_le (by omega)).2 (by omega)
  refine ⟨h2, ?_, by rw [Int.mul_comm]; exact h1⟩
  have h3 : 1000000000 / (t + 1) * 2 ≤ 1000000000 / (t + 1) * (t + 1) := Int.mul_le_mul_of_nonneg_left (by omega) (by omega)
  omega
/-- The scaled divisor has no more limbs. -/
theorem scaled_lt {ys : List Int} {m : Nat} {t s : Int} (h : InR ys) (hl : m < ys.length) (hl2 : ys.length = m + 1) (ht : t = ys[m]) (s1 : 1 ≤ s) (hs : (t + 1) * s ≤ 1000000000) : val ys * s < pw (m + 1) := by
  have h1 := val_split ys m (by omega)
  have h2 := take_bd h m (by omega)
  have h3 := val_drop_at hl
  rw [List.drop_eq_nil_of_le (show ys.length ≤ m + 1 by omega), ← ht] at h3
  simp only [val] at h3
  have h4 : val ys + 1 ≤ (t + 1) * pw m := by rw [Int.add_mul, Int.one_mul, Int.mul_comm t]; rw [h3] at h1; simp only [Int.mul_zero, Int.add_zero] at h1; omega
  have h5 : (val ys + 1) * s ≤ (t + 1) * pw m * s := Int.mul_le_mul_of_nonneg_right h4 (by omega)
  have h6 : (t + 1) * s * pw m ≤ 1000000000 * pw m := Int.mul_le_mul_of_nonneg_right hs (by have := pw_pos m; omega)
  have h7 : (t + 1) * pw m * s = (t + 1) * s * pw m := by grind
  rw [Int.add_mul, Int.one_mul] at h5
  rw [pw]; omega
/-- The start of a long division. -/
theorem LongAt.start {A s B : Int} {n1 m M : Nat} {R : List Int} (hR : R.length = n1 + 1) (hr : InR R) (hv : val R = A * s) (hM : M + m = n1) (hA : A < pw n1) (hB : pw m ≤ B) (s1 : 1 ≤ s) : LongAt (A * s) (B * s) (n1 + 1) M M (List.replicate M 0) R := by
  refine ⟨by simp, zeros_inR _, hR, hr, ?_, by rw [List.drop_eq_nil_of_le (by simp)]; simp [val, hv]⟩
  have h1 := val_split R M (by omega)
  have h2 := val_nonneg (hr.take M)
  have h3 : A * s < pw n1 * s := Int.mul_lt_mul_of_pos_right hA (by omega)
  have h4 : pw m * s ≤ B * s := Int.mul_le_mul_of_nonneg_right hB (by omega)
  have h5 : pw n1 * s = pw M * (pw m * s) := by rw [← hM, pw_add, Int.mul_assoc]
  have h6 : pw M * val (R.drop M) < pw M * (pw m * s) := by omega
  have h7 := Int.lt_of_mul_lt_mul_left h6 (by have := pw_pos M; omega)
  omega

theorem own_grown_none {w w' : World} {base : Nat} {E : TypeId} {size n : Nat} {v : Value} {xs : List Value} (h : w.ownsRow base E size v n xs) (hg : w.grownBy w' none) : w'.ownsRow base E size v n xs :=
  h.kept hg (by cases hv : v.ownBlock <;> simp)
theorem own_grown_ne {w w' : World} {base : Nat} {E : TypeId} {size n c g g' : Nat} {xs : List Value} (h : w.ownsRow base E size (.slice (some ⟨g, 0, none⟩) n c) n xs) (hg : w.grownBy w' (some g')) (hne : g ≠ g') : w'.ownsRow base E size (.slice (some ⟨g, 0, none⟩) n c) n xs :=
  h.kept hg (.inr (by simp [Value.ownBlock, hne]))
/-- A long division under way: what lies in memory. -/
def LongMem (base g1 g2 g3 n1 n2 M : Nat) (t D : Int) (ds : List Int) (wr : World) (k : Nat) (q r : List Int) : Prop :=
  LongAt t D (n1 + 1) M k q r ∧ wr.ownsRow base 3 1 (.slice (some ⟨g1, 0, none⟩) (n1 + 1) (n1 + 1)) (n1 + 1) (r.map (.int .i64)) ∧ wr.ownsRow base 3 1 (.slice (some ⟨g2, 0, none⟩) n2 (n2 + 1)) n2 (ds.map (.int .i64)) ∧ wr.ownsRow base 3 1 (.slice (some ⟨g3, 0, none⟩) M M) M (q.map (.int .i64))
set_option maxHeartbeats 1600000 in
theorem impl_divide (A1 : Option Addr) (n1 c1 : Nat) (xs : List Int) (A2 : Option Addr) (n2 c2 : Nat) (ys : List Int) (w : World) (h1 : xs.length = n1 ∧ n1 ≤ 500000 ∧ Reads w A1 (xs.map (.int .i64))) (h2 : ys.length = n2 ∧ n2 ≤ 500000 ∧ Reads w A2 (ys.map (.int .i64))) (k1 : Canon xs) (k2 : Canon ys) (hpos : 0 < val ys) :
    Calls Tryz.prog 211 #[.slice A1 n1 c1, .slice A2 n2 c2] w fun e w' => DivEnd (val xs) (val ys) n1 w w' e := by
  obtain ⟨i0, hi, hz0, hz1, hz2⟩ := info_parts Tryz.infoI
  obtain ⟨hn1, hb1, hr1⟩ := h1
  obtain ⟨hn2, hb2, hr2⟩ := h2
  have Hn1 := Lib.hid hn1
  have Hn2 := Lib.hid hn2
  have Hr1 := Lib.hid hr1
  have Hr2 := Lib.hid hr2
  have K1 := Lib.hid k1
  have K2 := Lib.hid k2
  have Hp := Lib.hid hpos
  have hm0 : n2 ≠ 0 := by
    intro e
    rw [List.eq_nil_of_length_eq_zero (hn2.trans e)] at hpos
    simp [val] at hpos
  by_cases hlt : (n1 : Int) < (n2 : Int)
  · clear hn1 hn2 hr1 hr2 k1 k2 hpos
    go_enter Tryz.func211, Tryz.ntmps211
    go_wp2_with fail
    refine (clone_any A1 n1 c1 xs _ Hn1.out (by omega) Hr1.out).mono ?_
    rintro e w1 ⟨v, rfl, ho, hb⟩
    have hfin : Hid (DivEnd (val xs) (val ys) n1 w w1 (.returned (.tuple #[.slice none 0 0, v]))) :=
      ⟨[], _, xs, v, rfl, ⟨canon_nil, K1.out, by simp [val], shorter_lt K1.out.1 K2.out (by rw [Hn1.out, Hn2.out]; omega)⟩, by simp, by rw [Hn1.out]; exact Nat.le_refl _, World.ownsRow_nil _ _ _ _, ho, fun k _ h => by simp [Value.ownBlock] at h, hb⟩
    clear ho hb
    go_wp2_with fail
    go_ret2
    exact hfin.out
  obtain ⟨m, rfl⟩ : ∃ m, n2 = m + 1 := ⟨n2 - 1, by omega⟩
  have hmy : m < ys.length := by omega
  obtain ⟨t, ht⟩ : ∃ t, t = ys[m] := ⟨_, rfl⟩
  have hlow := canon_lower k2 (by intro e; subst e; simp at hn2)
  rw [hn2, Nat.add_sub_cancel] at hlow
  have t1 := top_pos k2.1 hmy (by omega) hlow
  have t2 := (k2.1 _ (List.getElem_mem hmy)).2
  rw [← ht] at t1 t2
  obtain ⟨s1, s2, s3⟩ := scale_bd t1 t2
  obtain ⟨s, hs⟩ : ∃ s, s = 1000000000 / (t + 1) := ⟨_, rfl⟩
  rw [← hs] at s1 s2 s3
  have hsc := scaled_lt k2.1 hmy hn2 ht s1 s3
  have hx1 := val_lt k1.1
  rw [hn1] at hx1
  obtain ⟨b2, o2, rfl, hbs2, hc2⟩ := hr2.at_ (by simp; omega)
  have g4 : w.cell? ⟨b2, o2 + m, none⟩ = some (.int .i64 t) := (hc2 m (by simpa using hmy)).trans (by simp [ht])
  have hsub : ((m + 1 : Nat) : Int) - 1 = (m : Int) := by omega
  have hnm : m + 1 ≤ n1 := by omega
  have hmi0 : (0 : Int) ≤ (m : Int) := by omega
  have Hsc := Lib.hid hsc
  have Hx1 := Lib.hid hx1
  have Hlow := Lib.hid hlow
  have Hs := Lib.hid hs
  clear hn1 hn2 hr1 hr2 k1 k2 hpos hsc hx1 hlow hc2 ht hs hm0 hmy
  go_enter Tryz.func211, Tryz.ntmps211
  go_wp2_with fail
  rw [← Hs.out]
  refine (impl_timesLimb A1 n1 c1 xs s _ Hn1.out (by omega) Hr1.out K1.out.1 (by omega) (by omega)).mono ?_
  rintro e w1 ⟨R, g1, rfl, -, hRl, hRr, hRv, hRo, hRb⟩
  have HR := Lib.hid (And.intro hRl (And.intro hRr hRv))
  have B1 := Lib.hid hRb
  have OR1 := Lib.hid hRo
  have lt1 : g1 < w1.heap.size := (hRo.lt g1 rfl).2
  clear hRl hRr hRv hRb hRo
  go_wp2_with fail
  refine (impl_timesLimb (some ⟨b2, o2, none⟩) (m + 1) c2 ys s _ Hn2.out (by omega) (Hr2.out.below B1.out) K2.out.1 (by omega) (by omega)).mono ?_
  rintro e w2 ⟨D, g2, rfl, -, hDl, hDr, hDv, hDo, hDb⟩
  have sz1 := B1.out.size
  have sz2 := hDb.size
  have HD : Hid ((D.take (m + 1)).length = m + 1 ∧ InR (D.take (m + 1)) ∧ val (D.take (m + 1)) = val ys * s) :=
    ⟨by simp; omega, hDr.take _, by rw [val_trim (zeroFrom_of_lt hDr (by rw [hDv]; exact Hsc.out)), hDv]⟩
  have hDo2 := own_take hDo (m := m + 1) (by omega)
  rw [← List.map_take] at hDo2
  have OD2 := Lib.hid (own_lower hDo2 sz1)
  have OR2 := Lib.hid (own_below OR1.out hDb)
  have B2 := Lib.hid (B1.out.trans (hDb.mono sz1))
  have lt2 : g2 < w2.heap.size := (hDo.lt g2 rfl).2
  have lt12 : g1 < g2 := Nat.lt_of_lt_of_le lt1 (hDo.lt g2 rfl).1
  have hm1 : (m : Int) + 1 ≤ (m : Int) + 1 + 1 := by omega
  clear hDl hDr hDv hDo hDb hDo2
  obtain ⟨M, hM⟩ : ∃ M : Nat, M + m = n1 := ⟨n1 - m, by omega⟩
  have hMi : (n1 : Int) - ((m + 1 : Nat) : Int) + 1 = (M : Int) := by omega
  have hMi2 : (n1 : Int) - ((m : Int) + 1) + 1 = (M : Int) := by omega
  have hM0 : (0 : Int) ≤ (M : Int) := by omega
  have sz20 : w.heap.size ≤ w2.heap.size := by omega
  have HM := Lib.hid hM
  clear hM
  go_wp2_with (refine wpList_make_full _ rfl _ _ 30 rfl w.heap.size 3 i0 (.int .i64 0) 1 Tryz.underlying30 hi hz0 hz1 _ _ _ _ M rfl rfl rfl rfl (by rw [hz2]; omega) (by unfold maxLen; omega) sz20 ?_)
  have hrep : (madeCells #[Value.int .i64 0] M).toList = (List.replicate M (0 : Int)).map (.int .i64) := by simp [toList_madeCells_one]
  intro w3 ho hg
  obtain ⟨g3, hg3⟩ : ∃ g3, g3 = w2.heap.size := ⟨_, rfl⟩
  rw [← hg3] at ho ⊢
  have lt23 : g2 < g3 := by omega
  have lt3 : g3 < w3.heap.size := (ho.lt g3 rfl).2
  have M0 : Hid (LongMem w.heap.size g1 g2 g3 n1 (m + 1) M (val xs * s) (val ys * s) (D.take (m + 1)) w3 (M - 0) (List.replicate M 0) R) := by
    refine ⟨LongAt.start HR.out.1 HR.out.2.1 HR.out.2.2 HM.out Hx1.out Hlow.out s1, own_grown_none OR2.out hg, own_grown_none OD2.out hg, ?_⟩
    rw [← hrep]; simpa using ho
  have B3 := Lib.hid (B2.out.grown hg sz20 (fun k hk => by cases hk))
  clear ho hg hrep hg3 OR1 OR2 OD2 B1 B2
  go_wp2_with fail
  go_loopw [45] (fun y wr => ∃ (i : Nat) (q r : List Int), i ≤ M ∧ y = .int .i64 (i : Int) ∧ Hid (LongMem w.heap.size g1 g2 g3 n1 (m + 1) M (val xs * s) (val ys * s) (D.take (m + 1)) wr (M - i) q r) ∧ Hid (Below w.heap.size w wr) ∧ g3 < wr.heap.size) (fun y _ => M - (intOf y).toNat)
  case atStart => exact ⟨0, _, _, Nat.zero_le _, rfl, M0, B3, lt3⟩
  case round =>
    obtain ⟨i, q, r, hi9, rfl, hm, hb, ltr⟩ := hrel
    obtain ⟨wo, rfl⟩ : ∃ wo : World, wo = wr := ⟨_, rfl⟩
    have hi0 : (0 : Int) ≤ (i : Int) := by omega
    by_cases hlt : i < M
    · obtain ⟨j, hj⟩ : ∃ j, M - i = j + 1 := ⟨M - i - 1, by omega⟩
      have hjs : (M : Int) - 1 - (i : Int) = (j : Int) := by omega
      have hj0 : (0 : Int) ≤ (j : Int) := by omega
      have hjM : j < M := by omega
      have hm2 := hm.out
      rw [hj] at hm2
      obtain ⟨hla, hoR, hoD, hoQ⟩ := hm2
      have hwin := hla.window (by omega)
      have hXl : (r.drop j).length = n1 + 1 - j := by rw [List.length_drop, hla.2.2.1]
      have hPl : (r.take j).length = j := by rw [List.length_take, hla.2.2.1]; omega
      have hoR2 : wo.ownsRow w.heap.size 3 1 (.slice (some ⟨g1, 0, none⟩) (n1 + 1) (n1 + 1)) (n1 + 1) ((r.take j ++ r.drop j).map (.int .i64)) := by rw [List.take_append_drop]; exact hoR
      have htop : 1 ≤ (D.take (m + 1))[m]'(by rw [HD.out.1]; omega) := top_pos HD.out.2.1 _ (by rw [HD.out.1]; exact Nat.le_refl _) (by
        rw [HD.out.2.2]
        have h1 := Hlow.out
        have h2 : val ys * 1 ≤ val ys * s := Int.mul_le_mul_of_nonneg_left s1 (by have := Hp.out; omega)
        omega)
      have hMm := HM.out
      have con := Lib.hid (impl_quotientLimb g1 (n1 + 1) (n1 + 1) w.heap.size j m (n1 + 1 - j) (r.take j) (r.drop j) (D.take (m + 1)) (some ⟨g2, 0, none⟩) (m + 1 + 1) wo hoR2 hPl (by rw [hPl, hXl]; omega) (by rw [hXl]; omega) (by omega) (hla.2.2.2.1.drop j) HD.out.1 HD.out.2.1 (by omega) (by rw [HD.out.1]; omega) htop (by rw [HD.out.2.2]; exact hwin.1) (Reads.of_own hoD) (fun b o he => by cases he; omega))
      have Hla := Lib.hid hla
      have HXl := Lib.hid hXl
      have OD := Lib.hid hoD
      have OQ := Lib.hid hoQ
      have hg1b := (hoR.lt g1 rfl).1
      have HJ := Lib.hid hj
      have hji1 : (j : Int) ≤ (j : Int) + ((m : Int) + 1) + 1 := by omega
      have hji2 : (j : Int) + ((m : Int) + 1) + 1 ≤ (n1 : Int) + 1 := by omega
      have hji3 : (j : Int) < (M : Int) := by omega
      clear hla hoR hoD hoQ hwin hXl hPl hoR2 htop hj hm
      go_wp2_with fail
      rw [show j + (m + 1) + 1 - j = m + 1 + 1 by omega]
      refine con.out.mono ?_
      rintro e w4 ⟨qd, X', rfl, q0, q1, xl, xr, xv, xlt, xo, xg⟩
      have hnx := Hla.out.step (by omega) hjM xl xr (by rw [xv, HD.out.2.2]) (by rw [HD.out.2.2] at xlt; exact xlt) q0 q1
      have OD4 := own_grown_ne OD.out xg (by omega)
      have OQ4 := own_grown_ne OQ.out xg (by omega)
      have sz4 := xg.size
      have hb4 : Below w.heap.size w w4 := hb.out.grown xg hb.out.size (fun k hk => by cases hk; exact hg1b)
      have hqj : j < q.length := by rw [Hla.out.1]; exact hjM
      obtain ⟨o, hoo⟩ : ∃ o, o = q[j] := ⟨_, rfl⟩
      have g5 : w4.cell? ⟨g3, j, none⟩ = some (.int .i64 o) := by rw [OQ4.cellAt j (by omega)]; simp [hqj, hoo]
      have hfr := OQ4.frozenAt j
      have hst := OQ4.stored j (.int .i64 qd)
      rw [map_set_int] at hst
      have hfin : Hid (LongMem w.heap.size g1 g2 g3 n1 (m + 1) M (val xs * s) (val ys * s) (D.take (m + 1)) (w4.setCell ⟨g3, j, none⟩ (.int .i64 qd)) (M - (i + 1)) (q.set j qd) (r.take j ++ X')) := by
        unfold Hid; rw [show M - (i + 1) = j by have := HJ.out; omega]
        exact ⟨hnx, own_grown_ne xo hst.2 (by omega), own_grown_ne OD4 hst.2 (by omega), hst.1⟩
      have hb5 := Lib.hid (below_marked hb4 OQ4 hst.2 (Nat.le_refl _) hb4.size)
      have hlt5 : Hid (g3 < (w4.setCell ⟨g3, j, none⟩ (.int .i64 qd)).heap.size) := by unfold Hid; have := hst.2.size; omega
      clear xl xr xv xlt xo xg hnx OD4 OQ4 hb4 hoo hst con
      go_wp2_with fail
      go_roundw
      case rel => exact ⟨i + 1, _, _, by omega, by go_num, hfin, hb5, hlt5.out⟩
      case measure => simp [intOf]; omega
    · obtain rfl : i = M := by omega
      have hm2 := hm.out
      rw [Nat.sub_self] at hm2
      obtain ⟨hla, hoR, hoD, hoQ⟩ := hm2
      obtain ⟨hz, hv, hlt2⟩ := hla.done (nb := m + 1) (Int.le_of_lt Hsc.out)
      have HlaA := Lib.hid hla.1
      have HlaB := Lib.hid hla.2.1
      have HRr := Lib.hid (hla.2.2.2.1.take (m + 1))
      have hRl : (r.take (m + 1)).length = m + 1 := by rw [List.length_take, hla.2.2.1]; omega
      have HRl := Lib.hid hRl
      have HRv : Hid (val (r.take (m + 1)) = s * (val xs - val q * val ys) ∧ val r < val ys * s ∧ val (r.take (m + 1)) = val r) := ⟨by rw [val_trim hz, hv], hlt2, val_trim hz⟩
      have hoR2 := own_take hoR (m := m + 1) (by omega)
      rw [← List.map_take] at hoR2
      have OR := Lib.hid hoR2
      have OQ := Lib.hid hoQ
      have hmi5 : (m : Int) + 1 ≤ (n1 : Int) + 1 := by omega
      have hM5 : i ≤ 500000 := by omega
      clear hla hoR hoD hoQ hz hv hlt2 hRl hoR2 hm
      go_wp2_with fail
      go_region_with (first | (go_at_call 249; refine (impl_trim w.heap.size (some ⟨g3, 0, none⟩) i i q wo.drew HlaA.out (by omega) OQ.out).mono ?_; rintro e w' ⟨⟨mq, rfl, ht⟩, rfl⟩) | (go_at_call 250; refine (impl_overLimb (some ⟨g1, 0, none⟩) (m + 1) (n1 + 1) (r.take (m + 1)) s wo.drew HRl.out (by omega) (Reads.of_own OR.out) HRr.out s1 (by omega)).mono ?_; rintro e w5 ⟨u, A5, c5, rest, rfl, uc, uv, u0, u1, ul, uo, ub⟩))
      all_goals
        have hfin : Hid (DivEnd (val xs) (val ys) n1 w w5 (.returned (.tuple #[.slice (some ⟨g3, 0, none⟩) mq i, .slice A5 u.length c5]))) := by
          obtain ⟨hcn, hvq⟩ := ht.canon HlaB.out
          have hmq : mq ≤ i := by have := ht.1; rw [HlaA.out] at this; exact this
          have hlq : (q.take mq).length = mq := by rw [List.length_take, HlaA.out]; omega
          have hMm := HM.out
          obtain ⟨e1, e2, e3⟩ := HRv.out
          obtain ⟨f1, f2⟩ := scaled_back e1 s1 uv u0 u1 (by rw [e3]; exact e2)
          have own1 := own_below (own_take OQ.out hmq) (show Below wo.heap.size wo w5 from ⟨ub.os, ub.tape, ub.output, ub.size, ub.block⟩)
          rw [← List.map_take] at own1
          exact ⟨q.take mq, _, u, _, rfl, ⟨hcn, uc, by rw [hvq, f1]; omega, f2⟩, by rw [hlq]; omega, by omega, by rw [hlq]; exact own1, own_lower uo hb.out.size, fun k hk h => by
            have h1 := (uo.lt k hk).1
            simp [Value.ownBlock] at h
            simp at h1
            omega, hb.out.drew.trans (ub.mono hb.out.size)⟩
        clear ht uc uv ul uo ub
        go_wp2_with fail
        go_ret2
        exact hfin.out
end Go.Proofs.YtegclofijaoajaaGreat
namespace Go.Proofs.YtegclofijaoajaaGreat
set_option maxRecDepth 100000
open Go.RowKit

theorem DivEnd.gives {xs ys : List Int} {B : Nat} {w w' : World} {e : Ending} (h : DivEnd (val xs) (val ys) B w w' e) (k1 : Ok xs) (k2 : Ok ys) (hp : 0 < val ys) (hB : B ≤ 4194304) :
    ∃ r0 v0 r1 v1, e = .returned (.tuple #[v0, v1]) ∧ NatDivIs xs ys r0 r1 ∧ ResI w w' v0 r0 ∧ ResI w w' v1 r1 ∧ Apart v1 v0 ∧ Below w.heap.size w w' := by
  obtain ⟨q, v, r, u, he, hd, hq, hr, h1, h2, ha, hb⟩ := h
  exact ⟨q, v, r, u, he, .inl ⟨k1, k2, hp, hd⟩, ⟨by omega, h1⟩, ⟨by omega, h2⟩, ha, hb⟩
theorem gcd_end (a : Int) (h : 0 ≤ a) : (Int.gcd a 0 : Int) = a := by rw [Int.gcd_zero_right]; omega
set_option maxHeartbeats 400000 in
theorem impl_gcdOfInts (m n : Int) (w : World) (m0 : 0 ≤ m) (m1 : m ≤ 9223372036854775807) (n0 : 0 ≤ n) (n1 : n ≤ 9223372036854775807) :
    Calls Tryz.prog 209 #[.int .i64 m, .int .i64 n] w fun e w' => e = .returned (.int .i64 (Int.gcd m n : Int)) ∧ Below w.heap.size w w' := by
  obtain ⟨G, hG⟩ : ∃ G, G = Int.gcd m n := ⟨_, rfl⟩
  have HG : Hid (Int.gcd m n = G) := hG.symm
  rw [← hG]
  clear hG
  go_enter Tryz.func209, Tryz.ntmps209
  go_wp2_with fail
  go_loopw [0, 1] (fun x y wr => ∃ (a b : Int), Hid (Below w.heap.size w wr) ∧ x = .int .i64 a ∧ y = .int .i64 b ∧ 0 ≤ a ∧ a ≤ 9223372036854775807 ∧ 0 ≤ b ∧ b ≤ 9223372036854775807 ∧ Hid (Int.gcd a b = G)) (fun _ y _ => (intOf y).toNat)
  case atStart => exact ⟨m, n, Below.refl _ _, rfl, rfl, m0, m1, n0, n1, HG⟩
  case round =>
    obtain ⟨a, b, hbel, rfl, rfl, a0, a1, b0, b1, hg⟩ := hrel
    by_cases hb : 0 < b
    · have hnx : Hid (Int.gcd b (a % b) = G) := by unfold Hid; rw [← gcd_mod]; exact hg.out
      have hm0 := Int.emod_nonneg a (show b ≠ 0 by omega)
      have hm1 := Int.emod_lt_of_pos a hb
      go_wp2_with fail
      go_quiet (fail)
      go_wp2_with fail
      go_roundw
      case rel => exact ⟨b, a % b, below_drewN hbel.out _, rfl, rfl, b0, b1, hm0, by omega, hnx⟩
      case measure => simp [intOf]; omega
    · obtain rfl : b = 0 := by omega
      have hfin : Hid (a = (G : Int)) := by unfold Hid; rw [← hg.out, gcd_end a a0]
      go_wp2_with fail
      go_ret
      exact ⟨ret_int hfin.out, hbel.out⟩

/-- Two numbers whose greatest common divisor is G, in memory. -/
def GcdMem (G : Nat) (A1 : Option Addr) (n1 : Nat) (xs : List Int) (A2 : Option Addr) (n2 : Nat) (ys : List Int) (wr : World) : Prop :=
  xs.length = n1 ∧ Canon xs ∧ Reads wr A1 (xs.map (.int .i64)) ∧ ys.length = n2 ∧ Canon ys ∧ Reads wr A2 (ys.map (.int .i64)) ∧ Int.gcd (val xs) (val ys) = G
theorem two_limbs {xs : List Int} (h : InR xs) (hl : xs.length ≤ 2) : 0 ≤ val xs ∧ val xs ≤ 999999999999999999 := by
  have h1 := val_lt h
  have h2 := pw_mono hl
  have h3 : pw 2 = 1000000000000000000 := by decide
  exact ⟨val_nonneg h, by omega⟩
theorem gcd_le_nat (a b : Int) (a0 : 0 ≤ a) (ha : a ≤ 999999999999999999) (b0 : 0 ≤ b) (hb : b ≤ 999999999999999999) : (Int.gcd a b : Int) ≤ 999999999999999999 := by
  by_cases e : b = 0
  · subst e; rw [gcd_end a a0]; exact ha
  · have h := Int.gcd_dvd_right a b
    have := Int.le_of_dvd (by omega) h
    omega
theorem natGcd_natOf {a b : Int} {r : List Int} (h : NatOfIs (Int.gcd a b : Int) r) : GcdIs a b r := ⟨h.1, by
  rw [h.2]; split
  · omega
  · rfl⟩
set_option maxHeartbeats 1600000 in
theorem impl_natGcd (A1 : Option Addr) (n1 c1 : Nat) (xs : List Int) (A2 : Option Addr) (n2 c2 : Nat) (ys : List Int) (w : World) (h1 : InI w A1 n1 xs) (h2 : InI w A2 n2 ys) :
    Calls Tryz.prog 149 #[.slice A1 n1 c1, .slice A2 n2 c2] w fun e w' => ∃ rs v, e = .returned v ∧ NatGcdIs xs ys rs ∧ ResI w w' v rs ∧ Below w.heap.size w w' := by
  have H1 := Lib.hid h1
  have H2 := Lib.hid h2
  clear h1 h2
  go_enter Tryz.func149, Tryz.ntmps149
  go_wp2_with fail
  refine (impl_natOk' A1 n1 c1 xs _ H1.out).mono ?_
  rintro e w' ⟨⟨b1, rfl, ho1⟩, rfl⟩
  cases b1
  · have hfin : Hid (NatGcdIs xs ys []) := .inr ⟨(fun h => by have := ho1.2 h.1; cases this), rfl⟩
    clear ho1
    go_wp2_with fail
    go_ret
    exact ⟨[], _, rfl, hfin.out, ⟨by simp, World.ownsRow_nil _ _ _ _⟩, Below.refl _ _⟩
  have k1 := Lib.hid (ho1.1 rfl)
  clear ho1
  go_wp2_with fail
  refine (impl_natOk' A2 n2 c2 ys _ H2.out).mono ?_
  rintro e w' ⟨⟨b2, rfl, ho2⟩, rfl⟩
  cases b2
  · have hfin : Hid (NatGcdIs xs ys []) := .inr ⟨(fun h => by have := ho2.2 h.2; cases this), rfl⟩
    clear ho2
    go_wp2_with fail
    go_ret
    exact ⟨[], _, rfl, hfin.out, ⟨by simp, World.ownsRow_nil _ _ _ _⟩, Below.refl _ _⟩
  have k2 := Lib.hid (ho2.1 rfl)
  clear ho2
  have hn1 : n1 ≤ 60 := by have := k1.out.2; rwa [H1.out.1] at this
  have hn2 : n2 ≤ 60 := by have := k2.out.2; rwa [H2.out.1] at this
  have M0 : Hid (GcdMem (Int.gcd (val xs) (val ys)) A1 n1 xs A2 n2 ys w) := ⟨H1.out.1, k1.out.1, H1.out.2.2.1, H2.out.1, k2.out.1, H2.out.2.2.1, rfl⟩
  have hend : ∀ rs, GcdIs (val xs) (val ys) rs → NatGcdIs xs ys rs := fun rs h => .inl ⟨k1.out, k2.out, h⟩
  have Hend := Lib.hid hend
  obtain ⟨G, hG⟩ : ∃ G, G = Int.gcd (val xs) (val ys) := ⟨_, rfl⟩
  rw [← hG] at M0
  have HG := Lib.hid hG
  clear hend hG
  go_wp2_with fail
  go_loopg [0, 1] (val ys).toNat (fun k x y wr => ∃ (B1 : Option Addr) (m1 d1 : Nat) (us : List Int) (B2 : Option Addr) (m2 d2 : Nat) (bs : List Int), x = .slice B1 m1 d1 ∧ y = .slice B2 m2 d2 ∧ m1 ≤ 60 ∧ m2 ≤ 60 ∧ Hid (GcdMem G B1 m1 us B2 m2 bs wr) ∧ Hid ((val bs).toNat ≤ k) ∧ Hid (Below w.heap.size w wr))
  case atStart => exact ⟨A1, n1, c1, xs, A2, n2, c2, ys, rfl, rfl, hn1, hn2, M0, Nat.le_refl _, Below.refl _ _⟩
  case round =>
    obtain ⟨B1, m1, d1, us, B2, m2, d2, bs, rfl, rfl, hm1, hm2, hm, hk, hb⟩ := hrel
    obtain ⟨q1, q2, q3, q4, q5, q6, q7⟩ := hm.out
    have Q1 := Lib.hid q1
    have Q2 := Lib.hid q2
    have Q3 := Lib.hid q3
    have Q4 := Lib.hid q4
    have Q5 := Lib.hid q5
    have Q6 := Lib.hid q6
    have Q7 := Lib.hid q7
    clear q1 q2 q3 q4 q5 q6 q7 hm
    by_cases h0 : m2 = 0
    · have hfin : Hid (GcdIs (val xs) (val ys) us) := by
        have h3 := Q7.out
        rw [List.eq_nil_of_length_eq_zero (Q4.out.trans h0), HG.out] at h3
        exact ⟨Q2.out, by rw [← h3]; simp only [val]; rw [gcd_end _ (val_nonneg Q2.out.1)]⟩
      subst h0
      go_wp2_with fail
      refine (clone_any B1 m1 d1 us _ Q1.out (by omega) Q3.out).mono ?_
      rintro e w1 ⟨v, rfl, ho, hb1⟩
      have hfin2 : Hid (NatGcdIs xs ys us ∧ ResI w w1 v us ∧ Below w.heap.size w w1) :=
        ⟨Hend.out _ hfin.out, ⟨by rw [Q1.out]; omega, own_lower ho hb.out.size⟩, hb.out.trans (hb1.mono hb.out.size)⟩
      clear ho hb1
      go_wp2_with fail
      go_ret
      exact ⟨us, v, rfl, hfin2.out⟩
    have hpos : 0 < val bs := canon_pos Q5.out (by rw [Q4.out]; omega)
    have HP := Lib.hid hpos
    have hm20 : (0 : Int) < (m2 : Int) := by omega
    by_cases hs : m1 ≤ 2 ∧ m2 ≤ 2
    · obtain ⟨s1, s2⟩ := hs
      have t1 := two_limbs Q2.out.1 (by rw [Q1.out]; exact s1)
      have t2 := two_limbs Q5.out.1 (by rw [Q4.out]; exact s2)
      have hg9 := gcd_le_nat _ _ t1.1 t1.2 t2.1 t2.2
      have T1 := Lib.hid t1
      have T2 := Lib.hid t2
      have hi1 : (m1 : Int) ≤ 2 := by omega
      have hi2 : (m2 : Int) ≤ 2 := by omega
      have HG9 := Lib.hid hg9
      clear t1 t2 hg9 hpos s1 s2
      go_wp2_with fail
      refine (impl_valueOf B1 m1 d1 us _ Q1.out (by omega) Q3.out Q2.out.1 (by have := T1.out; omega)).mono ?_
      rintro e w' ⟨rfl, rfl⟩
      go_wp2_with fail
      refine (impl_valueOf B2 m2 d2 bs _ Q4.out (by omega) Q6.out Q5.out.1 (by have := T2.out; omega)).mono ?_
      rintro e w' ⟨rfl, rfl⟩
      go_wp2_with fail
      refine (impl_gcdOfInts (val us) (val bs) _ T1.out.1 (by have := T1.out; omega) T2.out.1 (by have := T2.out; omega)).mono ?_
      rintro e w1 ⟨rfl, hb1⟩
      have HB1 := Lib.hid (hb.out.trans (hb1.mono hb.out.size))
      clear hb1
      go_wp2_with fail
      refine (impl_natOf _ _ (by have := HG9.out; omega)).mono ?_
      rintro e w2 ⟨rs, v, rfl, hof, hres, hb2⟩
      rw [Q7.out, HG.out] at hof
      have hfin2 : Hid (NatGcdIs xs ys rs ∧ ResI w w2 v rs ∧ Below w.heap.size w w2) :=
        ⟨Hend.out _ (natGcd_natOf hof), ⟨hres.1, own_lower hres.2 HB1.out.size⟩, HB1.out.trans (hb2.mono HB1.out.size)⟩
      clear hof hres hb2
      go_wp2_with fail
      go_ret
      exact ⟨rs, v, rfl, hfin2.out⟩
    · have hpart : (2 < (m1 : Int)) ∨ ((m1 : Int) ≤ 2 ∧ 2 < (m2 : Int)) := by omega
      have con := Lib.hid (impl_divide B1 m1 d1 us B2 m2 d2 bs wr ⟨Q1.out, by omega, Q3.out⟩ ⟨Q4.out, by omega, Q6.out⟩ Q2.out Q5.out HP.out)
      clear hs hpos
      rcases hpart with hp | ⟨hp, hp2⟩
      all_goals
        go_wp2_with fail
        refine con.out.mono ?_
        rintro e w1 ⟨q, v, r, u, rfl, hd, hq, hr, ho1, ho2, hap, hb1⟩
        obtain ⟨A9, c9, rfl⟩ := own_slice ho2
        have hrl : r.length ≤ m2 := by
          have h1 := hd.2.1
          by_cases e : r.length ≤ m2
          · exact e
          · have := shorter_lt Q5.out.1 h1 (by rw [Q4.out]; omega); have := hd.2.2.2; omega
        have hnx : Hid (GcdMem G B2 m2 bs A9 r.length r w1) := ⟨Q4.out, Q5.out, Q6.out.below hb1, rfl, hd.2.1, Reads.of_own ho2, by rw [← gcd_step hd.2.2.1]; exact Q7.out⟩
        have hlt : Hid ((val r).toNat < gk) := by
          have h1 := hd.2.2.2
          have h2 := hk.out
          have h3 := HP.out
          have h4 := val_nonneg hd.2.1.1
          unfold Hid; omega
        have hb2 := Lib.hid (hb.out.trans (hb1.mono hb.out.size))
        have hr60 : r.length ≤ 60 := by omega
        clear hd hq hr ho1 ho2 hap hb1 con
        obtain ⟨rl, hrl9⟩ : ∃ rl, rl = r.length := ⟨_, rfl⟩
        rw [← hrl9] at hnx hr60 hrl ⊢
        clear hrl9
        go_wp2_with fail
        go_roundg (val r).toNat
        case measure => exact hlt.out
        case rel => exact ⟨B2, m2, d2, bs, A9, rl, c9, r, rfl, rfl, hm2, hr60, hnx, Nat.le_refl _, hb2⟩
end Go.Proofs.YtegclofijaoajaaGreat
namespace Go.Proofs.YtegclofijaoajaaGreat
set_option maxRecDepth 100000
open Go.RowKit

/-- The model's long division down to place k: q the limbs of the quotient, r what is left. -/
def LongS (xs ys : List Int) (k : Nat) (q r : List Int) : Prop :=
  q.length = xs.length ∧ InR q ∧ (∀ j (h : j < q.length), j < k → q[j] = 0) ∧ val (q.drop k) * val ys + val r = val (xs.drop k) ∧ Canon r ∧ val r < val ys
theorem LongS.bring {xs ys q r : List Int} {i : Nat} {x : Int} (h : LongS xs ys (i + 1) q r) (hi : i < xs.length) (hx : x = xs[i]) (hxr : InR xs) : 0 ≤ x + 1000000000 * val r ∧ x + 1000000000 * val r < 1000000000 * val ys := by
  have h1 := hxr _ (List.getElem_mem hi)
  rw [← hx] at h1
  have h2 := val_nonneg h.2.2.2.2.1.1
  have h3 := h.2.2.2.2.2
  omega
theorem LongS.skip {xs ys q r r' : List Int} {i : Nat} {x : Int} (h : LongS xs ys (i + 1) q r) (hi : i < xs.length) (hx : x = xs[i]) (hr : Canon r') (hv : val r' = x + 1000000000 * val r) (hlt : val r' < val ys) : LongS xs ys i q r' := by
  obtain ⟨h1, h2, h3, h4, h5, h6⟩ := h
  refine ⟨h1, h2, fun j hj hk => h3 j hj (by omega), ?_, hr, hlt⟩
  rw [val_drop_at (show i < q.length by omega), val_drop_at hi, h3 i (by omega) (by omega), ← hx, hv, ← h4]
  grind
theorem LongS.take {xs ys q r r' : List Int} {i : Nat} {x d : Int} (h : LongS xs ys (i + 1) q r) (hi : i < xs.length) (hx : x = xs[i]) (hr : Canon r') (hv : val r' = x + 1000000000 * val r - val ys * d) (hlt : x + 1000000000 * val r < (d + 1) * val ys) (d0 : 0 ≤ d) (d1 : d ≤ 999999999) : LongS xs ys i (q.set i d) r' := by
  obtain ⟨h1, h2, h3, h4, h5, h6⟩ := h
  refine ⟨by simpa using h1, h2.set i d0 d1, fun j hj hk => by rw [List.getElem_set_ne (by omega)]; exact h3 j (by simpa using hj) (by omega), ?_, hr, ?_⟩
  · rw [val_drop_at (by simp; omega), List.getElem_set_self, List.drop_set_of_lt (by omega), val_drop_at hi, ← hx, hv, ← h4]
    grind
  · rw [hv, Int.mul_comm (val ys) d]; rw [Int.add_mul, Int.one_mul] at hlt; omega
theorem cons_val (x : Int) (r : List Int) : val (x :: r) = x + 1000000000 * val r := rfl

theorem own_over {w w' : World} {g : Nat} {E : TypeId} {size n : Nat} {v : Value} {xs : List Value} (h : w.ownsRow (g + 1) E size v n xs) (hg : w.grownBy w' (some g)) : w'.ownsRow (g + 1) E size v n xs := by
  refine h.kept hg ?_
  cases hv : v.ownBlock with
  | none => exact .inl rfl
  | some k => exact .inr (fun e => by cases e; have := (h.lt g hv).1; omega)
set_option maxHeartbeats 3200000 in
theorem spec_div (A1 : Option Addr) (n1 c1 : Nat) (xs : List Int) (A2 : Option Addr) (n2 c2 : Nat) (ys : List Int) (w : World) (h1 : xs.length = n1 ∧ n1 ≤ 500000 ∧ Reads w A1 (xs.map (.int .i64))) (h2 : ys.length = n2 ∧ n2 ≤ 500000 ∧ Reads w A2 (ys.map (.int .i64))) (k1 : Canon xs) (k2 : Canon ys) (hpos : 0 < val ys) :
    Calls Tryz.prog 221 #[.slice A1 n1 c1, .slice A2 n2 c2] w fun e w' => DivEnd (val xs) (val ys) n1 w w' e := by
  obtain ⟨i0, hi, hz0, hz1, hz2⟩ := info_parts Tryz.infoI
  obtain ⟨hn1, hb1, hr1⟩ := h1
  obtain ⟨hn2, hb2, hr2⟩ := h2
  have Hn1 := Lib.hid hn1
  have Hn2 := Lib.hid hn2
  have Hr1 := Lib.hid hr1
  have Hr2 := Lib.hid hr2
  have K1 := Lib.hid k1
  have K2 := Lib.hid k2
  have Hp := Lib.hid hpos
  have hx1 := val_lt k1.1
  rw [hn1] at hx1
  have Hx1 := Lib.hid hx1
  by_cases hone : n2 = 1
  · subst hone
    have hy0 : 0 < ys.length := by omega
    obtain ⟨b2, o2, rfl, hbs2, hc2⟩ := hr2.at_ (by simp; omega)
    obtain ⟨d, hd⟩ : ∃ d, d = ys[0] := ⟨_, rfl⟩
    have g4 : w.cell? ⟨b2, o2, none⟩ = some (.int .i64 d) := by have := hc2 0 (by simpa using hy0); simpa [hd] using this
    have hyv : val ys = d := by
      have h := val_drop_at hy0
      rw [List.drop_zero, List.drop_eq_nil_of_le (show ys.length ≤ 0 + 1 by omega), ← hd] at h
      rw [h]; simp [val]
    have hd2 := (k2.1 _ (List.getElem_mem hy0)).2
    rw [← hd] at hd2
    have d1 : 1 ≤ d := by omega
    have Hyv := Lib.hid hyv
    clear hn1 hn2 hr1 hr2 k1 k2 hpos hx1 hc2 hd hyv hy0
    go_enter Tryz.func221, Tryz.ntmps221
    go_wp2_with fail
    refine (spec_small A1 n1 c1 xs d _ ⟨Hn1.out, by omega, Hr1.out⟩ K1.out.1 d1 hd2).mono ?_
    rintro e w1 ⟨q, A, c, rest, rfl, hqc, hqv, r0, r1, hql, hqo, hqb⟩
    have HQ := Lib.hid (And.intro hqc (And.intro hqv (And.intro hql hqo)))
    have HB := Lib.hid hqb
    obtain ⟨N, hN⟩ : ∃ N, N = q.length := ⟨_, rfl⟩
    rw [← hN] at HQ ⊢
    have HN := Lib.hid hN
    clear hqc hqv hql hqo hqb hN
    go_wp2_with fail
    refine (spec_natOf rest _ (by omega)).mono ?_
    rintro e w2 ⟨r, v, rfl, hof, ⟨_, hro⟩, hrb⟩
    have hfin : Hid (DivEnd (val xs) (val ys) n1 w w2 (.returned (.tuple #[.slice A N c, v]))) := by
      obtain ⟨e1, e2, e3, e4⟩ := HQ.out
      have hrv : val r = rest := by rw [hof.2]; split <;> omega
      refine ⟨q, _, r, v, rfl, ⟨e1, hof.1, by rw [Hyv.out, hrv]; omega, by rw [Hyv.out, hrv]; exact r1⟩, by rw [← HN.out]; exact e3, ?_, by rw [← HN.out]; exact own_below e4 hrb, own_lower hro HB.out.size, fun k hk h => ?_, HB.out.trans (hrb.mono HB.out.size)⟩
      · refine short_of hof.1 ?_
        have h9 : 0 ≤ val q * d := Int.mul_nonneg (val_nonneg e1.1) (by omega)
        have := Hx1.out
        omega
      · have h1 := (hro.lt k hk).1
        have h2 := (e4.lt k h).2
        omega
    clear hof hro hrb
    go_wp2_with fail
    go_ret2
    exact hfin.out
  have hnone : ((n2 : Int) == 1) = false := by simp; omega
  have M0 : Hid (LongS xs ys n1 (List.replicate n1 0) []) :=
    ⟨by simp [hn1], zeros_inR _, fun j hj _ => by simp, by rw [List.drop_eq_nil_of_le (by simp), List.drop_eq_nil_of_le (by omega)]; simp [val], canon_nil, by simpa [val] using hpos⟩
  have hylt := val_lt k2.1
  rw [hn2] at hylt
  have Hylt := Lib.hid hylt
  clear hn1 hn2 hr1 hr2 k1 k2 hpos hx1 hylt hone
  go_enter Tryz.func221, Tryz.ntmps221
  go_wp2_with (refine wpList_make_full _ rfl _ _ 30 rfl w.heap.size 3 i0 (.int .i64 0) 1 Tryz.underlying30 hi hz0 hz1 _ _ _ _ n1 rfl rfl rfl rfl (by rw [hz2]; omega) (by unfold maxLen; omega) (Nat.le_refl _) ?_)
  have hrep : (madeCells #[Value.int .i64 0] n1).toList = (List.replicate n1 (0 : Int)).map (.int .i64) := by simp [toList_madeCells_one]
  intro w1 ho hg
  obtain ⟨g, hgE⟩ : ∃ g, g = w.heap.size := ⟨_, rfl⟩
  rw [← hgE] at ho ⊢
  have hgl : g < w1.heap.size := (ho.lt g rfl).2
  have O1 : Hid ((w1.alloc (.cells #[] 3)).ownsRow g 3 1 (.slice (some ⟨g, 0, none⟩) n1 n1) n1 ((List.replicate n1 (0 : Int)).map (.int .i64))) := by
    unfold Hid; rw [← hrep]
    have := ho.alloc (.cells #[] 3)
    simpa using this
  have B1 : Hid (Below g w (w1.alloc (.cells #[] 3))) := by
    have := (Below.refl w.heap.size w).grown hg (Nat.le_refl _) (fun k hk => by cases hk)
    rw [← hgE] at this
    exact this.alloc (Nat.le_of_lt hgl) _
  have R1 : Hid ((w1.alloc (.cells #[] 3)).ownsRow (g + 1) 3 1 (.slice (some ⟨w1.heap.size, 0, none⟩) 0 0) 0 (([] : List Int).map (.int .i64))) := World.ownsRow_lit w1 #[] 0 (by omega) (by simp) (by simp)
  have hgl2 : g < (w1.alloc (.cells #[] 3)).heap.size := by simp; omega
  have HgE := Lib.hid hgE
  have hbw : ∀ {wx : World}, Below g w wx → Below w.heap.size w wx := fun h => by rw [← HgE.out]; exact h
  clear ho hg hrep hgE hgl
  go_wp2_with fail
  go_loopw [9, 10] (fun x y wr => ∃ (k nr c9 : Nat) (A9 : Option Addr) (q r : List Int), k ≤ n1 ∧ y = .int .i64 ((k : Int) - 1) ∧ x = .slice A9 nr c9 ∧ nr ≤ 500000 ∧ Hid (LongS xs ys k q r ∧ r.length = nr) ∧ Hid (wr.ownsRow g 3 1 (.slice (some ⟨g, 0, none⟩) n1 n1) n1 (q.map (.int .i64))) ∧ Hid (wr.ownsRow (g + 1) 3 1 (.slice A9 nr c9) nr (r.map (.int .i64))) ∧ Hid (Below g w wr) ∧ g < wr.heap.size) (fun _ y _ => (intOf y + 1).toNat)
  case atStart => exact ⟨n1, 0, 0, _, _, [], Nat.le_refl _, rfl, rfl, by omega, ⟨M0.out, rfl⟩, O1, R1, B1, hgl2⟩
  case round =>
    obtain ⟨k, nr, c9, A9, q, r, hk, rfl, rfl, hnr, hm, hoQ, hoR, hb, hgw⟩ := hrel
    obtain ⟨wo, rfl⟩ : ∃ wo : World, wo = wr := ⟨_, rfl⟩
    by_cases h0 : k = 0
    · subst h0
      obtain ⟨⟨e1, e2, e3, e4, e5, e6⟩, e7⟩ := hm.out
      rw [List.drop_zero, List.drop_zero] at e4
      have HE := Lib.hid (And.intro e1 (And.intro e2 (And.intro e4 (And.intro e5 (And.intro e6 e7)))))
      have hl9 : q.length = n1 := e1.trans Hn1.out
      clear e1 e2 e3 e4 e5 e6 e7 hm
      go_wp2_with fail
      refine (spec_trim g (some ⟨g, 0, none⟩) n1 n1 q _ hl9 (by omega) hoQ.out).mono ?_
      rintro e w' ⟨⟨m, rfl, ht⟩, rfl⟩
      have hfin : Hid (DivEnd (val xs) (val ys) n1 w wo (.returned (.tuple #[.slice (some ⟨g, 0, none⟩) m n1, .slice A9 nr c9]))) := by
        obtain ⟨e1, e2, e4, e5, e6, e7⟩ := HE.out
        obtain ⟨hcn, hvq⟩ := ht.canon e2
        have hmm : m ≤ n1 := by have := ht.1; rwa [hl9] at this
        have hlm : (q.take m).length = m := by rw [List.length_take]; omega
        have hown := own_take hoQ.out hmm
        rw [← List.map_take] at hown
        have hrn : r.length ≤ n1 := short_of e5 (by
          have h9 : 0 ≤ val q * val ys := Int.mul_nonneg (val_nonneg e2) (by have := Hp.out; omega)
          have := Hx1.out
          omega)
        refine ⟨q.take m, _, r, _, rfl, ⟨hcn, e5, by rw [hvq]; exact e4.symm, e6⟩, by rw [hlm]; exact hmm, hrn, by rw [hlm]; exact own_lower hown (by rw [HgE.out]; exact Nat.le_refl _), ?_, fun j hj h => ?_, hbw hb.out⟩
        · rw [e7]; exact own_lower hoR.out (by have := HgE.out; omega)
        · have h1 := (hoR.out.lt j hj).1
          simp [Value.ownBlock] at h
          omega
      clear ht
      go_wp2_with fail
      go_ret2
      exact hfin.out
    · obtain ⟨i, rfl⟩ : ∃ i, k = i + 1 := ⟨k - 1, by omega⟩
      have hix : i < xs.length := by rw [Hn1.out]; omega
      obtain ⟨b1, o1, rfl, hbs1, hc1⟩ := (Hr1.out.below (hbw hb.out)).at_ (by simp; omega)
      obtain ⟨x, hx⟩ : ∃ x, x = xs[i] := ⟨_, rfl⟩
      have g1 : wo.cell? ⟨b1, o1 + i, none⟩ = some (.int .i64 x) := (hc1 i (by simpa using hix)).trans (by simp [hx])
      have hsi : (((i + 1 : Nat) : Int) - 1) = (i : Int) := by omega
      rw [hsi]
      have hbr := hm.out.1.bring hix hx K1.out.1
      have HX := Lib.hid hx
      have HBR := Lib.hid hbr
      have hxr := K1.out.1 _ (List.getElem_mem hix)
      rw [← hx] at hxr
      have HXR := Lib.hid hxr
      have hi0 : (0 : Int) ≤ (i : Int) := by omega
      have hi1 : (i : Int) < (n1 : Int) := by omega
      have hrd : Hid (Reads (wo.alloc (.cells #[.int .i64 x] 3)) A9 (r.map (.int .i64))) := (Reads.of_own hoR.out).below ((Below.refl _ _).alloc (Nat.le_refl _) _)
      have hrl : Hid ((r.map (Value.int .i64)).length = nr) := by unfold Hid; rw [List.length_map, hm.out.2]
      have hlit : Hid ((wo.alloc (.cells #[.int .i64 x] 3)).ownsRow (g + 1) 3 1 (.slice (some ⟨wo.heap.size, 0, none⟩) 1 1) 1 [.int .i64 x]) := World.ownsRow_lit wo #[.int .i64 x] 1 hgw (by unfold maxLen; omega) (by simp)
      have h63 : 1 + nr ≤ maxLen := by unfold maxLen; omega
      have hby : (1 + nr) * 8 ≤ 140737488355328 := by omega
      have hbs : g + 1 ≤ (wo.alloc (.cells #[.int .i64 x] 3)).heap.size := by simp; omega
      clear hc1 hx hsi hbr hxr h0
      go_wp2_with (at_builtin; refine wpList_append_reads rfl _ _ 30 rfl (g + 1) 3 i0 (.int .i64 0) 8 Tryz.underlying30 hi hz0 hz1 hz2 rfl _ 1 [.int .i64 x] rfl hlit.out A9 nr c9 (r.map (.int .i64)) rfl hrl.out hrd.out (by simp [Value.oneCell']) h63 hby hbs ?_)
      intro v1 w2 hown hg
      have hbb : Below wo.heap.size wo w2 := ((Below.refl _ _).alloc (Nat.le_refl _) _).grown hg (by simp) (fun k hk => by simp [Value.ownBlock] at hk; omega)
      obtain ⟨A8, c8, rfl⟩ := own_slice hown
      have hown1 : w2.ownsRow (g + 1) 3 1 (.slice A8 (1 + nr) c8) (1 + nr) ((x :: r).map (.int .i64)) := by simpa using hown
      have HO1 := Lib.hid hown1
      have OQ2 := Lib.hid (own_below hoQ.out hbb)
      have B2 := Lib.hid (hb.out.trans (hbb.mono (Nat.le_of_lt hgw)))
      have hgw2 : g < w2.heap.size := Nat.lt_of_lt_of_le hgw hbb.size
      have hxl : Hid ((x :: r).length = 1 + nr) := by unfold Hid; rw [List.length_cons, hm.out.2]; omega
      have hxR : Hid (InR (x :: r)) := fun d hd => by
        rcases List.mem_cons.1 hd with rfl | hd
        · exact HXR.out
        · exact hm.out.1.2.2.2.2.1.1 d hd
      clear hown hown1 hg hbb g1 hrd hrl hlit h63 hby hbs
      go_wp2_with fail
      refine (spec_trim (g + 1) A8 (1 + nr) c8 (x :: r) _ hxl.out (by omega) HO1.out).mono ?_
      rintro e w' ⟨⟨mt, rfl, ht⟩, rfl⟩
      obtain ⟨hcn, hv2⟩ := ht.canon hxR.out
      rw [cons_val] at hv2
      have hmt : mt ≤ 1 + nr := by have := ht.1; rwa [hxl.out] at this
      have hlt2 : ((x :: r).take mt).length = mt := by rw [List.length_take, hxl.out]; omega
      have hown2 := own_take HO1.out hmt
      rw [← List.map_take] at hown2
      obtain ⟨r2, hr2⟩ : ∃ r2, r2 = (x :: r).take mt := ⟨_, rfl⟩
      rw [← hr2] at hcn hv2 hlt2 hown2
      have HR2 : Hid (Canon r2 ∧ val r2 = x + 1000000000 * val r ∧ r2.length = mt) := ⟨hcn, hv2, hlt2⟩
      have OR2 := Lib.hid hown2
      clear ht hcn hv2 hlt2 hown2 hr2 HO1 hxl hxR
      go_wp2_with fail
      refine (spec_cmp A8 mt c8 r2 A2 n2 c2 ys _ ⟨HR2.out.2.2, by omega, Reads.of_own OR2.out⟩ ⟨Hn2.out, by omega, Hr2.out.below (hbw B2.out)⟩ HR2.out.1 K2.out).mono ?_
      rintro e w3 ⟨rfl, hb3⟩
      have OQ3 := Lib.hid (own_below OQ2.out hb3)
      have OR3 := Lib.hid (own_below OR2.out hb3)
      have B3 := Lib.hid (B2.out.trans (hb3.mono (Nat.le_of_lt hgw2)))
      have hgw3 : g < w3.heap.size := Nat.lt_of_lt_of_le hgw2 hb3.size
      clear hb3 OQ2 OR2 B2
      have hmn2 : ∀ {l : List Int}, Canon l → val l < val ys → l.length ≤ n2 := fun h hlt => short_of h (by have := Hylt.out; omega)
      by_cases hlt : val r2 < val ys
      · have hnx : Hid (LongS xs ys i q r2 ∧ r2.length = mt) := ⟨hm.out.1.skip hix HX.out HR2.out.1 HR2.out.2.1 hlt, HR2.out.2.2⟩
        have hmt5 : mt ≤ 500000 := by have h := hmn2 HR2.out.1 hlt; rw [HR2.out.2.2] at h; omega
        rw [cmpV_lt hlt]
        clear hlt hm hoQ hoR hb
        go_wp2_with fail
        go_roundw
        case rel => exact ⟨i, mt, c8, A8, q, r2, by omega, rfl, rfl, hmt5, hnx, OQ3, OR3, B3, hgw3⟩
        case measure => simp [intOf]
      · have hcm : 0 ≤ cmpV (val r2) (val ys) := by
          by_cases e : val r2 = val ys
          · rw [cmpV_eq e]; omega
          · rw [cmpV_gt (by omega)]; omega
        obtain ⟨cm, hcm2⟩ : ∃ cm, cm = cmpV (val r2) (val ys) := ⟨_, rfl⟩
        rw [← hcm2] at hcm ⊢
        have Hge := Lib.hid (show val ys ≤ val r2 by omega)
        clear hlt hcm2 hoQ hoR hb
        go_wp2_with fail
        refine (spec_digit A8 mt c8 r2 A2 n2 c2 ys _ ⟨HR2.out.2.2, by omega, Reads.of_own OR3.out⟩ ⟨Hn2.out, by omega, Hr2.out.below (hbw B3.out)⟩ HR2.out.1 K2.out Hp.out Hge.out (by rw [HR2.out.2.1]; exact HBR.out.2)).mono ?_
        rintro e w4 ⟨⟨d, rfl, d2, d3, d0, d1⟩, hb4⟩
        have OQ4 := own_below OQ3.out hb4
        have OR4 := own_below OR3.out hb4
        have B4 := B3.out.trans (hb4.mono (Nat.le_of_lt hgw3))
        have hgw4 : g < w4.heap.size := Nat.lt_of_lt_of_le hgw3 hb4.size
        have HD := Lib.hid (And.intro d2 d3)
        have hqi : i < q.length := by rw [hm.out.1.1]; exact hix
        obtain ⟨o, hoo⟩ : ∃ o, o = q[i] := ⟨_, rfl⟩
        have g5 : w4.cell? ⟨g, i, none⟩ = some (.int .i64 o) := by rw [OQ4.cellAt i (by omega)]; simp [hqi, hoo]
        have hfr := OQ4.frozenAt i
        have hst := OQ4.stored i (.int .i64 d)
        rw [map_set_int] at hst
        obtain ⟨w5, hw5⟩ : ∃ w5, w5 = w4.setCell ⟨g, i, none⟩ (.int .i64 d) := ⟨_, rfl⟩
        rw [← hw5] at hst
        have OQ5 := Lib.hid hst.1
        have OR5 := Lib.hid (own_over OR4 hst.2)
        have B5 := Lib.hid (below_marked B4 OQ4 hst.2 (Nat.le_refl _) (Nat.le_of_lt hgw4))
        have hgw5 : g < w5.heap.size := by have := hst.2.size; omega
        have HW5 := Lib.hid hw5
        clear hb4 OQ3 OR3 B3 OQ4 OR4 B4 hoo hst d2 d3 hw5
        go_wp2_with fail
        rw [← HW5.out]
        refine (spec_natOf d _ (by omega)).mono ?_
        rintro e w6 ⟨qs, v, rfl, hof, ⟨_, ho⟩, hb6⟩
        obtain ⟨A3, c3, rfl⟩ := own_slice ho
        have hqv : val qs = d := by rw [hof.2]; split <;> omega
        have hql := short_of (k := 1) hof.1 (by rw [hqv]; simp only [pw]; omega)
        have HQ : Hid (InR qs ∧ val qs = d) := ⟨hof.1.1, hqv⟩
        obtain ⟨N, hN⟩ : ∃ N, N = qs.length := ⟨_, rfl⟩
        rw [← hN] at ho hql ⊢
        have HN := Lib.hid hN.symm
        have HO := Lib.hid (Reads.of_own ho)
        have OQ6 := Lib.hid (own_below OQ5.out hb6)
        have OR6 := Lib.hid (own_below OR5.out hb6)
        have B6 := Lib.hid (B5.out.trans (hb6.mono (Nat.le_of_lt hgw5)))
        have hgw6 : g < w6.heap.size := Nat.lt_of_lt_of_le hgw5 hb6.size
        clear hof ho hqv hN hb6 OQ5 OR5 B5 HW5 g5 hfr
        go_wp2_with fail
        refine (spec_mul A2 n2 c2 ys A3 N c3 qs _ ⟨Hn2.out, by omega, Hr2.out.below (hbw B6.out)⟩ ⟨HN.out, by omega, HO.out⟩ K2.out.1 HQ.out.1).mono ?_
        rintro e w7 ⟨pr, A4, c4, rfl, hpc, hpv, hpl, hpo, hb7⟩
        have HPC : Hid (Canon pr ∧ val pr = val ys * d) := ⟨hpc, by rw [hpv, HQ.out.2]⟩
        obtain ⟨N2, hN2⟩ : ∃ N2, N2 = pr.length := ⟨_, rfl⟩
        rw [← hN2] at hpo hpl ⊢
        have HN2 := Lib.hid hN2.symm
        have HO2 := Lib.hid (Reads.of_own hpo)
        have OQ7 := Lib.hid (own_below OQ6.out hb7)
        have OR7 := Lib.hid (own_below OR6.out hb7)
        have B7 := Lib.hid (B6.out.trans (hb7.mono (Nat.le_of_lt hgw6)))
        have hgw7 : g < w7.heap.size := Nat.lt_of_lt_of_le hgw6 hb7.size
        clear hpc hpv hpo hN2 hb7 OQ6 OR6 B6
        go_wp2_with fail
        refine (spec_sub A8 mt c8 r2 A4 N2 c4 pr _ ⟨HR2.out.2.2, by omega, Reads.of_own OR7.out⟩ ⟨HN2.out, by omega, HO2.out⟩ HR2.out.1 HPC.out.1 (by rw [HPC.out.2, Int.mul_comm]; exact HD.out.1)).mono ?_
        rintro e w8 ⟨r3, A5, c5, rfl, hrc, hrv, hrl, hro, hb8⟩
        have hlong := hm.out.1.take hix HX.out hrc (by rw [hrv, HPC.out.2, HR2.out.2.1]) (by rw [← HR2.out.2.1]; exact HD.out.2) d0 d1
        obtain ⟨N3, hN3⟩ : ∃ N3, N3 = r3.length := ⟨_, rfl⟩
        rw [← hN3] at hro hrl ⊢
        have hnx : Hid (LongS xs ys i (q.set i d) r3 ∧ r3.length = N3) := ⟨hlong, hN3.symm⟩
        have hN5 : N3 ≤ 500000 := by have h := hmn2 hrc hlong.2.2.2.2.2; rw [← hN3] at h; omega
        have OQ8 := Lib.hid (own_below OQ7.out hb8)
        have OR8 := Lib.hid (own_lower hro (show g + 1 ≤ w7.heap.size by omega))
        have B8 := Lib.hid (B7.out.trans (hb8.mono (Nat.le_of_lt hgw7)))
        have hgw8 : g < w8.heap.size := Nat.lt_of_lt_of_le hgw7 hb8.size
        clear hrc hrv hrl hro hb8 hlong hN3 OQ7 OR7 B7 hm
        go_wp2_with fail
        go_roundw
        case rel => exact ⟨i, N3, c5, A5, _, r3, by omega, rfl, rfl, hN5, hnx, OQ8, OR8, B8, hgw8⟩
        case measure => simp [intOf]
end Go.Proofs.YtegclofijaoajaaGreat
namespace Go.Proofs.YtegclofijaoajaaGreat
set_option maxRecDepth 100000
open Go.RowKit


set_option maxHeartbeats 400000 in
theorem spec_plain (m n : Int) (w : World) (m0 : 0 ≤ m) (m1 : m ≤ 999999999999999999) (n0 : 0 ≤ n) (n1 : n ≤ 999999999999999999) :
    Calls Tryz.prog 252 #[.int .i64 m, .int .i64 n] w fun e w' => BinEnd (GcdIs m n) w w' e := by
  have hG9 := gcd_le_nat m n m0 m1 n0 n1
  obtain ⟨G, hG⟩ : ∃ G, G = Int.gcd m n := ⟨_, rfl⟩
  have HG : Hid (Int.gcd m n = G) := hG.symm
  rw [← hG] at hG9
  clear hG
  go_enter Tryz.func252, Tryz.ntmps252
  go_wp2_with fail
  go_loop [0, 1] (fun x y => ∃ (a b : Int), x = .int .i64 a ∧ y = .int .i64 b ∧ 0 ≤ a ∧ a ≤ 999999999999999999 ∧ 0 ≤ b ∧ b ≤ 999999999999999999 ∧ Hid (Int.gcd a b = G)) (fun _ y => (intOf y).toNat)
  case atStart => exact ⟨m, n, rfl, rfl, m0, m1, n0, n1, HG⟩
  case round =>
    obtain ⟨a, b, rfl, rfl, a0, a1, b0, b1, hg⟩ := hrel
    by_cases hb : 0 < b
    · have hnx : Hid (Int.gcd b (a % b) = G) := by unfold Hid; rw [← gcd_mod]; exact hg.out
      have hm0 := Int.emod_nonneg a (show b ≠ 0 by omega)
      have hm1 := Int.emod_lt_of_pos a hb
      go_wp2_with fail
      go_round
      case rel => exact ⟨b, a % b, rfl, rfl, b0, b1, hm0, by omega, hnx⟩
      case measure => simp [intOf]; omega
    · obtain rfl : b = 0 := by omega
      have hfin : Hid (a = (G : Int)) := by unfold Hid; rw [← hg.out, gcd_end a a0]
      go_wp2_with fail
      refine (spec_natOf a _ (by omega)).mono ?_
      rintro e w1 ⟨rs, v, rfl, hof, hres, hb1⟩
      rw [hfin.out, ← HG.out] at hof
      have hend : Hid (BinEnd (GcdIs m n) w w1 (.returned v)) := ⟨rs, v, rfl, natGcd_natOf hof, hres, hb1⟩
      clear hof hres hb1
      go_wp2_with fail
      go_ret
      exact hend.out

/-- Two numbers whose greatest common divisor is G, in memory of the call's own. -/
def GcdOwn (G : Nat) (base : Nat) (A1 : Option Addr) (n1 c1 : Nat) (xs : List Int) (A2 : Option Addr) (n2 c2 : Nat) (ys : List Int) (wr : World) : Prop :=
  xs.length = n1 ∧ Canon xs ∧ wr.ownsRow base 3 1 (.slice A1 n1 c1) n1 (xs.map (.int .i64)) ∧ ys.length = n2 ∧ Canon ys ∧ wr.ownsRow base 3 1 (.slice A2 n2 c2) n2 (ys.map (.int .i64)) ∧ Int.gcd (val xs) (val ys) = G
theorem two_ok {xs : List Int} (h : Canon xs) (hl : xs.length ≤ 2) {v : Int} {b : Bool} (k : NatToIntIs xs v b) : v = val xs := by
  rcases k with ⟨_, _, _, h3⟩ | ⟨_, _, h3⟩
  · exact h3
  · exact absurd ⟨⟨h, by omega⟩, by have := two_limbs h.1 hl; omega⟩ h3
theorem two_bd {xs : List Int} (h : InR xs) : ∀ z ∈ xs, -9223372036854775808 ≤ z ∧ z ≤ 9223372036854775807 := fun z hz => by have := h z hz; omega
set_option maxHeartbeats 1600000 in
theorem spec_gcd (A1 : Option Addr) (n1 c1 : Nat) (xs : List Int) (A2 : Option Addr) (n2 c2 : Nat) (ys : List Int) (w : World) (h1 : xs.length = n1 ∧ n1 ≤ 60 ∧ Reads w A1 (xs.map (.int .i64))) (h2 : ys.length = n2 ∧ n2 ≤ 60 ∧ Reads w A2 (ys.map (.int .i64))) (k1 : Canon xs) (k2 : Canon ys) :
    Calls Tryz.prog 220 #[.slice A1 n1 c1, .slice A2 n2 c2] w fun e w' => BinEnd (GcdIs (val xs) (val ys)) w w' e := by
  obtain ⟨i0, hi, hz0, hz1, hz2⟩ := info_parts Tryz.infoI
  obtain ⟨hl1, hn1, hr1⟩ := h1
  obtain ⟨hl2, hn2, hr2⟩ := h2
  have HL1 : Hid ((xs.map (Value.int .i64)).length = n1) := by unfold Hid; rw [List.length_map, hl1]
  have HL2 : Hid ((ys.map (Value.int .i64)).length = n2) := by unfold Hid; rw [List.length_map, hl2]
  have HR1 : Hid (Reads (w.alloc (.cells #[] 3)) A1 (xs.map (.int .i64))) := hr1.below ((Below.refl _ _).alloc (Nat.le_refl _) _)
  have HR2 := Lib.hid hr2
  have K1 := Lib.hid k1
  have K2 := Lib.hid k2
  have L1 := Lib.hid hl1
  have L2 := Lib.hid hl2
  have h63 : 0 + n1 ≤ maxLen := by unfold maxLen; omega
  have hby : (0 + n1) * 8 ≤ 140737488355328 := by omega
  have h632 : 0 + n2 ≤ maxLen := by unfold maxLen; omega
  have hby2 : (0 + n2) * 8 ≤ 140737488355328 := by omega
  have hbs : w.heap.size ≤ (w.alloc (.cells #[] 3)).heap.size := by simp
  obtain ⟨G, hG⟩ : ∃ G, G = Int.gcd (val xs) (val ys) := ⟨_, rfl⟩
  have HG := Lib.hid hG
  clear hl1 hl2 hr1 hr2 k1 k2 hG
  go_enter Tryz.func220, Tryz.ntmps220
  go_wp2_with (at_builtin; refine wpList_append_reads rfl _ _ 30 rfl w.heap.size 3 i0 (.int .i64 0) 8 Tryz.underlying30 hi hz0 hz1 hz2 rfl _ _ _ rfl (World.ownsRow_lit w #[] 0 (Nat.le_refl _) (by simp) (by simp)) A1 n1 c1 (xs.map (.int .i64)) rfl HL1.out HR1.out (by simp [Value.oneCell']) h63 hby hbs ?_)
  intro v1 w1 hown hg
  obtain ⟨A5, c5, rfl⟩ := own_slice hown
  have B1 : Hid (Below w.heap.size w w1) := ((Below.refl w.heap.size w).alloc (Nat.le_refl _) _).grown hg (by simp) (fun k hk => by simp [Value.ownBlock] at hk; omega)
  have O1 : Hid (w1.ownsRow w.heap.size 3 1 (.slice A5 n1 c5) n1 (xs.map (.int .i64))) := by unfold Hid; simpa using hown
  have sz1 := B1.out.size
  have HR3 : Hid (Reads (w1.alloc (.cells #[] 3)) A2 (ys.map (.int .i64))) := HR2.out.below (B1.out.alloc sz1 _)
  have hbs2 : w.heap.size ≤ (w1.alloc (.cells #[] 3)).heap.size := by simp; omega
  clear hown hg HR1 hbs
  go_wp2_with (at_builtin; refine wpList_append_reads rfl _ _ 30 rfl w.heap.size 3 i0 (.int .i64 0) 8 Tryz.underlying30 hi hz0 hz1 hz2 rfl _ _ _ rfl (World.ownsRow_lit w1 #[] 0 sz1 (by simp) (by simp)) A2 n2 c2 (ys.map (.int .i64)) rfl HL2.out HR3.out (by simp [Value.oneCell']) h632 hby2 hbs2 ?_)
  intro v2 w2 hown hg
  obtain ⟨A6, c6, rfl⟩ := own_slice hown
  have hb12 : Below w1.heap.size w1 w2 := ((Below.refl w1.heap.size w1).alloc (Nat.le_refl _) _).grown hg (by simp) (fun k hk => by simp [Value.ownBlock] at hk; omega)
  have M0 : Hid (GcdOwn G w.heap.size A5 n1 c5 xs A6 n2 c6 ys w2) := ⟨L1.out, K1.out, own_below O1.out hb12, L2.out, K2.out, by simpa using hown, HG.out.symm⟩
  have BB := Lib.hid (B1.out.trans (hb12.mono sz1))
  clear hown hg hb12 HR3 hbs2 O1 B1 HR2
  go_wp2_with fail
  go_loopg [5, 6] (val ys).toNat (fun k x y wr => ∃ (B1 : Option Addr) (m1 d1 : Nat) (us : List Int) (B2 : Option Addr) (m2 d2 : Nat) (bs : List Int), x = .slice B1 m1 d1 ∧ y = .slice B2 m2 d2 ∧ m1 ≤ 60 ∧ m2 ≤ 60 ∧ Hid (GcdOwn G w.heap.size B1 m1 d1 us B2 m2 d2 bs wr) ∧ Hid ((val bs).toNat ≤ k) ∧ Hid (Below w.heap.size w wr))
  case atStart => exact ⟨A5, n1, c5, xs, A6, n2, c6, ys, rfl, rfl, hn1, hn2, M0, Nat.le_refl _, BB⟩
  case round =>
    obtain ⟨B1, m1, d1, us, B2, m2, d2, bs, rfl, rfl, hm1, hm2, hm, hk, hb⟩ := hrel
    obtain ⟨q1, q2, q3, q4, q5, q6, q7⟩ := hm.out
    have Q1 := Lib.hid q1
    have Q2 := Lib.hid q2
    have Q3 := Lib.hid q3
    have Q4 := Lib.hid q4
    have Q5 := Lib.hid q5
    have Q6 := Lib.hid q6
    have Q7 := Lib.hid q7
    clear q1 q2 q3 q4 q5 q6 q7 hm
    by_cases h0 : m2 = 0
    · have hfin : Hid (BinEnd (GcdIs (val xs) (val ys)) w wr (.returned (.slice B1 m1 d1))) := by
        have h3 := Q7.out
        rw [List.eq_nil_of_length_eq_zero (Q4.out.trans h0), HG.out] at h3
        exact ⟨us, _, rfl, ⟨Q2.out, by rw [← h3]; simp only [val]; rw [gcd_end _ (val_nonneg Q2.out.1)]⟩, ⟨by rw [Q1.out]; omega, by rw [Q1.out]; exact Q3.out⟩, hb.out⟩
      subst h0
      go_wp2_with fail
      go_ret
      exact hfin.out
    have hpos : 0 < val bs := canon_pos Q5.out (by rw [Q4.out]; omega)
    have HP := Lib.hid hpos
    have hm20 : (0 : Int) < (m2 : Int) := by omega
    by_cases hs : m1 < 3 ∧ m2 < 3
    · obtain ⟨s1, s2⟩ := hs
      have t1 := two_limbs Q2.out.1 (by rw [Q1.out]; omega)
      have t2 := two_limbs Q5.out.1 (by rw [Q4.out]; omega)
      have T1 := Lib.hid t1
      have T2 := Lib.hid t2
      have hi1 : (m1 : Int) < 3 := by omega
      have hi2 : (m2 : Int) < 3 := by omega
      clear t1 t2 hpos
      go_wp2_with fail
      refine (spec_natToInt B1 m1 d1 us _ ⟨Q1.out, by omega, Reads.of_own Q3.out, two_bd Q2.out.1⟩).mono ?_
      rintro e w3 ⟨v3, b3, rfl, hi3, hb3⟩
      obtain rfl := two_ok Q2.out (by rw [Q1.out]; omega) hi3
      have B3 := Lib.hid (hb.out.trans (hb3.mono hb.out.size))
      have Q63 := Lib.hid (own_below Q6.out hb3)
      clear hi3 hb3
      go_wp2_with fail
      refine (spec_natToInt B2 m2 d2 bs _ ⟨Q4.out, by omega, Reads.of_own Q63.out, two_bd Q5.out.1⟩).mono ?_
      rintro e w4 ⟨v4, b4, rfl, hi4, hb4⟩
      obtain rfl := two_ok Q5.out (by rw [Q4.out]; omega) hi4
      have B4 := Lib.hid (B3.out.trans (hb4.mono B3.out.size))
      clear hi4 hb4
      go_wp2_with fail
      refine (spec_plain (val us) (val bs) _ T1.out.1 T1.out.2 T2.out.1 T2.out.2).mono ?_
      rintro e w5 ⟨rs, v, rfl, hgc, hres, hb5⟩
      have hfin : Hid (BinEnd (GcdIs (val xs) (val ys)) w w5 (.returned v)) := by
        refine ⟨rs, v, rfl, ⟨hgc.1, ?_⟩, ⟨hres.1, own_lower hres.2 B4.out.size⟩, B4.out.trans (hb5.mono B4.out.size)⟩
        rw [hgc.2, Q7.out, HG.out]
      clear hgc hres hb5
      go_wp2_with fail
      go_ret
      exact hfin.out
    · have hpart : (¬ (m1 : Int) < 3) ∨ ((m1 : Int) < 3 ∧ ¬ (m2 : Int) < 3) := by omega
      have con := Lib.hid (spec_div B1 m1 d1 us B2 m2 d2 bs wr ⟨Q1.out, by omega, Reads.of_own Q3.out⟩ ⟨Q4.out, by omega, Reads.of_own Q6.out⟩ Q2.out Q5.out HP.out)
      clear hs hpos
      rcases hpart with hp | ⟨hp, hp2⟩
      all_goals
        go_wp2_with fail
        refine con.out.mono ?_
        rintro e w3 ⟨q, v, r, u, rfl, hd, hq, hr, ho1, ho2, hap, hb3⟩
        obtain ⟨A9, c9, rfl⟩ := own_slice ho2
        have hrl : r.length ≤ m2 := by
          have h1 := hd.2.1
          by_cases e : r.length ≤ m2
          · exact e
          · have := shorter_lt Q5.out.1 h1 (by rw [Q4.out]; omega); have := hd.2.2.2; omega
        have hnx : Hid (GcdOwn G w.heap.size B2 m2 d2 bs A9 r.length c9 r w3) := ⟨Q4.out, Q5.out, own_below Q6.out hb3, rfl, hd.2.1, own_lower ho2 hb.out.size, by rw [← gcd_step hd.2.2.1]; exact Q7.out⟩
        have hlt : Hid ((val r).toNat < gk) := by
          have h1 := hd.2.2.2
          have h2 := hk.out
          have h3 := HP.out
          have h4 := val_nonneg hd.2.1.1
          unfold Hid; omega
        have hb4 := Lib.hid (hb.out.trans (hb3.mono hb.out.size))
        have hr60 : r.length ≤ 60 := by omega
        clear hd hq hr ho1 ho2 hap hb3 con
        obtain ⟨rl, hrl9⟩ : ∃ rl, rl = r.length := ⟨_, rfl⟩
        rw [← hrl9] at hnx hr60 hrl ⊢
        clear hrl9
        go_wp2_with fail
        go_roundg (val r).toNat
        case measure => exact hlt.out
        case rel => exact ⟨B2, m2, d2, bs, A9, rl, c9, r, rfl, rfl, hm2, hr60, hnx, Nat.le_refl _, hb4⟩

end Go.Proofs.YtegclofijaoajaaGreat
