/- Contract of the program's one limb of a long division. -/
import Derived.Test.YtjggdbakbhacjaaIm6
import Derived.Deep.DeepCutAuto
namespace Go.Proofs.Ytjggdbakbhacjaa
set_option maxRecDepth 100000
open Go.RowKit

/-- What a limb of the quotient ends in. -/
def LimbEnd (g N c : Nat) (P X ds : List Int) (base : Nat) (w w' : World) (e : Ending) : Prop :=
  ∃ q X', e = .returned (.int .i64 q) ∧ 0 ≤ q ∧ q ≤ 999999999 ∧ X'.length = X.length ∧ InR X' ∧ val X' = val X - q * val ds ∧ val X' < val ds ∧ w'.ownsRow base 3 1 (.slice (some ⟨g, 0, none⟩) N c) N ((P ++ X').map (.int .i64)) ∧ w.grownBy w' (some g)
/-- The window under subtraction. -/
def LessMem (g N c : Nat) (P X ds : List Int) (n base : Nat) (G : Int) (w wr : World) (i : Nat) (cy : Int) (X' : List Int) : Prop :=
  LessAt (val X) G ds i cy X' ∧ X'.length = X.length ∧ ZeroFrom X' (n + 1) ∧ wr.ownsRow base 3 1 (.slice (some ⟨g, 0, none⟩) N c) N ((P ++ X').map (.int .i64)) ∧ w.grownBy wr (some g)
/-- The window being corrected. -/
def TopMem (g N c : Nat) (P X ds : List Int) (n base : Nat) (w wr : World) (q t : Int) (X' : List Int) : Prop :=
  TopAt n (val X - q * val ds) t X' ∧ val X < (q + 1) * val ds ∧ X'.length = X.length ∧ wr.ownsRow base 3 1 (.slice (some ⟨g, 0, none⟩) N c) N ((P ++ X').map (.int .i64)) ∧ w.grownBy wr (some g)
theorem floor_tdiv (S : Int) : (S - S % 1000000000).tdiv 1000000000 = S / 1000000000 := by
  have h := Int.mul_ediv_add_emod S 1000000000
  have e : S - S % 1000000000 = S / 1000000000 * 1000000000 := by omega
  rw [e, Int.mul_tdiv_cancel _ (by decide)]
theorem grownBy_drewN (w : World) (n : Nat) (row : Option Nat) : w.grownBy (w.drewN n) row := ⟨rfl, rfl, rfl, Nat.le_refl _, fun _ _ _ => rfl⟩
theorem drop_get {l r : List Int} {n : Nat} (h : l.drop n = r.drop n) (hl : n < l.length) (hr : n < r.length) : l[n] = r[n] := by
  rw [List.drop_eq_getElem_cons hl, List.drop_eq_getElem_cons hr] at h
  exact (List.cons.inj h).1
theorem getD_set_self (l : List Int) (n : Nat) (v : Int) (h : n < l.length) : (l.set n v).getD n 0 = v := by
  rw [List.getD_eq_getElem?_getD, List.getElem?_set_self h]; rfl

theorem zeroFrom_drop {l r : List Int} {n : Nat} (h : l.drop n = r.drop n) (hz : ZeroFrom r (n + 1)) : ZeroFrom l (n + 1) := by
  intro j hj hle
  have hlen : l.length - n = r.length - n := by rw [← List.length_drop, ← List.length_drop, h]
  have h2 : l.drop j = r.drop j := by
    rw [show j = n + (j - n) by omega, ← List.drop_drop, ← List.drop_drop, h]
  rw [drop_get h2 hj (by omega)]
  exact hz j (by omega) hle
theorem TopMem.next {g N c m base : Nat} {P X ds X1 X2 : List Int} {w wi w1 : World} {q tt cz : Int} (HT : TopAt (m + 1) (val X - q * val ds) tt X1) (zl : X2.length = X1.length) (zr : InR (X2.take (m + 1))) (zv : val X2 + pw (m + 1) * cz = val X1 + val ds)
    (zd : X2.drop (m + 1) = X1.drop (m + 1)) (hl : X1.length = X.length) (hup : val X < (q - 1 + 1) * val ds) (zo : w1.ownsRow base 3 1 (.slice (some ⟨g, 0, none⟩) N c) N ((P ++ X2).map (.int .i64))) (zg : wi.grownBy w1 (some g)) (hg : w.grownBy wi (some g)) :
    TopMem g N c P X ds (m + 1) base w (w1.setCell ⟨g, P.length + (m + 1), none⟩ (.int .i64 (tt + cz))) (q - 1) (tt + cz) (X2.set (m + 1) (tt + cz)) := by
  obtain ⟨_, h2, h3, _, h5, h6⟩ := HT
  have hx : m + 1 < X2.length := by omega
  rw [List.getD_eq_getElem?_getD, List.getElem?_eq_getElem h5] at h6
  have h7 : X1[m + 1] = tt := h6
  have h8 := (drop_get zd hx h5).trans h7
  have h9 : InR ((X2.set (m + 1) (tt + cz)).take (m + 1)) := by rw [List.take_set_of_le (Nat.le_refl _)]; exact zr
  have ht := top_at h9 ((zeroFrom_drop zd h2).set (by omega) (tt + cz)) (by simpa using hx)
  have hv : val X2 + pw (m + 1) * (tt + cz - tt) = val X - (q - 1) * val ds := by grind
  rw [getD_set_self _ _ _ hx, val_set _ _ _ hx, h8, hv] at ht
  have hst := zo.stored (P.length + (m + 1)) (.int .i64 (tt + cz))
  rw [map_append_set] at hst
  exact ⟨ht, hup, by simp; omega, hst.1, grownBy_trans (grownBy_trans hg zg) hst.2⟩

set_option maxHeartbeats 1600000 in
theorem impl_quotientLimb (g N c base k m cw : Nat) (P X ds : List Int) (A2 : Option Addr) (c2 : Nat) (w : World) (ho : w.ownsRow base 3 1 (.slice (some ⟨g, 0, none⟩) N c) N ((P ++ X).map (.int .i64))) (hP : P.length = k) (hN : P.length + X.length = N) (hnX : m + 1 < X.length) (hN60 : N ≤ 1048576)
    (hX : InR X) (hd : ds.length = m + 1) (hdr : InR ds) (hcw : m + 1 + 1 ≤ cw) (hmd : m < ds.length) (htop : 1 ≤ ds[m]) (hlt : val X < 1000000000 * val ds) (hr : Reads w A2 (ds.map (.int .i64))) (hne : ∀ b o, A2 = some ⟨b, o, none⟩ → b ≠ g) :
    Calls Try.prog 155 #[.slice (some ⟨g, k, none⟩) (m + 1 + 1) cw, .slice A2 (m + 1) c2] w fun e w' => LimbEnd g N c P X ds base w w' e := by
  subst hP
  obtain ⟨t, ht⟩ : ∃ t, t = ds[m] := ⟨_, rfl⟩
  rw [← ht] at htop
  have ht2 : t ≤ 999999999 := by have := hdr _ (List.getElem_mem hmd); rw [← ht] at this; exact this.2
  obtain ⟨a, ha⟩ : ∃ a, a = X[m + 1] := ⟨_, rfl⟩
  obtain ⟨b, hb⟩ : ∃ b, b = X[m]'(by omega) := ⟨_, rfl⟩
  have ba := hX _ (List.getElem_mem hnX)
  have bb := hX _ (List.getElem_mem (show m < X.length by omega))
  rw [← ha] at ba
  rw [← hb] at bb
  obtain ⟨a0, a1⟩ := ba
  obtain ⟨b0, b1⟩ := bb
  have hdlt := val_lt hdr
  rw [hd] at hdlt
  have hz : ZeroFrom X (m + 1 + 1) := zeroFrom_of_lt hX (by rw [pw]; omega)
  have hP9 := pw_pos m
  have htd : val (ds.drop m) = t := by rw [val_drop_at hmd, List.drop_eq_nil_of_le (by omega), ← ht]; simp [val]
  have hxd : val (X.drop m) = a * 1000000000 + b := by
    rw [val_drop_at (by omega), val_drop_at hnX, ← ha, ← hb, val_zero (l := X.drop (m + 1 + 1)) (fun d hd => by
      obtain ⟨j, hj, rfl⟩ := List.mem_iff_getElem.1 hd
      rw [List.getElem_drop]; exact hz _ _ (by omega))]
    omega
  have tD := take_bd hdr m (by omega)
  have tX := take_bd hX m (by omega)
  have sD := val_split ds m (by omega)
  have sX := val_split X m (by omega)
  rw [htd] at sD
  rw [hxd] at sX
  have e2 : val X < (a * 1000000000 + b + 1) * pw m := by rw [Int.add_mul, Int.mul_comm (a * 1000000000 + b)]; omega
  have e3 : t * pw m ≤ val ds := by rw [Int.mul_comm]; omega
  have g2 := lt_guess hP9 e2 e3 (by omega) htop
  have hq0 : 0 ≤ (a * 1000000000 + b) / t := Int.ediv_nonneg (by omega) (by omega)
  obtain ⟨Q, hQ⟩ : ∃ Q, Q = (a * 1000000000 + b) / t := ⟨_, rfl⟩
  rw [← hQ] at g2 hq0
  have hlt2 : m < X.length := by omega
  obtain ⟨b2, o2, rfl, hbs2, hc2⟩ := hr.at_ (by simp; omega)
  have g1 : w.cell? ⟨g, P.length + (m + 1), none⟩ = some (.int .i64 a) := by rw [ho.cellAt _ (by omega), map_append_get _ _ _ hnX, ha]
  have g3 : w.cell? ⟨g, P.length + m, none⟩ = some (.int .i64 b) := by rw [ho.cellAt _ (by omega), map_append_get _ _ _ hlt2, hb]
  have g4 : w.cell? ⟨b2, o2 + m, none⟩ = some (.int .i64 t) := (hc2 m (by simpa using hmd)).trans (by simp [ht])
  have hsub : ((m + 1 : Nat) : Int) - 1 = (m : Int) := by omega
  have Hd := Lib.hid hd
  have Hdr := Lib.hid hdr
  have Hr := Lib.hid hr
  have Hne := Lib.hid hne
  have HN := Lib.hid hN
  have HnX := Lib.hid hnX
  have Hz := Lib.hid hz
  have Hlt := Lib.hid hlt
  have HX := Lib.hid hX
  have G2 := Lib.hid g2
  have HO := Lib.hid ho
  have hm60 : m ≤ 1048576 := by omega
  have hm0 : (0 : Int) ≤ (m : Int) := by omega
  have hm1 : (0 : Int) ≤ (m : Int) + 1 := by omega
  have hm2 : (m : Int) + 1 < ((m + 1 + 1 : Nat) : Int) := by omega
  have hm3 : ((m : Int) + 1).toNat = m + 1 := by omega
  have hm4 : (m : Int) + 1 ≤ (cw : Int) := by omega
  have hm5 : (m : Int) + 1 < (m : Int) + 1 + 1 := by omega
  clear hd hdr hr hne ho hX hN hnX hz hlt tD tX sD sX htd hxd e2 e3 g2 ha hb ht hc2 hdlt hP9 hlt2 hmd
  have hQs : Hid (0 ≤ Q ∧ val X < (Q + 1) * val ds ∧ Q = (a * 1000000000 + b) / t) := ⟨hq0, G2.out, hQ⟩
  have M0 : Hid (LessMem g N c P X ds (m + 1) base 0 w w 0 0 X) := ⟨⟨HX.out, by simp [val], by omega, by omega⟩, rfl, Hz.out, HO.out, World.grownBy.refl _ _⟩
  go_enter Try.func155, Try.ntmps155
  go_upto_region 2 with fail
  go_cut [6] (fun x wx => ∃ (G : Int) (nq : Nat), x = .int .i64 G ∧ 0 ≤ G ∧ G ≤ 999999999 ∧ Hid (val X < (G + 1) * val ds) ∧ wx = w.drewN nq)
  case first =>
    by_cases hmn : Q < 999999999
    · go_quiet (fail)
      go_wp2_with fail
      go_meet
      exact ⟨_, _, rfl, by omega, by omega, by rw [← hQ]; exact hQs.out.2.1, rfl⟩
    · have hQ4 : Hid (val X < (999999999 + 1) * val ds) := by have := Hlt.out; unfold Hid; omega
      have hif : (if 999999999 < (a * 1000000000 + b) / t then (999999999 : Int) else (a * 1000000000 + b) / t) = 999999999 := by
        rw [← hQ]; split <;> omega
      have Hif := Lib.hid hif
      clear hif
      go_quiet (fail)
      rw [Hif.out]
      clear hQ hmn
      go_wp2_with fail
      go_meet
      exact ⟨999999999, _, rfl, by omega, by omega, hQ4, rfl⟩
  case rest =>
    obtain ⟨G, nq, rfl, G0, G1, HG, rfl⟩ := hcut
    have M1 : Hid (LessMem g N c P X ds (m + 1) base G w (w.drewN nq) 0 0 X) := by
      obtain ⟨z1, z2, z3, z4, z5⟩ := M0.out
      exact ⟨⟨z1.1, by simp [val], by omega, by omega⟩, z2, z3, z4, grownBy_drewN _ _ _⟩
    clear hQs hQ hq0 G2 M0 g1 g3 g4
    go_wp2_with fail
    go_loopw [7, 30] (fun x y wr => ∃ (i : Nat) (cy : Int) (X' : List Int), i ≤ m + 1 ∧ y = .int .i64 (i : Int) ∧ x = .int .i64 cy ∧ -1000000000 ≤ cy ∧ cy ≤ 0 ∧ Hid (LessMem g N c P X ds (m + 1) base G w wr i cy X')) (fun _ y _ => m + 1 - (intOf y).toNat)
    case atStart => exact ⟨0, 0, X, Nat.zero_le _, rfl, rfl, by omega, by omega, M1⟩
    case round =>
      obtain ⟨i, cy, X', hi, rfl, rfl, c0, c9, hm⟩ := hrel
      obtain ⟨wo, rfl⟩ : ∃ wo : World, wo = wr := ⟨_, rfl⟩
      have hi0 : (0 : Int) ≤ (i : Int) := by omega
      obtain ⟨hp, hl, hzf, ho, hg⟩ := hm.out
      have hlN := HN.out
      have hnX := HnX.out
      by_cases hlt : i < m + 1
      · have hid : i < ds.length := by rw [Hd.out]; exact hlt
        have hiX : i < X'.length := by rw [hl]; omega
        obtain ⟨b3, o3, hE, hbs3, hc2⟩ := (Hr.out.grown hg Hne.out).at_ (by simp; omega)
        cases hE
        obtain ⟨d, hdd⟩ : ∃ d, d = ds[i] := ⟨_, rfl⟩
        have g2 : wo.cell? ⟨b2, o2 + i, none⟩ = some (.int .i64 d) := (hc2 i (by simpa using hid)).trans (by simp [hdd])
        have hdr := Hdr.out _ (List.getElem_mem hid)
        rw [← hdd] at hdr
        obtain ⟨d0, d1⟩ := hdr
        obtain ⟨o, hoo⟩ : ∃ o, o = X'[i] := ⟨_, rfl⟩
        have hor := hp.1 _ (List.getElem_mem hiX)
        rw [← hoo] at hor
        obtain ⟨q0, q1⟩ := hor
        have g3 : wo.cell? ⟨g, P.length + i, none⟩ = some (.int .i64 o) := by
          rw [ho.cellAt (P.length + i) (by omega), map_append_get _ _ _ hiX, hoo]
        obtain ⟨p0, p1⟩ := prod_bd G0 G1 d0 d1
        have hnx := hp.step hiX hoo hid hdd p0 p1 q0 q1
        obtain ⟨S, hS⟩ : ∃ S, S = cy + (o - G * d) := ⟨_, rfl⟩
        rw [← hS] at hnx
        have hfr := ho.frozenAt (P.length + i)
        have hst := ho.stored (P.length + i) (.int .i64 (S % 1000000000))
        rw [map_append_set] at hst
        have hSb : -1000000000000000000 ≤ S ∧ S ≤ 999999999 := by omega
        obtain ⟨S0, S1⟩ := hSb
        have hSd : -1000000000 ≤ S / 1000000000 ∧ S / 1000000000 ≤ 0 := by omega
        have HS := Lib.hid hSd
        have hfl := floor_tdiv S
        have hfin : Hid (LessMem g N c P X ds (m + 1) base G w (wo.setCell ⟨g, P.length + i, none⟩ (.int .i64 (S % 1000000000))) (i + 1) (S / 1000000000) (X'.set i (S % 1000000000))) :=
          ⟨hnx, by simpa using hl, hzf.set (by omega) _, hst.1, grownBy_trans hg hst.2⟩
        have hi1 : (i : Int) < (m : Int) + 1 := by omega
        clear hc2 hdd hoo hst hnx hp hl hzf ho hg hSd hlN hnX hm hid hiX
        go_wp2_with fail
        go_quiet (fail)
        rw [← hS]
        clear hS p0 p1 q0 q1 d0 d1
        go_wp2_with fail
        refine (impl_floorMod S _).mono ?_
        rintro e w' ⟨rfl, rfl⟩
        go_wp2_with fail
        go_roundw
        case rel =>
          obtain ⟨f1, f2, f3, f4, f5⟩ := hfin.out
          first
            | exact ⟨i + 1, _, _, by omega, by go_num, rfl, HS.out.1, HS.out.2, ⟨f1, f2, f3, f4, ⟨f5.os, f5.tape, f5.output, f5.size, f5.block⟩⟩⟩
            | ((repeat apply Exists.intro); exact ⟨⟨i + 1, _, _, by omega, by go_num, rfl, HS.out.1, HS.out.2, ⟨f1, f2, f3, f4, ⟨f5.os, f5.tape, f5.output, f5.size, f5.block⟩⟩⟩, rfl⟩)
        case measure => simp [intOf]; omega
      · obtain rfl : i = m + 1 := by omega
        have hnl : m + 1 < X'.length := by rw [hl]; exact hnX
        obtain ⟨o, hoo⟩ : ∃ o, o = X'[m + 1] := ⟨_, rfl⟩
        have hor := hp.1 _ (List.getElem_mem hnl)
        rw [← hoo] at hor
        obtain ⟨q0, q1⟩ := hor
        have g3 : wo.cell? ⟨g, P.length + (m + 1), none⟩ = some (.int .i64 o) := by
          rw [ho.cellAt _ (by omega), map_append_get _ _ _ hnl, hoo]
        have hfr := ho.frozenAt (P.length + (m + 1))
        have hst := ho.stored (P.length + (m + 1)) (.int .i64 (o + cy))
        rw [map_append_set] at hst
        have hlt9 : InR ((X'.set (m + 1) (o + cy)).take (m + 1)) := by rw [List.take_set_of_le (Nat.le_refl _)]; exact hp.1.take _
        have htop9 := top_at hlt9 (hzf.set (by omega) (o + cy)) (by simpa using hnl)
        rw [getD_set_self _ _ _ hnl, val_set _ _ _ hnl, ← hoo, show o + cy - o = cy by omega, hp.2.1, List.take_of_length_le (by rw [Hd.out]; exact Nat.le_refl _)] at htop9
        have hT : Hid (TopMem g N c P X ds (m + 1) base w (wo.setCell ⟨g, P.length + (m + 1), none⟩ (.int .i64 (o + cy))) G (o + cy) (X'.set (m + 1) (o + cy))) :=
          ⟨htop9, HG.out, by simpa using hl, hst.1, grownBy_trans hg hst.2⟩
        clear hoo hst hlt9 htop9 hp hl hzf ho hg hlN hnX hm
        go_wp2_with fail
        go_loopw [6] (fun x wr => ∃ (q t : Int) (X' : List Int), x = .int .i64 q ∧ 0 ≤ q ∧ q ≤ 999999999 ∧ -1000000000 ≤ t ∧ t ≤ 999999999 ∧ Hid (TopMem g N c P X ds (m + 1) base w wr q t X')) (fun x _ => (intOf x).toNat)
        case atStart => exact ⟨G, o + cy, _, rfl, G0, G1, by omega, by omega, hT⟩
        case round =>
          obtain ⟨q, tt, X1, rfl, e0, e1, t0, t1, hm⟩ := hrel
          obtain ⟨wi, rfl⟩ : ∃ wi : World, wi = wr := ⟨_, rfl⟩
          obtain ⟨htp, hup, hl, ho, hg⟩ := hm.out
          have hlN := HN.out
          have hnX := HnX.out
          have hnl : m + 1 < X1.length := by rw [hl]; exact hnX
          have hge := htp.2.2.2.2.2
          rw [List.getD_eq_getElem?_getD, List.getElem?_eq_getElem hnl] at hge
          have g5 : wi.cell? ⟨g, P.length + (m + 1), none⟩ = some (.int .i64 tt) := by
            rw [ho.cellAt _ (by omega), map_append_get _ _ _ hnl, show X1[m + 1] = tt from hge]
          by_cases hneg : tt < 0
          · have hW := htp.neg hneg
            have hq1 : 1 ≤ q := by
              by_cases e : q = 0
              · subst e
                have := val_nonneg HX.out
                omega
              · omega
            have hup2 : Hid (val X < (q - 1 + 1) * val ds) := by unfold Hid; rw [Int.sub_add_cancel]; omega
            have hRd := Lib.hid (Hr.out.grown hg Hne.out)
            have hlX := Lib.hid hl
            have HT := Lib.hid htp
            have hO := Lib.hid ho
            have hG9 := Lib.hid hg
            have hnL := Lib.hid hnl
            clear hm htp hup hl ho hg hW hlN hnX
            go_wp2_with fail
            have hnl2 := hnL.out
            have htt : X1[m + 1] = tt := hge
            have Htt := Lib.hid htt
            clear hge htt
            go_region_with (go_at_call 166; refine (impl_addTo g N c base P.length (m + 1) cw P X1 ds _ c2 wi.drew hO.out rfl (by rw [hlX.out]; exact HN.out) (by omega) hN60 HT.out.1 Hd.out Hdr.out hRd.out Hne.out).mono ?_; rintro e w1 ⟨cz, X2, rfl, z0, z1, zl, zd, zr, zv, zo, zg⟩; have hx2 : m + 1 < X2.length := (by omega); have hx3 : X2[m + 1] = tt := (drop_get zd hx2 hnl2).trans Htt.out; have g6 : w1.cell? ⟨g, P.length + (m + 1), none⟩ = some (.int .i64 tt) := (by rw [zo.cellAt _ (by have := HN.out; have := hlX.out; omega), map_append_get _ _ _ hx2, hx3]); have hfr6 := zo.frozenAt (P.length + (m + 1)); have hfin := Lib.hid (TopMem.next HT.out zl zr zv zd hlX.out hup2.out zo zg (grownBy_trans hG9.out (grownBy_drewN wi 1 _))); have hz0 : -1000000000 ≤ tt + cz ∧ tt + cz ≤ 999999999 := (by omega); clear zl zd zr zv zo zg hx3)
            all_goals
              go_wp2_with fail
              go_roundw
              case rel =>
                obtain ⟨f1, f2, f3, f4, f5⟩ := hfin.out
                rw [IntWalk.i64_in (tt + cz) (by omega)]
                first
                  | exact ⟨q - 1, tt + cz, _, rfl, by omega, by omega, hz0.1, hz0.2, ⟨f1, f2, f3, f4, ⟨f5.os, f5.tape, f5.output, f5.size, f5.block⟩⟩⟩
                  | ((repeat apply Exists.intro); exact ⟨⟨q - 1, tt + cz, _, rfl, by omega, by omega, hz0.1, hz0.2, ⟨f1, f2, f3, f4, ⟨f5.os, f5.tape, f5.output, f5.size, f5.block⟩⟩⟩, rfl⟩)
              case measure => simp [intOf]; omega
          · have hW := htp.nonneg (by omega)
            have hdl := val_lt Hdr.out
            rw [Hd.out] at hdl
            have hlt9 : val X - q * val ds < val ds := by have h := hup; rw [Int.add_mul, Int.one_mul] at h; omega
            obtain ⟨_, hir⟩ := htp.zero (by omega) (by omega)
            have hfin : Hid (LimbEnd g N c P X ds base w wi (.returned (.int .i64 q))) := ⟨q, X1, rfl, e0, e1, hl, hir, htp.2.2.1, by rw [htp.2.2.1]; exact hlt9, ho, hg⟩
            clear hm hge htp hup hl ho hg hW hlN hnX hdl hlt9 hir
            go_wp2_with fail
            go_ret
            exact hfin.out
end Go.Proofs.Ytjggdbakbhacjaa
