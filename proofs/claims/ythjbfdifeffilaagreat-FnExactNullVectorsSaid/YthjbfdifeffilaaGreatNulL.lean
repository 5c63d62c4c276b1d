/- Lists of vectors as values: a list of one's own as what is read; equal, marked, held. -/
import Derived.Test.YthjbfdifeffilaaGreatNulI
import Derived.Test.YthjbfdifeffilaaGreatNulS
import Derived.Test.YthjbfdifeffilaaGreatGV
namespace Go.Proofs.YthjbfdifeffilaaGreat
set_option maxRecDepth 100000
open Go.RowKit

theorem HasVV.at_ : ∀ {Rs : List (Value × List El)} {vss : List (List RD)} (_ : HasVV Rs vss) (i : Nat) (h1 : i < Rs.length) (h2 : i < vss.length), Has Rs[i].2 vss[i]
  | p :: Rs, v :: vss, h, 0, _, _ => h.1
  | p :: Rs, v :: vss, h, i + 1, h1, h2 => by simpa using HasVV.at_ h.2 i (by simpa using h1) (by simpa using h2)
/-- A list of vectors that is read. -/
def InVV (w : World) (A : Option Addr) (n : Nat) (vss : List (List RD)) : Prop :=
  vss.length = n ∧ n ≤ 1024 ∧ ∀ i, i < n → ∃ b o, A = some ⟨b, o, none⟩ ∧ b < w.heap.size ∧ ∃ v A1 n1 c1, vss[i]? = some v ∧ w.cell? ⟨b, o + i, none⟩ = some (.slice A1 n1 c1) ∧ InV w A1 n1 v
theorem InVV.below {w w' : World} {A : Option Addr} {n : Nat} {vss : List (List RD)} (h : InVV w A n vss) (hb : Below w.heap.size w w') : InVV w' A n vss := by
  refine ⟨h.1, h.2.1, fun i hi => ?_⟩
  obtain ⟨b, o, hA, hlt, v, A1, n1, c1, h1, h2, h3⟩ := h.2.2 i hi
  exact ⟨b, o, hA, Nat.lt_of_lt_of_le hlt hb.size, v, A1, n1, c1, h1, (hb.cell (p := ⟨b, o + i, none⟩) hlt).trans h2, h3.below hb⟩
theorem OwnVV.row {w : World} {base n c i : Nat} {A : Option Addr} {Rs : List (Value × List El)} (h : OwnVV w base (.slice A n c) n Rs) (hi : i < n) :
    ∃ b, A = some ⟨b, 0, none⟩ ∧ b < w.heap.size ∧ ∃ (hl : i < Rs.length) (A1 : Option Addr) (n1 c1 : Nat), Rs[i].1 = .slice A1 n1 c1 ∧ w.cell? ⟨b, i, none⟩ = some (.slice A1 n1 c1) ∧ OwnV w base (.slice A1 n1 c1) n1 Rs[i].2 := by
  have hl : i < Rs.length := by rw [h.1]; exact hi
  obtain ⟨b, o, hA, hlt, hc⟩ := (Reads.of_own h.2.1).at_ (by rw [List.length_map]; omega)
  obtain ⟨g, hg, _⟩ := own_at' h.2.1 (by omega)
  have hbo := hA.symm.trans hg
  simp only [Option.some.injEq, Addr.mk.injEq] at hbo
  obtain ⟨rfl, rfl, _⟩ := hbo
  obtain ⟨k, ho⟩ := h.2.2.1 Rs[i] (List.getElem_mem _)
  obtain ⟨A1, c1, hv⟩ := ho.slice
  have hcell := hc i (by rw [List.length_map]; exact hl)
  rw [Nat.zero_add, List.getElem_map, hv] at hcell
  rw [hv] at ho
  exact ⟨b, hA, hlt, hl, A1, k, c1, hv, hcell, ho⟩
theorem OwnVV.in_ {w : World} {base n c : Nat} {A : Option Addr} {Rs : List (Value × List El)} {vss : List (List RD)} (h : OwnVV w base (.slice A n c) n Rs) (hh : HasVV Rs vss) (hn : n ≤ 1024) (hg : ∀ v ∈ vss, Goods v) : InVV w A n vss := by
  have hl := hh.length
  have hl' := h.1
  refine ⟨by omega, hn, fun i hi => ?_⟩
  obtain ⟨b, hA, hlt, hlr, A1, n1, c1, hv, hcell, ho⟩ := h.row hi
  have hk := hh.at_ i hlr (by omega)
  have hgi := hg vss[i] (List.getElem_mem _)
  have h1 : n1 = vss[i].length := by rw [← hk.length]; exact ho.1.symm
  exact ⟨b, 0, hA, hlt, vss[i], A1, n1, c1, List.getElem?_eq_getElem _, by rw [Nat.zero_add]; exact hcell, ho.in_ hk (by have := hgi.1; omega) hgi.fits⟩
theorem at2 {w : World} {b o b' o' : Nat} {x x' : Value} (h : Hid (w.cell? ⟨b, o, none⟩ = some x)) (k : Hid (w.cell? ⟨b', o', none⟩ = some x')) : w.cell? ⟨b, o, none⟩ = some x ∧ w.cell? ⟨b', o', none⟩ = some x' := ⟨h.out, k.out⟩
set_option maxHeartbeats 1600000 in
theorem eqRatSS_same (A1 A2 : Option Addr) (n c1 c2 : Nat) (vss : List (List RD)) (w : World) (h1 : InVV w A1 n vss) (h2 : InVV w A2 n vss) :
    Calls Tryz.prog 48 #[.slice A1 n c1, .slice A2 n c2] w fun e w' => e = .returned (.bool true) ∧ Below w.heap.size w w' := by
  have hm := h1.2.1
  have H1 := Lib.hid h1
  have H2 := Lib.hid h2
  clear h1 h2
  go_enter Tryz.func48, Tryz.ntmps48
  go_wp2_with fail
  go_loopw [5] (fun x wr => ∃ i : Nat, i ≤ n ∧ x = .int .i64 i ∧ Hid (Below w.heap.size w wr)) (fun x _ => n - (intOf x).toNat)
  case atStart => exact ⟨0, Nat.zero_le _, rfl, Below.refl _ _⟩
  case round =>
    obtain ⟨i, hle, rfl, hb⟩ := hrel
    by_cases hlt : i < n
    · obtain ⟨b1, o1, rfl, hb1, r, A3, n3, c3, hr, at1, i1⟩ := (H1.out.below hb.out).2.2 i hlt
      obtain ⟨b2, o2, rfl, hb2, r', A4, n4, c4, hr', at2', i2⟩ := (H2.out.below hb.out).2.2 i hlt
      obtain rfl : r = r' := by rw [hr] at hr'; exact Option.some.inj hr'
      obtain rfl : n3 = n4 := i1.1.symm.trans i2.1
      have hi0 : (0 : Int) ≤ (i : Int) := by omega
      have hi1 : (i : Int) < (n : Int) := by omega
      have P1_0 : Hid (wr.drew.cell? ⟨b1, o1 + i, none⟩ = some (.slice A3 n3 c3)) := at1
      have P2_0 : Hid (wr.drew.cell? ⟨b2, o2 + i, none⟩ = some (.slice A4 n3 c4)) := at2'
      have I1 := Lib.hid (i1.below (Below.refl _ wr).drew)
      have I2 := Lib.hid (i2.below (Below.refl _ wr).drew)
      have HLT1 := Lib.hid hb1
      have HLT2 := Lib.hid hb2
      clear at1 at2' i1 i2 hr hr'
      go_wp2_with fail
      go_region_held3 (fun w' => w'.cell? ⟨b1, o1 + i, none⟩ = some (.slice A3 n3 c3) ∧ w'.cell? ⟨b2, o2 + i, none⟩ = some (.slice A4 n3 c4)) (first | with_reducible exact at2 P1_1 P2_1 | with_reducible exact at2 P1_0 P2_0) (first | (go_at_call 30; (with_reducible refine (eqRatS_same A3 A4 n3 c3 c4 r _ I1.out I2.out).mono ?_); rintro e w1 ⟨rfl, hc1⟩; have P1_1 : Hid (w1.cell? ⟨b1, o1 + i, none⟩ = some (.slice A3 n3 c3)) := Lib.hid ((hc1.cell (p := ⟨b1, o1 + i, none⟩) HLT1.out).trans P1_0.out); have P2_1 : Hid (w1.cell? ⟨b2, o2 + i, none⟩ = some (.slice A4 n3 c4)) := Lib.hid ((hc1.cell (p := ⟨b2, o2 + i, none⟩) HLT2.out).trans P2_0.out); have HB := Lib.hid (hb.out.drew.trans (hc1.mono hb.out.size)); clear hc1))
      go_wp2_with fail
      go_roundw
      case rel => exact ⟨i + 1, by omega, by go_num, HB⟩
      case measure => simp [intOf]; omega
    · obtain rfl : i = n := by omega
      go_wp2_with fail
      go_ret
      exact ⟨rfl, hb.out⟩
/-! Marks of a list of vectors. -/
def mtotV : List (Value × List El) → Nat
  | [] => 0
  | p :: R => mtot p.2 + mtotV R
def markVV (K : Nat) : List (Value × List El) → List (Value × List El)
  | [] => []
  | p :: R => (p.1, markL K p.2) :: markVV (K + mtot p.2) R
def markToV (K : Nat) (R : List (Value × List El)) (i : Nat) : List (Value × List El) := markVV K (R.take i) ++ R.drop i
theorem markVV_length : ∀ (K : Nat) (R : List (Value × List El)), (markVV K R).length = R.length
  | _, [] => rfl
  | _, p :: R => by simp [markVV, markVV_length]
theorem markVV_snoc : ∀ (K : Nat) (R : List (Value × List El)) (p : Value × List El), markVV K (R ++ [p]) = markVV K R ++ [(p.1, markL (K + mtotV R) p.2)]
  | K, [], p => by simp [markVV, mtotV]
  | K, x :: R, p => by simp [markVV, mtotV, markVV_snoc, Nat.add_assoc]
theorem mtotV_snoc : ∀ (R : List (Value × List El)) (p : Value × List El), mtotV (R ++ [p]) = mtotV R + mtot p.2
  | [], p => by simp [mtotV]
  | x :: R, p => by simp only [List.cons_append, mtotV, mtotV_snoc R p]; omega
theorem mtotV_take_le : ∀ (R : List (Value × List El)) (i : Nat), mtotV (R.take i) ≤ mtotV R
  | [], _ => by simp
  | x :: R, 0 => by simp [mtotV]
  | x :: R, i + 1 => by have := mtotV_take_le R i; simp only [List.take_succ_cons, mtotV]; omega
theorem mtotV_succ {R : List (Value × List El)} {i : Nat} (h : i < R.length) : mtotV (R.take (i + 1)) = mtotV (R.take i) + mtot R[i].2 := by
  rw [List.take_succ_eq_append_getElem h, mtotV_snoc]
theorem markToV_zero (K : Nat) (R : List (Value × List El)) : markToV K R 0 = R := by simp [markToV, markVV]
theorem markToV_all {K : Nat} {R : List (Value × List El)} {n : Nat} (h : R.length = n) : markToV K R n = markVV K R := by subst h; simp [markToV]
theorem markToV_at {K : Nat} {R : List (Value × List El)} {i : Nat} (h : i < R.length) (h' : i < (markToV K R i).length) : (markToV K R i)[i] = R[i] := by
  have hl : (markVV K (R.take i)).length = i := by rw [markVV_length, List.length_take]; omega
  have : (markToV K R i)[i]? = some R[i] := by
    unfold markToV
    rw [List.getElem?_append_right (by omega), hl, Nat.sub_self, List.drop_eq_getElem_cons h]
    rfl
  rw [List.getElem?_eq_getElem h'] at this
  exact Option.some.inj this
theorem markToV_succ {K : Nat} {R : List (Value × List El)} {i : Nat} (h : i < R.length) : (markToV K R i).set i (R[i].1, markL (K + mtotV (R.take i)) R[i].2) = markToV K R (i + 1) := by
  have hl : (markVV K (R.take i)).length = i := by rw [markVV_length, List.length_take]; omega
  unfold markToV
  rw [List.set_append_right _ _ (by omega), hl, Nat.sub_self, List.drop_eq_getElem_cons h, List.set_cons_zero, List.take_succ_eq_append_getElem h, markVV_snoc, List.append_assoc]
  rfl
/-- The blocks of a list of vectors lie where its outlines do. -/
def outl (R : List (Value × List El)) : List (Value × List (Value × Value)) := R.map fun p => (p.1, p.2.map fun e => (e.v, e.u))
theorem footVV_congr {V : Value} {R S : List (Value × List El)} (h : outl R = outl S) {k : Nat} (hk : footVV V R k) : footVV V S k := by
  rcases hk with hk | ⟨p, hp, hk⟩
  · exact .inl hk
  · have : (p.1, p.2.map fun e => (e.v, e.u)) ∈ outl S := by rw [← h]; exact List.mem_map.2 ⟨p, hp, rfl⟩
    obtain ⟨x, hx, hxe⟩ := List.mem_map.1 this
    simp only [Prod.mk.injEq] at hxe
    refine .inr ⟨x, hx, ?_⟩
    rw [hxe.1]
    exact foot_congr hxe.2.symm hk
theorem markVV_outl : ∀ (K : Nat) (R : List (Value × List El)), outl (markVV K R) = outl R
  | _, [] => rfl
  | K, p :: R => by
    have := markVV_outl (K + mtot p.2) R
    unfold outl at this ⊢
    simp [markVV, markL_vu, this]
theorem OwnVV.holds {w : World} {base n : Nat} {V : Value} {R : List (Value × List El)} (h : OwnVV w base V n R) : Holds w (footVV V R) fun w => OwnVV w base V n R := ⟨fun k hk => (h.lt k hk).2, h, fun _ hb => h.dep hb⟩
theorem OwnVV.holds_marked {w : World} {base n K : Nat} {V : Value} {R : List (Value × List El)} (h : OwnVV w base V n (markVV K R)) : Holds w (footVV V R) fun w => OwnVV w base V n (markVV K R) :=
  ⟨fun k hk => (h.lt k (footVV_congr (markVV_outl K R).symm hk)).2, h, fun _ hb => h.dep fun k hk => hb k (footVV_congr (markVV_outl K R) hk)⟩
theorem vvnow {w : World} {F : Nat → Prop} {base n : Nat} {V : Value} {R : List (Value × List El)} (h : Hid (Holds w F fun w => OwnVV w base V n R)) : OwnVV w base V n R := h.out.now
theorem vvin {w : World} {F : Nat → Prop} {base n c : Nat} {A : Option Addr} {R : List (Value × List El)} {vss : List (List RD)} (h : Hid (Holds w F fun w => OwnVV w base (.slice A n c) n R)) (hh : Hid (HasVV R vss)) (hn : n ≤ 1024) (hg : Hid (∀ v ∈ vss, Goods v)) : InVV w A n vss := (vvnow h).in_ hh.out hn hg.out
theorem mtotV_le : ∀ {R : List (Value × List El)} {vss : List (List RD)}, HasVV R vss → (∀ v ∈ vss, Goods v) → mtotV R ≤ vss.length * 50176
  | [], [], _, _ => by simp [mtotV]
  | p :: R, v :: vss, h, hg => by
    have h1 := mtotV_le h.2 fun x hx => hg x (by simp [hx])
    have h2 := mtot_has h.1
    have h3 := hg v (by simp)
    have h4 := tot_le fun r hr => good_tot (h3.2 r hr)
    have h5 := h3.1
    simp only [mtotV, List.length_cons, Nat.add_mul]; omega
/-- One vector is turned in its own blocks. -/
theorem OwnVV.turn {w w' : World} {base n m i : Nat} {V : Value} {R : List (Value × List El)} {L' : List El} (h : OwnVV w base V n R) (hi : i < R.length) (hvu : L'.map (fun e => (e.v, e.u)) = R[i].2.map fun e => (e.v, e.u)) (ho : OwnV w' base R[i].1 m L') (hW : Wrote (footV R[i].1 R[i].2) w w') : OwnVV w' base V n (R.set i (R[i].1, L')) := by
  obtain ⟨mi, hoi⟩ := h.2.2.1 R[i] (List.getElem_mem _)
  have hpw := List.pairwise_iff_getElem.1 h.2.2.2
  have hdis : ∀ (j : Nat) (hj : j < R.length), j ≠ i → ∀ k, footV R[j].1 R[j].2 k → ¬ footV R[i].1 R[i].2 k := fun j hj hne k h1 h2 => by
    rcases Nat.lt_or_gt_of_ne hne with hlt | hlt
    · exact hpw j i hj hi hlt k h1 h2
    · exact hpw i j hi hj hlt k h2 h1
  have hfst : (R.set i (R[i].1, L')).map Prod.fst = R.map Prod.fst := by
    rw [List.map_set, ← List.getElem_map (f := Prod.fst) (h := by simpa using hi), List.set_getElem_self]
  refine ⟨by simp [h.1], ?_, fun q hq => ?_, ?_⟩
  · rw [hfst]
    exact own_dep h.2.1 fun k hk => hW.block k (h.2.1.lt k hk).2 fun hf => vv_other hoi h.2.1 k hf hk
  · obtain ⟨j, hj, rfl⟩ := List.mem_iff_getElem.1 hq
    have hj' : j < R.length := by simpa using hj
    by_cases e : i = j
    · subst e
      rw [List.getElem_set_self]
      exact ⟨m, ho⟩
    · rw [List.getElem_set_ne e]
      obtain ⟨k, hk⟩ := h.2.2.1 R[j] (List.getElem_mem _)
      exact ⟨k, hk.dep fun x hx => hW.block x (hk.lt x hx).2 (hdis j hj' (Ne.symm e) x hx)⟩
  · rw [List.pairwise_iff_getElem]
    intro a b ha hb hab
    have ha' : a < R.length := by simpa using ha
    have hb' : b < R.length := by simpa using hb
    have key : ∀ (j : Nat) (hj : j < (R.set i (R[i].1, L')).length) (hj' : j < R.length) (k : Nat), footV (R.set i (R[i].1, L'))[j].1 (R.set i (R[i].1, L'))[j].2 k → footV R[j].1 R[j].2 k := fun j hj hj' k hk => by
      by_cases e : i = j
      · subst e
        rw [List.getElem_set_self] at hk
        exact foot_congr hvu hk
      · rwa [List.getElem_set_ne e] at hk
    exact fun k h1 h2 => hpw a b ha' hb' hab k (key a ha ha' k h1) (key b hb hb' k h2)
def MarkVVEnd (base : Nat) (V : Value) (n K m : Nat) (R : List (Value × List El)) (w w' : World) (e : Ending) : Prop :=
  e = .returned (.int .i64 ((K + m : Nat) : Int)) ∧ OwnVV w' base V n (markVV K R) ∧ Wrote (footVV V R) w w'
set_option maxHeartbeats 1600000 in
theorem markRatSS_m (base : Nat) (A : Option Addr) (n c K m : Nat) (R : List (Value × List El)) (vss : List (List RD)) (w : World) (hm : Hid (mtotV R = m)) (hK : K + m < maxLen) (h : OwnVV w base (.slice A n c) n R) (hh : HasVV R vss) :
    Calls Tryz.prog 49 #[.slice A n c, .int .i64 K] w fun e w' => MarkVVEnd base (.slice A n c) n K m R w w' e := by
  have HL := Lib.hid h.1
  have HO := Lib.hid h
  have HH := Lib.hid hh
  have hn : n ≤ maxLen := by
    have := own_cap h.2.1
    omega
  unfold maxLen at hK hn
  clear h hh
  go_enter Tryz.func49, Tryz.ntmps49
  go_wp2_with fail
  go_loopw [1, 5] (fun x y wr => ∃ i : Nat, i ≤ n ∧ x = .int .i64 ((K + mtotV (R.take i) : Nat) : Int) ∧ y = .int .i64 i ∧ Hid (OwnVV wr base (.slice A n c) n (markToV K R i)) ∧ Hid (Wrote (footVV (.slice A n c) R) w wr)) (fun _ y _ => n - (intOf y).toNat)
  case atStart => exact ⟨0, Nat.zero_le _, by simp [mtotV], rfl, by rw [markToV_zero]; exact HO, Wrote.refl _ _⟩
  case round =>
    obtain ⟨i, hi, rfl, rfl, ho, hW⟩ := hrel
    by_cases hlt : i < n
    · have hiR : i < R.length := by rw [HL.out]; exact hlt
      obtain ⟨g, rfl, hg, hl, A1, n1, c1, hv, hcell, hrow⟩ := ho.out.row hlt
      have hM := markToV_at (K := K) hiR hl
      rw [hM] at hv hrow
      obtain ⟨kk, hkk⟩ : ∃ kk, kk = K + mtotV (R.take i) := ⟨_, rfl⟩
      have hms := mtotV_succ hiR
      have hml := mtotV_take_le R (i + 1)
      rw [hm.out] at hml
      have hHi := HH.out.at_ i hiR (by rw [← HH.out.length]; exact hiR)
      have hi0 : (0 : Int) ≤ (i : Int) := by omega
      have hi1 : (i : Int) < (n : Int) := by omega
      rw [← hkk]
      have HK := Lib.hid hkk
      have HV := Lib.hid hv
      have HMx := Lib.hid hM
      have HMS := Lib.hid hms
      have HRW := Lib.hid hrow
      have HHI := Lib.hid hHi
      have hkm : kk + mtot R[i].2 ≤ K + m := by omega
      have HKM := Lib.hid hkm
      clear hkk hv hM hms hrow hHi hml hkm
      go_wp2_with fail
      refine (markRatS_own base A1 n1 c1 kk R[i].2 _ _ (by have := HKM.out; unfold maxLen; omega) HRW.out HHI.out).mono ?_
      rintro x w1 ⟨rfl, ho1, hW1⟩
      rw [← HV.out] at ho1 hW1
      have hfin : OwnVV w1 base (.slice (some ⟨g, 0, none⟩) n c) n (markToV K R (i + 1)) := by
        have := ho.out.turn (L' := markL kk R[i].2) hl (by rw [HMx.out, markL_vu]) (by rw [HMx.out]; exact ho1) (by rw [HMx.out]; exact hW1)
        rw [HMx.out, HK.out, markToV_succ hiR] at this
        exact this
      have HF := Lib.hid hfin
      have HW := Lib.hid (hW.out.trans (hW1.mono fun k _ hk => .inr ⟨R[i], List.getElem_mem _, hk⟩))
      have HN : Hid (kk + mtot R[i].2 = K + mtotV (R.take (i + 1))) := by have := HMS.out; have := HK.out; unfold Hid; omega
      clear ho1 hW1 hfin
      rw [HN.out]
      go_wp2_with fail
      go_roundw
      case rel => exact ⟨i + 1, by omega, rfl, by go_num, HF, HW⟩
      case measure => simp [intOf]; omega
    · obtain rfl : i = n := by omega
      have HF : Hid (MarkVVEnd base (.slice A i c) i K m R w wr (.returned (.int .i64 ((K + mtotV (R.take i) : Nat) : Int)))) := by
        have h1 := ho.out
        rw [markToV_all HL.out] at h1
        refine ⟨?_, h1, hW.out⟩
        rw [List.take_of_length_le (by rw [HL.out]; omega), hm.out]
      go_wp2_with fail
      go_ret
      exact HF.out
theorem markVV_at {K : Nat} : ∀ {R : List (Value × List El)} {i : Nat} (h : i < R.length) (h' : i < (markVV K R).length), (markVV K R)[i] = (R[i].1, markL (K + mtotV (R.take i)) R[i].2)
  | p :: R, 0, _, _ => by simp [markVV, mtotV]
  | p :: R, i + 1, h, h' => by
    have := markVV_at (K := K + mtot p.2) (R := R) (i := i) (by simpa using h) (by rw [markVV_length]; simpa using h)
    simp only [markVV, List.getElem_cons_succ, List.take_succ_cons, mtotV]
    rw [this, show K + mtot p.2 + mtotV (R.take i) = K + (mtot p.2 + mtotV (R.take i)) by omega]
set_option maxHeartbeats 1600000 in
theorem heldRatSS_m (base : Nat) (A : Option Addr) (n c K m : Nat) (R : List (Value × List El)) (w : World) (hm : Hid (mtotV R = m)) (hK : K + m < maxLen) (h : OwnVV w base (.slice A n c) n (markVV K R)) :
    Calls Tryz.prog 50 #[.slice A n c, .int .i64 K] w fun e w' => e = .returned (.int .i64 ((K + m : Nat) : Int)) ∧ Below w.heap.size w w' := by
  have hlen : R.length = n := by rw [← h.1, markVV_length]
  have HL := Lib.hid hlen
  have HO := Lib.hid h
  have hn : n ≤ maxLen := by
    have := own_cap h.2.1
    omega
  unfold maxLen at hK hn
  clear hlen h
  go_enter Tryz.func50, Tryz.ntmps50
  go_wp2_with fail
  go_loopw [1, 5] (fun x y wr => ∃ i : Nat, i ≤ n ∧ x = .int .i64 ((K + mtotV (R.take i) : Nat) : Int) ∧ y = .int .i64 i ∧ Hid (Below w.heap.size w wr)) (fun _ y _ => n - (intOf y).toNat)
  case atStart => exact ⟨0, Nat.zero_le _, by simp [mtotV], rfl, Below.refl _ _⟩
  case round =>
    obtain ⟨i, hi, rfl, rfl, hb⟩ := hrel
    by_cases hlt : i < n
    · have hiR : i < R.length := by rw [HL.out]; exact hlt
      obtain ⟨g, rfl, hg, hl, A1, n1, c1, hv, hcell, hrow⟩ := (HO.out.below hb.out).row hlt
      have hM := markVV_at (K := K) hiR hl
      rw [hM] at hv hrow
      obtain ⟨kk, hkk⟩ : ∃ kk, kk = K + mtotV (R.take i) := ⟨_, rfl⟩
      have hms := mtotV_succ hiR
      have hml := mtotV_take_le R (i + 1)
      rw [hm.out] at hml
      rw [← hkk] at hrow
      have hi0 : (0 : Int) ≤ (i : Int) := by omega
      have hi1 : (i : Int) < (n : Int) := by omega
      have hkm : kk + mtot R[i].2 ≤ K + m := by omega
      have HN : Hid (kk + mtot R[i].2 = K + mtotV (R.take (i + 1))) := by unfold Hid; omega
      have HRW := Lib.hid hrow
      have HKM := Lib.hid hkm
      rw [← hkk]
      clear hkk hv hM hms hrow hml
      go_wp2_with fail
      refine (heldRatS_same base A1 n1 c1 kk R[i].2 _ (by have := HKM.out; unfold maxLen; omega) HRW.out).mono ?_
      rintro x w1 ⟨rfl, hb1⟩
      have HB := Lib.hid (hb.out.trans (hb1.mono hb.out.size))
      clear hb1
      have hq0 : (0 : Int) ≤ ((kk + mtot R[i].2 : Nat) : Int) := by omega
      rw [HN.out] at hq0 ⊢
      go_wp2_with fail
      go_roundw
      case rel => exact ⟨i + 1, by omega, rfl, by go_num, HB⟩
      case measure => simp [intOf]; omega
    · obtain rfl : i = n := by omega
      have HF : Hid ((Ending.returned (.int .i64 ((K + mtotV (R.take i) : Nat) : Int))) = .returned (.int .i64 ((K + m : Nat) : Int)) ∧ Below w.heap.size w wr) := by
        refine ⟨?_, hb.out⟩
        rw [List.take_of_length_le (by rw [HL.out]; omega), hm.out]
      go_wp2_with fail
      go_ret
      exact HF.out
theorem impl_nullVectors (p k : Int) (A : Option Addr) (n c : Nat) (rs : List RD) (w : World) (h : InV w A n rs) (hp : -9223372036854775808 ≤ p ∧ p ≤ 9223372036854775807) (hk : -9223372036854775808 ≤ k ∧ k ≤ 9223372036854775807) (hc : n ≤ c) :
    Calls Tryz.prog 47 #[.agg #[.int .i64 p, .int .i64 k, .slice A n c]] w fun e w' => ∃ vss V b, e = .returned (.tuple #[V, .bool b]) ∧ NullVectorsIs p k rs vss b ∧ ResVV w w' V vss ∧ Below w.heap.size w w' :=
  impl_nullVectors0 p k A n c rs w h hp hk hc
theorem spec_nullVectors (p k : Int) (A : Option Addr) (n c : Nat) (rs : List RD) (w : World) (h : InV w A n rs) (hp : -9223372036854775808 ≤ p ∧ p ≤ 9223372036854775807) (hk : -9223372036854775808 ≤ k ∧ k ≤ 9223372036854775807) (hc : n ≤ c) :
    Calls Tryz.prog 46 #[.agg #[.int .i64 p, .int .i64 k, .slice A n c]] w fun e w' => ∃ vss V b, e = .returned (.tuple #[V, .bool b]) ∧ NullVectorsIs p k rs vss b ∧ ResVV w w' V vss ∧ Below w.heap.size w w' :=
  spec_nullVectors0 p k A n c rs w h hp hk hc
end Go.Proofs.YthjbfdifeffilaaGreat
