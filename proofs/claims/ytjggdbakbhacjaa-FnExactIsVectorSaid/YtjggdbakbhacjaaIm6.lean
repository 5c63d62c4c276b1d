/- Contracts of the program's long division: a list times one limb and over one limb, a sum in place. -/
import Derived.Test.YtjggdbakbhacjaaIm4
namespace Go.Proofs.Ytjggdbakbhacjaa
set_option maxRecDepth 100000
open Go.RowKit

theorem Reads.grown {w w' : World} {A : Option Addr} {xs : List Value} {g : Nat} (h : Reads w A xs) (hg : w.grownBy w' (some g)) (hne : ∀ b o, A = some ⟨b, o, none⟩ → b ≠ g) : Reads w' A xs := by
  rcases h with rfl | ⟨b, o, rfl, hb, hc⟩
  · exact .inl rfl
  · exact .inr ⟨b, o, rfl, by have := hg.size; omega, fun j hj => (World.cell?_of_block (a := ⟨b, o + j, none⟩) (hg.block b hb (fun e => hne b o rfl (by simpa using e)))).trans (hc j hj)⟩
theorem map_append_set (P X : List Int) (i : Nat) (d : Int) : ((P ++ X).map (Value.int .i64)).set (P.length + i) (.int .i64 d) = ((P ++ X.set i d).map (.int .i64)) := by
  rw [map_set_int, List.set_append_right _ _ (by omega), Nat.add_sub_cancel_left]
theorem map_append_get (P X : List Int) (i : Nat) (h : i < X.length) : ((P ++ X).map (Value.int .i64))[P.length + i]? = some (.int .i64 X[i]) := by
  rw [List.getElem?_map, List.getElem?_append_right (by omega), Nat.add_sub_cancel_left, List.getElem?_eq_getElem h]; rfl

theorem tmod_floor (n : Int) : ((n.tmod 1000000000) + 1000000000).tmod 1000000000 = n % 1000000000 := by
  by_cases h : 0 ≤ n
  · rw [Int.tmod_eq_emod_of_nonneg h, Int.tmod_eq_emod_of_nonneg (by omega)]; omega
  · obtain ⟨k, rfl⟩ : ∃ k, n = -k := ⟨-n, by omega⟩
    rw [Int.neg_tmod, Int.tmod_eq_emod_of_nonneg (show 0 ≤ k by omega), Int.tmod_eq_emod_of_nonneg (by omega)]; omega
theorem tmod_bd (n : Int) : -1000000000 < n.tmod 1000000000 ∧ n.tmod 1000000000 < 1000000000 := by
  by_cases h : 0 ≤ n
  · rw [Int.tmod_eq_emod_of_nonneg h]; omega
  · obtain ⟨k, rfl⟩ : ∃ k, n = -k := ⟨-n, by omega⟩
    rw [Int.neg_tmod, Int.tmod_eq_emod_of_nonneg (show 0 ≤ k by omega)]; omega
theorem impl_floorMod (n : Int) (w : World) :
    Calls Try.prog 165 #[.int .i64 n, .int .i64 1000000000] w fun e w' => e = .returned (.int .i64 (n % 1000000000)) ∧ w = w' := by
  have hb := tmod_bd n
  go_enter Try.func165, Try.ntmps165
  go_wp2_with fail
  go_ret
  exact ⟨ret_int ((Int.tmod_eq_emod_of_nonneg (a := n.tmod 1000000000 + 1000000000) (by omega)).symm.trans (tmod_floor n)), rfl⟩

/-- What a product with one limb ends in: the whole list, in memory of its own. -/
def TimesEnd (t : Int) (L : Nat) (w w' : World) (e : Ending) : Prop := ∃ r g, e = .returned (.slice (some ⟨g, 0, none⟩) L L) ∧ g = w.heap.size ∧ r.length = L ∧ InR r ∧ val r = t ∧ w'.ownsRow w.heap.size 3 1 (.slice (some ⟨g, 0, none⟩) L L) L (r.map (.int .i64)) ∧ Below w.heap.size w w'
set_option maxHeartbeats 800000 in
theorem impl_timesLimb (A1 : Option Addr) (n1 c1 : Nat) (xs : List Int) (s : Int) (w : World) (hn : xs.length = n1) (hb1 : n1 ≤ 1048576) (hr : Reads w A1 (xs.map (.int .i64))) (k1 : InR xs) (s0 : 0 ≤ s) (s1 : s ≤ 999999999) :
    Calls Try.prog 154 #[.slice A1 n1 c1, .int .i64 s] w fun e w' => TimesEnd (val xs * s) (n1 + 1) w w' e := by
  obtain ⟨i0, hi, hz0, hz1, hz2⟩ := info_parts Try.infoI
  have Hn := Lib.hid hn
  have Hr := Lib.hid hr
  have K1 := Lib.hid k1
  clear hn hr k1
  go_enter Try.func154, Try.ntmps154
  go_wp2_with (refine wpList_make_full _ rfl _ _ 22 rfl w.heap.size 3 i0 (.int .i64 0) 1 Try.underlying22 hi hz0 hz1 _ _ _ _ (n1 + 1) rfl rfl (by omega) (by omega) (by rw [hz2]; omega) (by unfold maxLen; omega) (Nat.le_refl _) ?_)
  have hrep : (madeCells #[Value.int .i64 0] (n1 + 1)).toList = (List.replicate (n1 + 1) (0 : Int)).map (.int .i64) := by simp [toList_madeCells_one]
  intro w1 ho hg
  have O1 : Hid (w1.ownsRow w.heap.size 3 1 (.slice (some ⟨w.heap.size, 0, none⟩) (n1 + 1) (n1 + 1)) (n1 + 1) ((List.replicate (n1 + 1) (0 : Int)).map (.int .i64))) := by
    unfold Hid; rw [← hrep]; exact ho
  have B1 := Lib.hid ((Below.refl w.heap.size w).grown hg (Nat.le_refl _) (fun k hk => by cases hk))
  have M1 : Hid (TimesAt xs s 0 0 (List.replicate (n1 + 1) 0)) := by unfold Hid; rw [← Hn.out]; exact TimesAt.start xs s
  clear ho hg hrep
  go_wp2_with fail
  go_loopw [6, 14] (fun x y wr => ∃ (k : Nat) (cy : Int) (os : List Int), k ≤ n1 ∧ y = .int .i64 (k : Int) ∧ x = .int .i64 cy ∧ 0 ≤ cy ∧ cy ≤ 999999999 ∧ Hid (TimesAt xs s k cy os) ∧ Hid (wr.ownsRow w.heap.size 3 1 (.slice (some ⟨w.heap.size, 0, none⟩) (n1 + 1) (n1 + 1)) (n1 + 1) (os.map (.int .i64))) ∧ Hid (Below w.heap.size w wr)) (fun _ y _ => n1 - (intOf y).toNat)
  case atStart => exact ⟨0, 0, _, Nat.zero_le _, rfl, rfl, by omega, by omega, M1, O1, B1⟩
  case round =>
    obtain ⟨k, cy, os, hk, rfl, rfl, c0, c9, hs, ho, hb⟩ := hrel
    obtain ⟨wo, rfl⟩ : ∃ wo : World, wo = wr := ⟨_, rfl⟩
    have hk0 : (0 : Int) ≤ (k : Int) := by omega
    have hlen : os.length = n1 + 1 := by rw [hs.out.1, Hn.out]
    have Hlen := Lib.hid hlen
    by_cases hlt : k < n1
    · have hix : k < xs.length := by rw [Hn.out]; exact hlt
      obtain ⟨b1, o1, rfl, hbs1, hc1⟩ := (Hr.out.below hb.out).at_ (by simp; omega)
      obtain ⟨x, hx⟩ : ∃ x, x = xs[k] := ⟨_, rfl⟩
      have g1 : wo.cell? ⟨b1, o1 + k, none⟩ = some (.int .i64 x) := (hc1 k (by simpa using hix)).trans (by simp [hx])
      have hxr := K1.out _ (List.getElem_mem hix)
      rw [← hx] at hxr
      obtain ⟨x0, x1⟩ := hxr
      obtain ⟨p0, p1⟩ := prod_bd x0 x1 s0 s1
      have hnx := Lib.hid (hs.out.step hix hx (by omega) (by omega))
      have hS : 0 ≤ (cy + x * s) / 1000000000 ∧ (cy + x * s) / 1000000000 ≤ 999999999 := by omega
      have HS := Lib.hid hS
      have hio : k < os.length := by omega
      obtain ⟨o, hoo⟩ : ∃ o, o = os[k] := ⟨_, rfl⟩
      have g3 : wo.cell? ⟨w.heap.size, k, none⟩ = some (.int .i64 o) := by
        rw [ho.out.cellAt k (by omega)]; simp [hio, hoo]
      have hfr := ho.out.frozenAt k
      have hst := ho.out.stored k (.int .i64 ((cy + x * s) % 1000000000))
      rw [map_set_int] at hst
      have ho2 := Lib.hid hst.1
      have hb2 := Lib.hid (below_marked hb.out ho.out hst.2 (Nat.le_refl _) hb.out.size)
      have hkn : (k : Int) < (n1 : Int) := by omega
      clear hx hoo hst hS hc1 hlen
      go_wp2_with fail
      go_roundw
      case rel => exact ⟨k + 1, _, _, by omega, by go_num, rfl, HS.out.1, HS.out.2, hnx, ho2, hb2⟩
      case measure => simp [intOf]; omega
    · obtain rfl : k = n1 := by omega
      have hs2 := hs.out
      rw [← Hn.out] at hs2
      have hv := Lib.hid hs2.last
      rw [Hn.out] at hv
      have hio : k < os.length := by omega
      obtain ⟨o, hoo⟩ : ∃ o, o = os[k] := ⟨_, rfl⟩
      have g3 : wo.cell? ⟨w.heap.size, k, none⟩ = some (.int .i64 o) := by
        rw [ho.out.cellAt k (by omega)]; simp [hio, hoo]
      have hfr := ho.out.frozenAt k
      have hst := ho.out.stored k (.int .i64 cy)
      rw [map_set_int] at hst
      have ho2 := Lib.hid hst.1
      have hb2 := Lib.hid (below_marked hb.out ho.out hst.2 (Nat.le_refl _) hb.out.size)
      clear hoo hst hs2 hlen
      go_wp2_with fail
      go_ret
      exact ⟨os.set k cy, _, rfl, rfl, hv.out.2.2, hv.out.1, hv.out.2.1, ho2.out, hb2.out⟩

/-- What a quotient by one limb ends in. -/
def OverEnd (t d : Int) (B : Nat) (w w' : World) (e : Ending) : Prop := ∃ r A c rest, e = .returned (.slice A r.length c) ∧ Canon r ∧ val r * d + rest = t ∧ 0 ≤ rest ∧ rest < d ∧ r.length ≤ B ∧ w'.ownsRow w.heap.size 3 1 (.slice A r.length c) r.length (r.map (.int .i64)) ∧ Below w.heap.size w w'
set_option maxHeartbeats 800000 in
theorem impl_overLimb (A1 : Option Addr) (n1 c1 : Nat) (xs : List Int) (d : Int) (w : World) (hn : xs.length = n1) (hb1 : n1 ≤ 1048576) (hr : Reads w A1 (xs.map (.int .i64))) (k1 : InR xs) (d0 : 1 ≤ d) (d1 : d ≤ 999999999) :
    Calls Try.prog 156 #[.slice A1 n1 c1, .int .i64 d] w fun e w' => OverEnd (val xs) d n1 w w' e := by
  obtain ⟨i0, hi, hz0, hz1, hz2⟩ := info_parts Try.infoI
  have Hn := Lib.hid hn
  have Hr := Lib.hid hr
  have K1 := Lib.hid k1
  clear hn hr k1
  go_enter Try.func156, Try.ntmps156
  go_wp2_with (refine wpList_make_full _ rfl _ _ 22 rfl w.heap.size 3 i0 (.int .i64 0) 1 Try.underlying22 hi hz0 hz1 _ _ _ _ n1 rfl rfl rfl rfl (by rw [hz2]; omega) (by unfold maxLen; omega) (Nat.le_refl _) ?_)
  have hrep : (madeCells #[Value.int .i64 0] n1).toList = (List.replicate n1 (0 : Int)).map (.int .i64) := by simp [toList_madeCells_one]
  intro w1 ho hg
  have O1 : Hid (w1.ownsRow w.heap.size 3 1 (.slice (some ⟨w.heap.size, 0, none⟩) n1 n1) n1 ((List.replicate n1 (0 : Int)).map (.int .i64))) := by
    unfold Hid; rw [← hrep]; simpa using ho
  have B1 := Lib.hid ((Below.refl w.heap.size w).grown hg (Nat.le_refl _) (fun k hk => by cases hk))
  have M1 : Hid (SmallAt xs d (n1 - 0) 0 (List.replicate n1 0)) := by have := SmallAt.start xs d0; unfold Hid; rw [Hn.out] at this; exact this
  clear ho hg hrep
  go_wp2_with fail
  go_loopw [6, 14] (fun x y wr => ∃ (k : Nat) (rest : Int) (os : List Int), k ≤ n1 ∧ y = .int .i64 (k : Int) ∧ x = .int .i64 rest ∧ 0 ≤ rest ∧ rest < d ∧ Hid (SmallAt xs d (n1 - k) rest os) ∧ Hid (wr.ownsRow w.heap.size 3 1 (.slice (some ⟨w.heap.size, 0, none⟩) n1 n1) n1 (os.map (.int .i64))) ∧ Hid (Below w.heap.size w wr)) (fun _ y _ => n1 - (intOf y).toNat)
  case atStart => exact ⟨0, 0, _, Nat.zero_le _, rfl, rfl, by omega, by omega, M1, O1, B1⟩
  case round =>
    obtain ⟨k, rest, os, hk, rfl, rfl, r0, r1, hs, ho, hb⟩ := hrel
    by_cases h0 : k = n1
    · subst h0
      have hs2 := hs.out
      rw [Nat.sub_self] at hs2
      have hv : Hid (InR os ∧ val os * d + rest = val xs ∧ os.length = k) := ⟨hs2.2.1, by have := hs2.2.2.1; rwa [List.drop_zero, List.drop_zero] at this, hs2.1.trans Hn.out⟩
      clear hs2
      go_wp2_with fail
      refine (impl_trim w.heap.size _ k k os _ hv.out.2.2 (by omega) ho.out).mono ?_
      rintro e w' ⟨⟨m, rfl, ht⟩, rfl⟩
      obtain ⟨hcn, hvl⟩ := ht.canon hv.out.1
      have hmm : m ≤ k := by have := ht.1; rwa [hv.out.2.2] at this
      have hlm : (os.take m).length = m := by have := ht.1; simp; omega
      have hown := own_take ho.out hmm
      rw [← List.map_take] at hown
      have hend : Hid (OverEnd (val xs) d k w wr (.returned (.slice (some ⟨w.heap.size, 0, none⟩) m k))) :=
        ⟨os.take m, _, _, rest, by rw [hlm], hcn, by rw [hvl]; exact hv.out.2.1, r0, r1, by rw [hlm]; exact hmm, by rw [hlm]; exact hown, hb.out⟩
      clear ht hcn hvl hlm hown
      go_wp2_with fail
      go_ret
      exact hend.out
    · obtain ⟨i, hi9⟩ : ∃ i, n1 - k = i + 1 := ⟨n1 - k - 1, by omega⟩
      obtain ⟨wo, rfl⟩ : ∃ wo : World, wo = wr := ⟨_, rfl⟩
      have hix : i < xs.length := by rw [Hn.out]; omega
      obtain ⟨b1, o1, rfl, hbs1, hc1⟩ := (Hr.out.below hb.out).at_ (by simp; omega)
      obtain ⟨x, hx⟩ : ∃ x, x = xs[i] := ⟨_, rfl⟩
      have g1 : wo.cell? ⟨b1, o1 + i, none⟩ = some (.int .i64 x) := (hc1 i (by simpa using hix)).trans (by simp [hx])
      have hsi : (n1 : Int) - 1 - (k : Int) = (i : Int) := by omega
      have hxr := K1.out _ (List.getElem_mem hix)
      rw [← hx] at hxr
      obtain ⟨x0, x1⟩ := hxr
      have hs2 := hs.out
      rw [hi9] at hs2
      obtain ⟨hnx, m0, m1⟩ := hs2.step hix hx x0 x1 d0 d1
      rw [show i = n1 - (k + 1) by omega] at hnx
      rw [show n1 - (k + 1) = i by omega] at hnx
      have Hnx : Hid (SmallAt xs d (n1 - (k + 1)) ((rest * 1000000000 + x) % d) (os.set i ((rest * 1000000000 + x) / d))) := by
        unfold Hid; rw [show n1 - (k + 1) = i by omega]; exact hnx
      have hio : i < os.length := by rw [hs.out.1]; exact hix
      obtain ⟨o, hoo⟩ : ∃ o, o = os[i] := ⟨_, rfl⟩
      have g3 : wo.cell? ⟨w.heap.size, i, none⟩ = some (.int .i64 o) := by
        rw [ho.out.cellAt i (by omega)]; simp [hio, hoo]
      have hfr := ho.out.frozenAt i
      have hst := ho.out.stored i (.int .i64 ((rest * 1000000000 + x) / d))
      rw [map_set_int] at hst
      have ho2 := Lib.hid hst.1
      have hb2 := Lib.hid (below_marked hb.out ho.out hst.2 (Nat.le_refl _) hb.out.size)
      have hi0 : (0 : Int) ≤ (i : Int) := by omega
      have hi1 : (i : Int) < (n1 : Int) := by omega
      have hk1 : (k : Int) < (n1 : Int) := by omega
      clear hc1 hx hnx hoo hst h0 hs2 hi9
      go_wp2_with fail
      go_roundw
      case rel => exact ⟨k + 1, _, _, by omega, by go_num, rfl, m0, m1, Hnx, ho2, hb2⟩
      case measure => simp [intOf]; omega

/-- What a sum in place ends in. -/
def PlusEnd (g N c : Nat) (P X ds : List Int) (n base : Nat) (w w' : World) (e : Ending) : Prop :=
  ∃ cy X', e = .returned (.int .i64 cy) ∧ 0 ≤ cy ∧ cy ≤ 1 ∧ X'.length = X.length ∧ X'.drop n = X.drop n ∧ InR (X'.take n) ∧ val X' + pw n * cy = val X + val ds ∧ w'.ownsRow base 3 1 (.slice (some ⟨g, 0, none⟩) N c) N ((P ++ X').map (.int .i64)) ∧ w.grownBy w' (some g)
/-- A sum in place under way. -/
def PlusMem (g N c : Nat) (P X ds : List Int) (n base : Nat) (w wr : World) (i : Nat) (cy : Int) (X' : List Int) : Prop :=
  PlusAt (val X) ds n i cy X' ∧ X'.length = X.length ∧ X'.drop n = X.drop n ∧ wr.ownsRow base 3 1 (.slice (some ⟨g, 0, none⟩) N c) N ((P ++ X').map (.int .i64)) ∧ w.grownBy wr (some g)
set_option maxHeartbeats 800000 in
theorem impl_addTo (g N c base k n cw : Nat) (P X ds : List Int) (A2 : Option Addr) (c2 : Nat) (w : World) (ho : w.ownsRow base 3 1 (.slice (some ⟨g, 0, none⟩) N c) N ((P ++ X).map (.int .i64))) (hP : P.length = k) (hN : P.length + X.length = N) (hnX : n ≤ X.length) (hN60 : N ≤ 1048576)
    (hX : InR (X.take n)) (hd : ds.length = n) (hdr : InR ds) (hr : Reads w A2 (ds.map (.int .i64))) (hne : ∀ b o, A2 = some ⟨b, o, none⟩ → b ≠ g) :
    Calls Try.prog 166 #[.slice (some ⟨g, k, none⟩) n cw, .slice A2 n c2] w fun e w' => PlusEnd g N c P X ds n base w w' e := by
  subst hP
  have Hd := Lib.hid hd
  have Hdr := Lib.hid hdr
  have Hr := Lib.hid hr
  have Hne := Lib.hid hne
  have HN := Lib.hid hN
  have HnX := Lib.hid hnX
  have M1 : Hid (PlusMem g N c P X ds n base w w 0 0 X) := ⟨⟨hX, by simp [val], by omega, by omega⟩, rfl, rfl, ho, World.grownBy.refl _ _⟩
  have hn60 : n ≤ 1048576 := by omega
  clear hd hdr hr hne ho hX hN hnX
  go_enter Try.func166, Try.ntmps166
  go_wp2_with fail
  go_loopw [5, 9] (fun x y wr => ∃ (i : Nat) (cy : Int) (X' : List Int), i ≤ n ∧ y = .int .i64 (i : Int) ∧ x = .int .i64 cy ∧ 0 ≤ cy ∧ cy ≤ 1 ∧ Hid (PlusMem g N c P X ds n base w wr i cy X')) (fun _ y _ => n - (intOf y).toNat)
  case atStart => exact ⟨0, 0, X, Nat.zero_le _, rfl, rfl, by omega, by omega, M1⟩
  case round =>
    obtain ⟨i, cy, X', hi, rfl, rfl, c0, c9, hm⟩ := hrel
    obtain ⟨wo, rfl⟩ : ∃ wo : World, wo = wr := ⟨_, rfl⟩
    have hi0 : (0 : Int) ≤ (i : Int) := by omega
    by_cases hlt : i < n
    · obtain ⟨hp, hl, hdrop, ho, hg⟩ := hm.out
      have hid : i < ds.length := by rw [Hd.out]; exact hlt
      have hiX : i < X'.length := by rw [hl]; have := HnX.out; omega
      have hlN := HN.out
      obtain ⟨b2, o2, rfl, hbs2, hc2⟩ := (Hr.out.grown hg Hne.out).at_ (by simp; omega)
      obtain ⟨d, hdd⟩ : ∃ d, d = ds[i] := ⟨_, rfl⟩
      have g2 : wo.cell? ⟨b2, o2 + i, none⟩ = some (.int .i64 d) := (hc2 i (by simpa using hid)).trans (by simp [hdd])
      obtain ⟨o, hoo⟩ : ∃ o, o = X'[i] := ⟨_, rfl⟩
      have g3 : wo.cell? ⟨g, P.length + i, none⟩ = some (.int .i64 o) := by
        rw [ho.cellAt (P.length + i) (by omega), map_append_get _ _ _ hiX, hoo]
      obtain ⟨hnx, q0, q1, d0, d1⟩ := hp.step hlt hiX hoo hid hdd Hdr.out
      have hfr := ho.frozenAt (P.length + i)
      have hst := ho.stored (P.length + i) (.int .i64 ((cy + (o + d)) % 1000000000))
      rw [map_append_set] at hst
      have hS : 0 ≤ (cy + (o + d)) / 1000000000 ∧ (cy + (o + d)) / 1000000000 ≤ 1 := by omega
      have HS := Lib.hid hS
      have hfin : Hid (PlusMem g N c P X ds n base w (wo.setCell ⟨g, P.length + i, none⟩ (.int .i64 ((cy + (o + d)) % 1000000000))) (i + 1) ((cy + (o + d)) / 1000000000) (X'.set i ((cy + (o + d)) % 1000000000))) :=
        ⟨hnx, by simpa using hl, by rw [List.drop_set_of_lt hlt]; exact hdrop, hst.1, grownBy_trans hg hst.2⟩
      have hi1 : (i : Int) < (n : Int) := by omega
      clear hc2 hdd hoo hst hnx hp hl hdrop ho hg hS hlN hm
      go_wp2_with fail
      go_quiet (fail)
      go_wp2_with fail
      go_roundw
      case rel =>
        obtain ⟨f1, f2, f3, f4, f5⟩ := hfin.out
        exact ⟨i + 1, _, _, by omega, by go_num, rfl, HS.out.1, HS.out.2, ⟨f1, f2, f3, f4, ⟨f5.os, f5.tape, f5.output, f5.size, f5.block⟩⟩⟩
      case measure => simp [intOf]; omega
    · obtain rfl : i = n := by omega
      obtain ⟨⟨p1, p2, p3, p4⟩, hl, hdrop, ho, hg⟩ := hm.out
      rw [List.take_of_length_le (by rw [Hd.out]; exact Nat.le_refl _)] at p2
      have hfin : Hid (PlusEnd g N c P X ds i base w wo (.returned (.int .i64 cy))) := ⟨cy, X', rfl, p3, p4, hl, hdrop, p1, p2, ho, hg⟩
      clear p1 p2 hl hdrop ho hg hm
      go_wp2_with fail
      go_ret
      exact hfin.out
end Go.Proofs.Ytjggdbakbhacjaa
