/- Contracts of matrices, by the program: rows and columns exchanged. -/
import Derived.Test.YtdehcddjkcpnfaaGreatMatI1
import Derived.Test.YtdehcddjkcpnfaaGreatMatS5
namespace Go.Proofs.YtdehcddjkcpnfaaGreat
set_option maxRecDepth 100000
open Go.RowKit

/-- The elements at the places of which S tells are there, the others are zero values. -/
noncomputable def part (zs : List RD) (S : Nat → Prop) : List RD := open Classical in (List.range zs.length).map fun t => if S t then (zs[t]?).getD RD.zero else RD.zero
theorem part_length (zs : List RD) (S : Nat → Prop) : (part zs S).length = zs.length := by simp [part]
theorem part_yes {zs : List RD} {S : Nat → Prop} {t : Nat} (h : S t) : (part zs S)[t]? = zs[t]? := by
  by_cases ht : t < zs.length
  · unfold part
    rw [List.getElem?_map, List.getElem?_range ht, Option.map_some, if_pos h, List.getElem?_eq_getElem ht, Option.getD_some]
  · rw [List.getElem?_eq_none (by rw [part_length]; omega), List.getElem?_eq_none (by omega)]
theorem part_not {zs : List RD} {S : Nat → Prop} {t : Nat} (h : ¬ S t) (ht : t < zs.length) : (part zs S)[t]? = some RD.zero := by
  unfold part
  rw [List.getElem?_map, List.getElem?_range ht, Option.map_some, if_neg h]
theorem part_none {zs : List RD} {S : Nat → Prop} {N : Nat} (hN : zs.length = N) (h : ∀ t, t < N → ¬ S t) : part zs S = List.replicate N RD.zero := by
  subst hN
  apply List.ext_getElem?
  intro t
  by_cases ht : t < zs.length
  · rw [part_not (h t ht) ht, List.getElem?_replicate, if_pos ht]
  · rw [List.getElem?_eq_none (by rw [part_length]; omega), List.getElem?_eq_none (by simp; omega)]
theorem part_all {zs : List RD} {S : Nat → Prop} (h : ∀ t, t < zs.length → S t) : part zs S = zs := by
  apply List.ext_getElem?
  intro t
  by_cases ht : t < zs.length
  · exact part_yes (h t ht)
  · rw [List.getElem?_eq_none (by rw [part_length]; omega), List.getElem?_eq_none (by omega)]
theorem part_congr {zs : List RD} {S T : Nat → Prop} (h : ∀ t, t < zs.length → (S t ↔ T t)) : part zs S = part zs T := by
  apply List.ext_getElem?
  intro t
  by_cases ht : t < zs.length
  · by_cases hs : S t
    · rw [part_yes hs, part_yes ((h t ht).1 hs)]
    · rw [part_not hs ht, part_not (fun k => hs ((h t ht).2 k)) ht]
  · rw [List.getElem?_eq_none (by rw [part_length]; omega), List.getElem?_eq_none (by rw [part_length]; omega)]
theorem part_set {zs : List RD} {S : Nat → Prop} {t : Nat} {r : RD} (h : zs[t]? = some r) : (part zs S).set t r = part zs fun u => S u ∨ u = t := by
  obtain ⟨hlt, _⟩ := List.getElem?_eq_some_iff.1 h
  apply List.ext_getElem?
  intro u
  rw [List.getElem?_set]
  by_cases e : t = u
  · subst e
    rw [if_pos rfl, if_pos (by rw [part_length]; exact hlt), part_yes (S := fun u => S u ∨ u = t) (.inr rfl), h]
  · rw [if_neg e]
    by_cases hu : u < zs.length
    · by_cases hs : S u
      · rw [part_yes hs, part_yes (S := fun u => S u ∨ u = t) (.inl hs)]
      · rw [part_not hs hu, part_not (S := fun u => S u ∨ u = t) (fun k => k.elim hs fun h => e h.symm) hu]
    · rw [List.getElem?_eq_none (by rw [part_length]; omega), List.getElem?_eq_none (by rw [part_length]; omega)]
/-- Rows before i are done, and of row i the first j elements. -/
def TDone (P i j t : Nat) : Prop := t % P < i ∨ (t % P = i ∧ t / P < j)
theorem tdone_zero {P t : Nat} : ¬ TDone P 0 0 t := fun h => by
  rcases h with h | ⟨_, h⟩
  · exact absurd h (Nat.not_lt_zero _)
  · exact absurd h (Nat.not_lt_zero _)
theorem tdone_step {P i j t : Nat} (hi : i < P) : (TDone P i j t ∨ t = j * P + i) ↔ TDone P i (j + 1) t := by
  constructor
  · rintro (h | rfl)
    · exact h.elim .inl fun h => .inr ⟨h.1, by have := h.2; exact Nat.lt_succ_of_lt this⟩
    · exact .inr ⟨mod_of hi, by rw [div_of hi]; exact Nat.lt_succ_self _⟩
  · intro h
    rcases h with h | ⟨h1, h2⟩
    · exact .inl (.inl h)
    · rcases Nat.lt_or_ge (t / P) j with h3 | h3
      · exact .inl (.inr ⟨h1, h3⟩)
      · right
        have h4 : t / P = j := Nat.le_antisymm (Nat.le_of_lt_succ h2) h3
        have h5 := Nat.div_add_mod t P
        rw [h4, h1, Nat.mul_comm] at h5
        exact h5.symm
theorem tdone_row {P K i t : Nat} (hP : 0 < P) (ht : t < K * P) : TDone P i K t ↔ TDone P (i + 1) 0 t := by
  have h : t / P < K := by rw [Nat.div_lt_iff_lt_mul hP]; exact ht
  constructor
  · rintro (h1 | h1)
    · exact .inl (Nat.lt_succ_of_lt h1)
    · exact .inl (by rw [h1.1]; exact Nat.lt_succ_self _)
  · rintro (h1 | h1)
    · rcases Nat.lt_or_ge (t % P) i with h2 | h2
      · exact .inl h2
      · exact .inr ⟨Nat.le_antisymm (Nat.le_of_lt_succ h1) h2, h⟩
    · exact absurd h1.2 (Nat.not_lt_zero _)
theorem tdone_all {P t : Nat} (hP : 0 < P) : TDone P P 0 t := .inl (Nat.mod_lt t hP)
theorem has_part {zs : List RD} {S : Nat → Prop} {L : List El} {t : Nat} {g : Bool} {r d : List Int} {v u : Value} (h : Has L (part zs S)) (hr : zs[t]? = some ⟨g, r, d⟩) :
    Has (L.set t ⟨g, v, r.length, r.map (.int .i64), u, d.length, d.map (.int .i64)⟩) (part zs fun u => S u ∨ u = t) := by
  rw [← part_set hr]
  exact h.set t ⟨rfl, rfl, rfl, rfl, rfl⟩
set_option maxHeartbeats 6400000 in
theorem impl_transpose0 (p k : Int) (A : Option Addr) (n c : Nat) (rs : List RD) (w : World) (h : InV w A n rs) (hp : -9223372036854775808 ≤ p ∧ p ≤ 9223372036854775807) (hk : -9223372036854775808 ≤ k ∧ k ≤ 9223372036854775807) (hc : n ≤ c) :
    Calls Tryz.prog 41 #[.agg #[.int .i64 p, .int .i64 k, .slice A n c]] w fun e w' => MatEnd (TransposeIs p k rs) w w' e := by
  obtain ⟨W0, hW0⟩ : ∃ W, W = ((w.alloc (.cells #[.int .i64 p, .int .i64 k, .slice A n c] 47)).alloc (.cells #[.int .i64 0, .int .i64 0, .slice none 0 0] 47)) := ⟨_, rfl⟩
  have hm0_0 : Hid (Box W0 (w.heap.size) 47 #[.int .i64 p, .int .i64 k, .slice A n c]) := by rw [hW0]; exact ((Box.at' (by simp)).alloc _)
  have ht_0 : Hid (Box W0 (w.heap.size + 1) 47 #[.int .i64 0, .int .i64 0, .slice none 0 0]) := by rw [hW0]; exact (Box.at' (by simp))
  have BW_0 : Hid (Below w.heap.size w W0) := by rw [hW0]; exact (((Below.refl w.heap.size w).alloc (by simp) _).alloc (by simp) _)
  have hsz0 : w.heap.size + 1 + 1 ≤ W0.heap.size := by rw [hW0]; simp
  have hn := h.2.1
  have HV := Lib.hid (h.below BW_0.out)
  clear h
  go_enter Tryz.func41, Tryz.ntmps41
  go_wp2_with fail
  rw [← hW0]
  clear hW0
  refine (impl_matrixOk0 p k A n c rs _ HV.out hp hk hc).mono ?_
  rintro e w1 ⟨b, rfl, hq, hb⟩
  have hm0_1 := Lib.hid (hm0_0.out.below hb hm0_0.out.lt)
  have ht_1 := Lib.hid (ht_0.out.below hb ht_0.out.lt)
  have BW_1 := Lib.hid (BW_0.out.trans (hb.mono BW_0.out.size))
  replace HV := Lib.hid (HV.out.below hb)
  clear hb
  have ehm00 := hm0_1.out.cell 0
  have ehm01 := hm0_1.out.cell 1
  have ehm02 := hm0_1.out.cell 2
  have eht0 := ht_1.out.cell 0
  have eht1 := ht_1.out.cell 1
  have eht2 := ht_1.out.cell 2
  have fht0 := ht_1.out.free 0
  have fht1 := ht_1.out.free 1
  have fht2 := ht_1.out.free 2
  simp at ehm00 ehm01 ehm02 eht0 eht1 eht2
  cases b
  case false =>
    have HZ : Hid (TransposeIs p k rs 0 0 []) := matIs_no fun h => (by have h1 := hq.2 h; cases h1)
    clear hq
    go_wp2_with fail
    refine bodyPost_ret (v := .agg #[.int .i64 0, .int .i64 0, .slice none 0 0]) (by simp [results, Tryz.results41, eht0, eht1, eht2, go_sem]) rfl ?_
    exact matEnd_zero HZ.out BW_1.out (by omega) _ _ _
  have HM := Lib.hid (hq.1 rfl)
  clear hq
  have hp2 := HM.out.1
  have hk2 := HM.out.2.1
  obtain ⟨P, rfl⟩ : ∃ P : Nat, p = P := ⟨p.toNat, by omega⟩
  obtain ⟨K, rfl⟩ : ∃ K : Nat, k = K := ⟨k.toNat, by omega⟩
  have hP24 : P ≤ 24 := by omega
  have hK24 : K ≤ 24 := by omega
  obtain ⟨zs, hzs⟩ : ∃ zs, zs = trans P K rs := ⟨_, rfl⟩
  have HZ := Lib.hid hzs
  obtain ⟨N, hN⟩ : ∃ N, N = K * P := ⟨_, rfl⟩
  have HN := Lib.hid hN
  have HZL : Hid (zs.length = N) := by unfold Hid; rw [hzs, trans_length, hN]
  have hN5 : N ≤ 576 := by rw [hN]; exact mul_le_576 hK24 hP24
  have HNPK : Hid (n = P * K) := by have h1 := HM.out.plen; rw [HV.out.1] at h1; exact h1
  have hlt0 := hm0_1.out.lt
  have hltt := ht_1.out.lt
  have hsz1 := BW_1.out.size
  clear hzs
  go_wp2_with fail
  clear ehm00 ehm01 ehm02 eht0 fht0 eht1 fht1 eht2 fht2
  refine (impl_newMatrix K P _ hK24 hP24).mono ?_
  rintro e w2 ⟨G, rfl, ho, hb⟩
  rw [← hN] at ho ⊢
  clear hN
  have HB2 := Lib.hid hb
  obtain ⟨W3, hW3⟩ : ∃ W, W = w2.alloc (.cells #[.int .i64 K, .int .i64 P, .slice (some ⟨G, 0, none⟩) N N] 47) := ⟨_, rfl⟩
  have hbx : Below w2.heap.size w2 W3 := by rw [hW3]; exact (Below.refl _ _).alloc (Nat.le_refl _) _
  have X_3 : Hid (Box W3 w2.heap.size 47 #[.int .i64 K, .int .i64 P, .slice (some ⟨G, 0, none⟩) N N]) := by rw [hW3]; exact Box.new _ _ _
  have O3 := Lib.hid (ho.below hbx)
  have BZ : Hid (Below w1.heap.size w1 W3) := HB2.out.trans (hbx.mono HB2.out.size)
  have HG : Hid (0 < N → w1.heap.size ≤ G ∧ G < w2.heap.size) := fun h0 => by
    obtain ⟨g, hg, h1, h2⟩ := own_at' ho.2.1 h0
    cases hg; exact ⟨h1, h2⟩
  have hw12 := HB2.out.size
  have em := (hm0_1.out.below BZ.out hm0_1.out.lt)
  rw [hW3] at em
  have em0 := em.cell 0
  have em1 := em.cell 1
  have em2 := em.cell 2
  simp at em0 em1 em2
  clear ho hb hbx em
  go_wp2_with fail
  rw [← hW3]
  clear hW3 em0 em1 em2
  go_loopw [18] (fun y wr => ∃ (i : Nat) (L : List El), i ≤ P ∧ y = .int .i64 i ∧ Hid (OwnV wr w1.heap.size (.slice (some ⟨G, 0, none⟩) N N) N L) ∧ Hid (Has L (part zs (TDone P i 0))) ∧ Hid (Box wr w2.heap.size 47 #[.int .i64 K, .int .i64 P, .slice (some ⟨G, 0, none⟩) N N]) ∧ Hid (Below w1.heap.size w1 wr)) (fun y _ => P - (intOf y).toNat)
  case atStart => exact ⟨0, _, Nat.zero_le _, rfl, O3, by rw [part_none HZL.out fun t _ => tdone_zero]; exact has_zeros N, X_3, BZ⟩
  case round =>
    obtain ⟨i, L, hle, rfl, ho, hh, hX, hb⟩ := hrel
    by_cases hlt : i < P
    · obtain ⟨wo, rfl⟩ : ∃ wo : World, wo = wr := ⟨_, rfl⟩
      have hi0 : (0 : Int) ≤ (i : Int) := by omega
      have hi1 : (i : Int) < (P : Int) := by omega
      have hir : i * K + K ≤ n := by rw [HNPK.out]; exact row_le hlt
      have hm0_o := Lib.hid (hm0_1.out.below hb.out hm0_1.out.lt)
      have ehm00 := hm0_o.out.cell 0
      have ehm01 := hm0_o.out.cell 1
      have ehm02 := hm0_o.out.cell 2
      simp at ehm00 ehm01 ehm02
      go_wp2_with fail
      clear ehm00 ehm01 ehm02
      refine (impl_rowAt P K i A n c _ hir hn hc HV.out.some_ (by omega) hK24).mono ?_
      rintro e w3 ⟨A', c', rfl, _, hat, hb3⟩
      have HVR : Hid (InV w1 A' K (mrow K rs i)) := HV.out.row hat hir hK24
      have O4 := Lib.hid (ho.out.below hb3)
      have X_4 := Lib.hid (hX.out.below hb3 hX.out.lt)
      have B4 := Lib.hid (hb.out.trans (hb3.mono hb.out.size))
      clear hat hb3 ho hX hb
      go_wp2_with fail
      go_loopw [25] (fun y wr => ∃ (j : Nat) (L : List El), j ≤ K ∧ y = .int .i64 j ∧ Hid (OwnV wr w1.heap.size (.slice (some ⟨G, 0, none⟩) N N) N L) ∧ Hid (Has L (part zs (TDone P i j))) ∧ Hid (Box wr w2.heap.size 47 #[.int .i64 K, .int .i64 P, .slice (some ⟨G, 0, none⟩) N N]) ∧ Hid (Below w1.heap.size w1 wr)) (fun y _ => K - (intOf y).toNat)
      case atStart => exact ⟨0, L, Nat.zero_le _, rfl, O4, hh, X_4, B4⟩
      case round =>
        clear hh O4 X_4 B4
        obtain ⟨j, L, hlej, rfl, ho, hh, hX, hb⟩ := hrel
        obtain ⟨wi, rfl⟩ : ∃ wi : World, wi = wr := ⟨_, rfl⟩
        by_cases hltj : j < K
        · obtain ⟨b2, o2, rfl, hb2, r2, hr2, A4, n4, c4, B4, m4, d4, at2, i2, ra2, j2, rb2⟩ := HVR.out.atB hb.out j hltj
          have hj0 : (0 : Int) ≤ (j : Int) := by omega
          have hj1 : (j : Int) < (K : Int) := by omega
          have hr3 : rs[i * K + j]? = some r2 := by rw [← mrow_at (rs := rs) (i := i) hltj]; exact hr2
          have hrk : r2.ok := HM.out.all _ (List.mem_of_getElem? hr3)
          have hx24 : r2.xs.length ≤ 24 := hrk.2.2.2.2.1
          have hd24 : r2.ds.length ≤ 24 := hrk.2.2.2.2.2
          obtain ⟨v, hv⟩ : ∃ v, v = j * P := ⟨_, rfl⟩
          have hvr : v + P ≤ N := by rw [hv, HN.out]; exact row_le hltj
          have HVJ := Lib.hid hv
          have HZI : Hid (zs[v + i]? = some ⟨r2.g, r2.xs, r2.ds⟩) := by unfold Hid; rw [hv, HZ.out, trans_get HM.out.plen hlt hltj]; exact hr3
          have HST : Hid (∀ t, t < zs.length → ((TDone P i j t ∨ t = v + i) ↔ TDone P i (j + 1) t)) := fun t _ => by rw [hv]; exact tdone_step hlt
          have e3 : (v + i) * 3 = v * 3 + i * 3 := Nat.add_mul _ _ _
          have hvi : v + i < N := by omega
          obtain ⟨hg0, hg1⟩ := HG.out (by omega)
          have hw0 : w1.heap.size ≤ wi.heap.size := hb.out.size
          have hXlt := hX.out.lt
          have hbx : Below wi.heap.size wi (wi.alloc (.cells #[.bool r2.g, .slice A4 n4 c4, .slice B4 m4 d4] 30)).drew := ((Below.refl _ _).alloc (Nat.le_refl _) _).drew
          have P_0 : Hid (Box (wi.alloc (.cells #[.bool r2.g, .slice A4 n4 c4, .slice B4 m4 d4] 30)).drew wi.heap.size 30 #[.bool r2.g, .slice A4 n4 c4, .slice B4 m4 d4]) := (Box.new _ _ _).drew
          have X_0 : Hid (Box (wi.alloc (.cells #[.bool r2.g, .slice A4 n4 c4, .slice B4 m4 d4] 30)).drew w2.heap.size 47 #[.int .i64 K, .int .i64 P, .slice (some ⟨G, 0, none⟩) N N]) := (hX.out.alloc _).drew
          have I2 := Lib.hid (i2.below hbx)
          have J2 := Lib.hid (j2.below hbx)
          have RA2 := Lib.hid ra2
          have RB2 := Lib.hid rb2
          have hn4 := i2.2.1
          have hm4 := j2.2.1
          have OD := Lib.hid (ho.out.below hbx)
          have BD := Lib.hid (hb.out.trans (hbx.mono hw0))
          have hP24' : P ≤ 24 := hP24
          have hjle : j ≤ 24 := by omega
          have hN20 : N ≤ 1048576 := by omega
          have HDR : Hid (∀ (w : World), w.drew.heap.size = w.heap.size) := fun _ => rfl
          obtain ⟨e20, e21, e22⟩ := at2
          clear i2 j2 hr2 hr3 ra2 rb2 hbx hv
          go_wp2_with fail
          clear e20 e21 e22
          go_region_held3 (fun w' => w'.cell? ⟨w2.heap.size, 0, none⟩ = some (.int .i64 K) ∧ w'.cell? ⟨w2.heap.size, 1, none⟩ = some (.int .i64 P) ∧ w'.cell? ⟨w2.heap.size, 2, none⟩ = some (.slice (some ⟨G, 0, none⟩) N N) ∧ w'.cell? ⟨wi.heap.size, 0, none⟩ = some (.bool r2.g) ∧ w'.cell? ⟨wi.heap.size, 1, none⟩ = some (.slice A4 n4 c4) ∧ w'.cell? ⟨wi.heap.size, 2, none⟩ = some (.slice B4 m4 d4)) (first | with_reducible exact two_mats X_5 P_5 | with_reducible exact two_mats X_2 P_2 | with_reducible exact two_mats X_1 P_1 | with_reducible exact two_mats X_0 P_0) (first | (go_at_call 97; (with_reducible refine (impl_copyOfRat r2.g A4 n4 c4 r2.xs B4 m4 d4 r2.ds _ I3.out RA2.out J3.out RB2.out hx24 hd24).mono ?_); rintro e w5 ⟨g, r, vv, dd, q, rfl, hq, q1, q2, hap, hc2⟩; obtain ⟨k1, k2, k3⟩ := hq; obtain ⟨A6, c6, rfl⟩ := own_slice q1.2; obtain ⟨B6, d6, rfl⟩ := own_slice q2.2; obtain ⟨⟨x0, x1, x2, p0, p1, p2, f0, f1, f2⟩, s1, s2⟩ := store_el (g := g) O_1.out B_1.out hc2 hvi q1 q2 hap; rw [e3] at p0 p1 p2 f0 f1 f2 s1 s2; have HO := Lib.hid s1; have HB := Lib.hid s2; have HH : Hid (Has _ (part zs (TDone P i (j + 1)))) := Lib.hid ((part_congr HST.out) ▸ has_part (t := v + i) (g := g) (r := r) (d := dd) (v := .slice A6 r.length c6) (u := .slice B6 dd.length d6) hh.out (by rw [k1, k2, k3]; exact HZI.out)); have X_2 := Lib.hid (X_1.out.below hc2 X_1.out.lt); have P_2 := Lib.hid (P_1.out.below hc2 P_1.out.lt); have X_5 := Lib.hid (X_2.out.set3 (G := G) (by omega) (v * 3 + i * 3) (v * 3 + i * 3 + 1) (v * 3 + i * 3 + 2) (.bool g) (.slice A6 r.length c6) (.slice B6 dd.length d6)); have P_5 := Lib.hid (P_2.out.set3 (G := G) (by omega) (v * 3 + i * 3) (v * 3 + i * 3 + 1) (v * 3 + i * 3 + 2) (.bool g) (.slice A6 r.length c6) (.slice B6 dd.length d6)); clear s1 s2 k1 k2 k3 q1 q2 hap hc2) | (go_at_call 96; (with_reducible refine (impl_rowAt K P j (some ⟨G, 0, none⟩) N N _ (by rw [← HVJ.out]; exact hvr) hN20 (Nat.le_refl _) (fun _ => ⟨G, 0, rfl⟩) hjle hP24').mono ?_); rintro e w4 ⟨A7, c7, rfl, hc7, hat7, hb7⟩; rw [← HVJ.out] at hat7; obtain rfl : A7 = some ⟨G, v * 3, none⟩ := (by rcases hat7 with h0 | ⟨bb, oo, hA, hA'⟩; (exfalso; omega); (cases hA; rw [hA', Nat.zero_add])); have X_1 := Lib.hid (X_0.out.below hb7 X_0.out.lt); have P_1 := Lib.hid (P_0.out.below hb7 P_0.out.lt); have O_1 := Lib.hid (OD.out.below hb7); have B_1 := Lib.hid (BD.out.trans (hb7.mono BD.out.size)); have I3 := Lib.hid (I2.out.below hb7); have J3 := Lib.hid (J2.out.below hb7); clear hat7 hb7))
          go_wp2_with fail
          go_roundw
          case rel => exact ⟨j + 1, _, by omega, by go_num, HO, HH, X_5, HB⟩
          case measure => simp [intOf]; omega
        · obtain rfl : j = K := by omega
          have HH : Hid (Has L (part zs (TDone P (i + 1) 0))) := by
            rw [← part_congr fun t ht => tdone_row (P := P) (K := j) (i := i) (by omega) (by rw [HZL.out, HN.out] at ht; exact ht)]
            exact hh
          go_wp2_with fail
          go_roundw
          case rel => exact ⟨i + 1, L, by omega, by go_num, ho, HH, hX, hb⟩
          case measure => simp [intOf]; omega
    · obtain rfl : i = P := by omega
      have HH : Hid (Has L zs) := by
        have h1 := hh.out
        rw [part_all fun t ht => tdone_all (by
          rcases Nat.eq_zero_or_pos i with h0 | h0
          · subst h0; rw [HZL.out, HN.out, Nat.mul_zero] at ht; omega
          · exact h0)] at h1
        exact h1
      have ht_3 := Lib.hid (ht_1.out.below hb.out ht_1.out.lt)
      have BW_3 := Lib.hid (BW_1.out.trans (hb.out.mono BW_1.out.size))
      have HGD : Hid (Goods zs) := by rw [HZ.out]; exact HM.out.trans.gd
      have HQ : Hid (TransposeIs i K rs K i zs) := .inl ⟨HM.out, rfl, rfl, HZ.out⟩
      have eht0 := ht_3.out.cell 0
      have eht1 := ht_3.out.cell 1
      have eht2 := ht_3.out.cell 2
      have fht0 := ht_3.out.free 0
      have fht1 := ht_3.out.free 1
      have fht2 := ht_3.out.free 2
      simp at eht0 eht1 eht2
      have ex0 := hX.out.cell 0
      have ex1 := hX.out.cell 1
      have ex2 := hX.out.cell 2
      simp at ex0 ex1 ex2
      go_wp2_with fail
      refine bodyPost_ret (v := .agg #[.int .i64 K, .int .i64 i, .slice (some ⟨G, 0, none⟩) N N]) (by simp [results, Tryz.results41, eht0, eht1, eht2, go_sem]) rfl ?_
      exact matEnd_store ht_3.out (by omega) BW_3.out HQ.out HGD.out HZL.out ho.out hsz1 HH.out
end Go.Proofs.YtdehcddjkcpnfaaGreat
