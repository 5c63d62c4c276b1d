/- Null vectors: as data, and the program's nullVector. -/
import Derived.Test.YthjbfdifeffilaaGreatED
import Derived.Test.YthjbfdifeffilaaGreatGW
namespace Go.Proofs.YthjbfdifeffilaaGreat
set_option maxRecDepth 100000
open Go.RowKit

/-- The null vector of column col behind the first i pivots. -/
noncomputable def nvec (K : Nat) (R : List RD) (pv : List Nat) (col : Nat) : Nat → List RD
  | 0 => (List.replicate K R0).set col R1
  | i + 1 => (nvec K R pv col i).set ((pv[i]?).getD 0) (rneg (cell K R i col))
theorem nvec_length (K : Nat) (R : List RD) (pv : List Nat) (col : Nat) : ∀ i, (nvec K R pv col i).length = K
  | 0 => by simp [nvec]
  | i + 1 => by simp only [nvec, List.length_set, nvec_length K R pv col i]
theorem nvec_good (K : Nat) (R : List RD) (pv : List Nat) (col : Nat) : ∀ i, ∀ x ∈ nvec K R pv col i, x.ok ∨ x = RD.zero
  | 0 => fun x hx => by
    rcases List.mem_or_eq_of_mem_set hx with h | rfl
    · rw [(List.mem_replicate.1 h).2]; exact .inl R0_ok
    · exact .inl R1_ok
  | i + 1 => fun x hx => by
    rcases List.mem_or_eq_of_mem_set hx with h | rfl
    · exact nvec_good K R pv col i x h
    · exact rneg_good _
theorem nvec_goods {K : Nat} (hK : K ≤ 24) (R : List RD) (pv : List Nat) (col i : Nat) : Goods (nvec K R pv col i) := ⟨by rw [nvec_length]; omega, nvec_good K R pv col i⟩
theorem nvec_unit {K col : Nat} {R r : List RD} {pv : List Nat} (hK : K ≤ 24) (hc : col < K) (h : UnitVectorIs K col r) : r = nvec K R pv col 0 := by
  unfold UnitVectorIs at h
  rw [if_pos ⟨⟨by omega, by omega⟩, by omega, by omega⟩, rint0, rint1] at h
  exact h
theorem has_nvec {K col i z : Nat} {R : List RD} {pv : List Nat} {L : List El} {x : RD} {g : Bool} {xs ds : List Int} {v u : Value} (h : Has L (nvec K R pv col i)) (hz : pv[i]? = some z) (hx : cell K R i col = x) (hq : RD.mk g xs ds = rneg x) :
    Has (L.set z ⟨g, v, xs.length, xs.map (.int .i64), u, ds.length, ds.map (.int .i64)⟩) (nvec K R pv col (i + 1)) := by
  simp only [nvec, hz, Option.getD_some, hx, ← hq]
  exact h.set z ⟨rfl, rfl, rfl, rfl, rfl⟩
theorem store_ownN {w : World} {base G n c i : Nat} {L : List El} {e : El} (h : OwnV w base (.slice (some ⟨G, 0, none⟩) n c) n L) (hi : i < n) (he : e.own w base) (hf : ∀ x ∈ L, Far x e) :
    (∃ x0 x1 x2, w.cell? ⟨G, i * 3, none⟩ = some x0 ∧ w.cell? ⟨G, i * 3 + 1, none⟩ = some x1 ∧ w.cell? ⟨G, i * 3 + 2, none⟩ = some x2 ∧ w.frozen? ⟨G, i * 3, none⟩ = false ∧ w.frozen? ⟨G, i * 3 + 1, none⟩ = false ∧ w.frozen? ⟨G, i * 3 + 2, none⟩ = false) ∧
    OwnV (((w.setCell ⟨G, i * 3, none⟩ (.bool e.g)).setCell ⟨G, i * 3 + 1, none⟩ e.v).setCell ⟨G, i * 3 + 2, none⟩ e.u) base (.slice (some ⟨G, 0, none⟩) n c) n (L.set i e) ∧
    Wrote (fun k => k = G) w (((w.setCell ⟨G, i * 3, none⟩ (.bool e.g)).setCell ⟨G, i * 3 + 1, none⟩ e.v).setCell ⟨G, i * 3 + 2, none⟩ e.u) := by
  have hst := h.store hi he hf
  exact ⟨h.room hi, hst.1, hst.2.mono fun k _ hk => by unfold blk at hk; simp [Value.ownBlock] at hk; exact hk.symm⟩
set_option maxHeartbeats 6400000 in
theorem impl_nullVector (P K : Nat) (A : Option Addr) (N c : Nat) (R : List RD) (Ap : Option Addr) (n cp : Nat) (pv : List Nat) (col : Nat) (w : World) (h : InV w A N R) (hN : N = P * K) (hc : N ≤ c) (hk : ∀ r ∈ R, r.ok) (hp : Reads w Ap (ivals pv)) (hn : pv.length = n) (hnP : n ≤ P) (hpk : ∀ x ∈ pv, x < K) (hP24 : P ≤ 24) (hK24 : K ≤ 24) (hcol : col < K) :
    Calls Tryz.prog 107 #[.agg #[.int .i64 P, .int .i64 K, .slice A N c], .slice Ap n cp, .int .i64 col] w fun e w' => VecEnd (fun r => r = nvec K R pv col n) w w' e := by
  obtain ⟨W0, hW0⟩ : ∃ W, W = (w.alloc (.cells #[.int .i64 P, .int .i64 K, .slice A N c] 25)) := ⟨_, rfl⟩
  have hm0_0 : Hid (Box W0 (w.heap.size) 25 #[.int .i64 P, .int .i64 K, .slice A N c]) := by rw [hW0]; exact (Box.at' (by simp))
  have BW_0 : Hid (Below w.heap.size w W0) := by rw [hW0]; exact ((Below.refl w.heap.size w).alloc (by simp) _)
  have hsz0 : w.heap.size + 1 ≤ W0.heap.size := by rw [hW0]; simp
  have HV := Lib.hid (h.below BW_0.out)
  have HP : Hid (Reads W0 Ap (ivals pv)) := hp.below BW_0.out
  have HNP := Lib.hid hN
  have HKO := Lib.hid hk
  have HPK := Lib.hid hpk
  have HN := Lib.hid hn
  have hN5 : N ≤ 576 := by rw [hN]; exact mul_le_576 hP24 hK24
  have hN20 : N ≤ 1048576 := by omega
  have hl : R.length = P * K := by rw [← hN]; exact h.1
  have HLR := Lib.hid hl
  clear h hp hN hk hpk hn hl
  go_enter Tryz.func107, Tryz.ntmps107
  go_wp2_with fail
  rw [← hW0]
  clear hW0
  have ehm00 := hm0_0.out.cell 0
  have ehm01 := hm0_0.out.cell 1
  have ehm02 := hm0_0.out.cell 2
  simp at ehm00 ehm01 ehm02
  go_wp2_with fail
  clear ehm00 ehm01 ehm02
  refine (impl_unitVector K col _ (by omega) (by omega)).mono ?_
  rintro e w1 ⟨r, V, rfl, hq, ⟨hl1, hf1, L1, ho, hh⟩, hb⟩
  obtain rfl := nvec_unit (R := R) (pv := pv) hK24 hcol hq
  rw [nvec_length] at ho
  obtain ⟨G, hG, hG1, hG2⟩ : ∃ G, (∃ c1, V = .slice (some ⟨G, 0, none⟩) K c1) ∧ W0.heap.size ≤ G ∧ G < w1.heap.size := by
    obtain ⟨A1, c1, rfl⟩ := ho.slice
    obtain ⟨G, rfl, h1, h2⟩ := own_at' ho.2.1 (by omega)
    exact ⟨G, ⟨c1, rfl⟩, h1, h2⟩
  obtain ⟨c1, rfl⟩ := hG
  have O1 := Lib.hid ho
  have H1 := Lib.hid hh
  have B1 := Lib.hid hb
  clear hq hl1 hf1 ho hh hb
  go_wp2_with fail
  go_loopw [16] (fun y wr => ∃ (i : Nat) (L : List El), i ≤ n ∧ y = .int .i64 i ∧ Hid (OwnV wr W0.heap.size (.slice (some ⟨G, 0, none⟩) K c1) K L) ∧ Hid (Has L (nvec K R pv col i)) ∧ Hid (Below W0.heap.size W0 wr)) (fun y _ => n - (intOf y).toNat)
  case atStart => exact ⟨0, L1, Nat.zero_le _, rfl, O1, H1, B1⟩
  case round =>
    obtain ⟨i, L, hle, rfl, ho, hh, hb⟩ := hrel
    by_cases hlt : i < n
    · have hi0 : (0 : Int) ≤ (i : Int) := by omega
      have hi1 : (i : Int) < (n : Int) := by omega
      have hix : i < pv.length := by rw [HN.out]; exact hlt
      obtain ⟨z, hz⟩ : ∃ z, pv[i] = z := ⟨_, rfl⟩
      have hz? : pv[i]? = some z := by rw [List.getElem?_eq_getElem hix, hz]
      have HZ := Lib.hid hz?
      have hzK : z < K := HPK.out z (List.mem_of_getElem? hz?)
      obtain ⟨bp, op, rfl, hbp, hcp⟩ := (HP.out.below hb.out).at_ (by rw [ivals_length]; omega)
      have hcell : wr.cell? ⟨bp, op + i, none⟩ = some (.int .i64 (z : Int)) := (hcp i (by rw [ivals_length]; exact hix)).trans (by simp [ivals, hz])
      have hiP : i < P := by omega
      have hir : i * K + K ≤ N := by rw [HNP.out]; exact row_le hiP
      have hz0 : (0 : Int) ≤ (z : Int) := by omega
      have hz1 : (z : Int) < (K : Int) := by omega
      have hc0 : (0 : Int) ≤ (col : Int) := by omega
      have hcl1 : (col : Int) < (K : Int) := by omega
      have hm0_o := Lib.hid (hm0_0.out.below hb.out hm0_0.out.lt)
      have ehm00 := hm0_o.out.cell 0
      have ehm01 := hm0_o.out.cell 1
      have ehm02 := hm0_o.out.cell 2
      simp at ehm00 ehm01 ehm02
      clear hz hz? hcp
      go_wp2_with fail
      clear ehm00 ehm01 ehm02
      clear hcell
      refine (impl_rowAt P K i A N c _ hir hN20 hc HV.out.some_ (by omega) hK24).mono ?_
      rintro e w4 ⟨A', c', rfl, _, hat, hb4⟩
      have HVR : Hid (InV W0 A' K (mrow K R i)) := HV.out.row hat hir hK24
      have O4 := Lib.hid (ho.out.below hb4)
      have B4 := Lib.hid (hb.out.trans (hb4.mono hb.out.size))
      clear hat hb4 ho hb
      obtain ⟨b2, o2, rfl, hb2, r2, hr2, A4, n4, c4, B4', m4, d4, at2, i2, ra2, j2, rb2⟩ := HVR.out.atB B4.out col hcol
      have hr3 : R[i * K + col]? = some r2 := by rw [← mrow_at (rs := R) (i := i) hcol]; exact hr2
      have HCE : Hid (cell K R i col = r2) := by unfold Hid cell; rw [hr3]; rfl
      have I2 := Lib.hid i2
      have J2 := Lib.hid j2
      have RA2 := Lib.hid ra2
      have RB2 := Lib.hid rb2
      have hn4 := i2.2.1
      have hm4 := j2.2.1
      obtain ⟨e20, e21, e22⟩ := at2
      clear i2 j2 hr2 hr3 ra2 rb2
      go_wp2_with fail
      clear e20 e21 e22
      refine (impl_ratNeg r2.g A4 n4 c4 r2.xs B4' m4 d4 r2.ds _ I2.out RA2.out J2.out RB2.out).mono ?_
      rintro e w5 ⟨g, r, vv, dd, q, rfl, hq, q1, q2, hap, hc2⟩
      obtain ⟨A6, c6, rfl⟩ := own_slice q1.2
      obtain ⟨B6, d6, rfl⟩ := own_slice q2.2
      have he0 : (El.mk g (.slice A6 r.length c6) r.length (r.map (.int .i64)) (.slice B6 dd.length d6) dd.length (dd.map (.int .i64))).own w5 _ := ⟨q1.2, q2.2, hap⟩
      have hFf := O4.out.far_new he0 (Nat.le_refl _)
      obtain ⟨⟨x0, x1, x2, p0, p1, p2, f0, f1, f2⟩, s1, s2⟩ := store_ownN (O4.out.below hc2) hzK (he0.lower B4.out.size) hFf
      have HO := Lib.hid s1
      have HB := Lib.hid (Wrote.below (B4.out.trans (hc2.mono B4.out.size)) s2 (fun k hk => by omega) (by have := B4.out.size; have := hc2.size; omega))
      have HH : Hid (Has _ (nvec K R pv col (i + 1))) := Lib.hid (has_nvec hh.out HZ.out HCE.out (rneg_of hq) (v := .slice A6 r.length c6) (u := .slice B6 dd.length d6))
      clear s1 s2 q1 q2 hap hc2 he0 hFf hq
      go_wp2_with fail
      go_roundw
      case rel => exact ⟨i + 1, _, by omega, by go_num, HO, HH, HB⟩
      case measure => simp [intOf]; omega
    · obtain rfl : i = n := by omega
      have HF : Hid (VecEnd (fun r => r = nvec K R pv col i) w wr (.returned (.slice (some ⟨G, 0, none⟩) K c1))) := ⟨_, _, rfl, rfl, resV_mk (nvec_goods hK24 R pv col i) (nvec_length K R pv col i) (ho.out.lower BW_0.out.size) hh.out, BW_0.out.trans (hb.out.mono BW_0.out.size)⟩
      go_wp2_with fail
      go_ret
      exact HF.out
end Go.Proofs.YthjbfdifeffilaaGreat
