/- Contracts of the elimination, by the program: a matrix copied. -/
import Derived.Test.YthjbfdifeffilaaGreatElimM
import Derived.Test.YthjbfdifeffilaaGreatGK
namespace Go.Proofs.YthjbfdifeffilaaGreat
set_option maxRecDepth 100000
open Go.RowKit

def CopyMEnd (P K N : Nat) (rs : List RD) (w w' : World) (e : Ending) : Prop := ∃ G L, e = .returned (.agg #[.int .i64 P, .int .i64 K, .slice (some ⟨G, 0, none⟩) N N]) ∧ OwnV w' w.heap.size (.slice (some ⟨G, 0, none⟩) N N) N L ∧ Has L rs ∧ Below w.heap.size w w'
set_option maxHeartbeats 6400000 in
theorem impl_copyOfMatrix (A : Option Addr) (n c P K : Nat) (rs : List RD) (w : World) (h : InV w A n rs) (hm : MOk P K rs) :
    Calls Tryz.prog 159 #[.agg #[.int .i64 P, .int .i64 K, .slice A n c]] w fun e w' => CopyMEnd P K n rs w w' e := by
  obtain ⟨W0, hW0⟩ : ∃ W, W = ((w.alloc (.cells #[.int .i64 P, .int .i64 K, .slice A n c] 25)).alloc (.cells #[.int .i64 0, .int .i64 0, .slice none 0 0] 25)) := ⟨_, rfl⟩
  have hm0_0 : Hid (Box W0 (w.heap.size) 25 #[.int .i64 P, .int .i64 K, .slice A n c]) := by rw [hW0]; exact ((Box.at' (by simp)).alloc _)
  have ht_0 : Hid (Box W0 (w.heap.size + 1) 25 #[.int .i64 0, .int .i64 0, .slice none 0 0]) := by rw [hW0]; exact (Box.at' (by simp))
  have BW_0 : Hid (Below w.heap.size w W0) := by rw [hW0]; exact (((Below.refl w.heap.size w).alloc (by simp) _).alloc (by simp) _)
  have hsz0 : w.heap.size + 1 + 1 ≤ W0.heap.size := by rw [hW0]; simp
  have hn := h.2.1
  have HV := Lib.hid (h.below BW_0.out)
  have HM := Lib.hid hm
  have hPb := hm.1
  have hKb := hm.2.1
  have hP24 : P ≤ 24 := by omega
  have hK24 : K ≤ 24 := by omega
  have hNPK : n = P * K := by rw [← h.1]; exact hm.plen
  have HNPK := Lib.hid hNPK
  have hN5 : n ≤ 576 := by rw [hNPK]; exact mul_le_576 hP24 hK24
  have hlt0 := hm0_0.out.lt
  have hltt := ht_0.out.lt
  have hsz := BW_0.out.size
  clear h hm hNPK
  go_enter Tryz.func159, Tryz.ntmps159
  go_wp2_with fail
  rw [← hW0]
  clear hW0
  have ehm00 := hm0_0.out.cell 0
  have ehm01 := hm0_0.out.cell 1
  have ehm02 := hm0_0.out.cell 2
  have eht0 := ht_0.out.cell 0
  have eht1 := ht_0.out.cell 1
  have eht2 := ht_0.out.cell 2
  have fht0 := ht_0.out.free 0
  have fht1 := ht_0.out.free 1
  have fht2 := ht_0.out.free 2
  simp at ehm00 ehm01 ehm02 eht0 eht1 eht2
  go_wp2_with fail
  clear ehm00 ehm01 ehm02 eht0 fht0 eht1 fht1 eht2 fht2
  refine (impl_newMatrix P K _ hP24 hK24).mono ?_
  rintro e w2 ⟨G, rfl, ho, hb⟩
  rw [← HNPK.out] at ho ⊢
  have HB2 := Lib.hid hb
  obtain ⟨W3, hW3⟩ : ∃ W, W = w2.alloc (.cells #[.int .i64 P, .int .i64 K, .slice (some ⟨G, 0, none⟩) n n] 25) := ⟨_, rfl⟩
  have hbx : Below w2.heap.size w2 W3 := by rw [hW3]; exact (Below.refl _ _).alloc (Nat.le_refl _) _
  have X_3 : Hid (Box W3 w2.heap.size 25 #[.int .i64 P, .int .i64 K, .slice (some ⟨G, 0, none⟩) n n]) := by rw [hW3]; exact Box.new _ _ _
  have O3 := Lib.hid (ho.below hbx)
  have BZ : Hid (Below W0.heap.size W0 W3) := HB2.out.trans (hbx.mono HB2.out.size)
  have hw12 := HB2.out.size
  have HG : Hid (0 < n → W0.heap.size ≤ G ∧ G < w2.heap.size) := fun h0 => by
    obtain ⟨g, hg, h1, h2⟩ := own_at' ho.2.1 h0
    cases hg; exact ⟨h1, h2⟩
  have em := (hm0_0.out.below BZ.out hm0_0.out.lt)
  rw [hW3] at em
  have em2 := em.cell 2
  simp at em2
  clear ho hb hbx em
  go_wp2_with fail
  rw [← hW3]
  clear hW3 em2
  go_loopw [14] (fun y wr => ∃ (i : Nat) (L : List El), i ≤ n ∧ y = .int .i64 i ∧ Hid (OwnV wr W0.heap.size (.slice (some ⟨G, 0, none⟩) n n) n L) ∧ Hid (Has L (upTo rs i n)) ∧ Hid (Box wr w2.heap.size 25 #[.int .i64 P, .int .i64 K, .slice (some ⟨G, 0, none⟩) n n]) ∧ Hid (Below W0.heap.size W0 wr)) (fun y _ => n - (intOf y).toNat)
  case atStart => exact ⟨0, _, Nat.zero_le _, rfl, O3, by rw [upTo_zero]; exact has_zeros n, X_3, BZ⟩
  case round =>
    obtain ⟨i, L, hle, rfl, ho, hh, hX, hb⟩ := hrel
    by_cases hlt : i < n
    · obtain ⟨wi, rfl⟩ : ∃ wi : World, wi = wr := ⟨_, rfl⟩
      obtain ⟨b2, o2, rfl, hb2, r2, hr2, A4, n4, c4, B4, m4, d4, at2, i2, ra2, j2, rb2⟩ := HV.out.atB hb.out i hlt
      have hi0 : (0 : Int) ≤ (i : Int) := by omega
      have hi1 : (i : Int) < (n : Int) := by omega
      have hrk : r2.ok := HM.out.all _ (List.mem_of_getElem? hr2)
      have hx24 : r2.xs.length ≤ 24 := hrk.2.2.2.2.1
      have hd24 : r2.ds.length ≤ 24 := hrk.2.2.2.2.2
      have HR2 := Lib.hid hr2
      obtain ⟨hg0, hg1⟩ := HG.out (by omega)
      have hw0 : W0.heap.size ≤ wi.heap.size := hb.out.size
      have hXlt := hX.out.lt
      have hbx : Below wi.heap.size wi (wi.alloc (.cells #[.bool r2.g, .slice A4 n4 c4, .slice B4 m4 d4] 35)).drew := ((Below.refl _ _).alloc (Nat.le_refl _) _).drew
      have P_0 : Hid (Box (wi.alloc (.cells #[.bool r2.g, .slice A4 n4 c4, .slice B4 m4 d4] 35)).drew wi.heap.size 35 #[.bool r2.g, .slice A4 n4 c4, .slice B4 m4 d4]) := (Box.new _ _ _).drew
      have X_0 : Hid (Box (wi.alloc (.cells #[.bool r2.g, .slice A4 n4 c4, .slice B4 m4 d4] 35)).drew w2.heap.size 25 #[.int .i64 P, .int .i64 K, .slice (some ⟨G, 0, none⟩) n n]) := (hX.out.alloc _).drew
      have I2 := Lib.hid (i2.below hbx)
      have J2 := Lib.hid (j2.below hbx)
      have RA2 := Lib.hid ra2
      have RB2 := Lib.hid rb2
      have hn4 := i2.2.1
      have hm4 := j2.2.1
      have OD := Lib.hid (ho.out.below hbx)
      have BD := Lib.hid (hb.out.trans (hbx.mono hw0))
      have hN20 : n ≤ 1048576 := by omega
      obtain ⟨e20, e21, e22⟩ := at2
      clear i2 j2 hr2 ra2 rb2 hbx hrk
      go_wp2_with fail
      clear e20 e21 e22
      go_region_held3 (fun w' => w'.cell? ⟨w2.heap.size, 2, none⟩ = some (.slice (some ⟨G, 0, none⟩) n n) ∧ w'.cell? ⟨wi.heap.size, 0, none⟩ = some (.bool r2.g) ∧ w'.cell? ⟨wi.heap.size, 1, none⟩ = some (.slice A4 n4 c4) ∧ w'.cell? ⟨wi.heap.size, 2, none⟩ = some (.slice B4 m4 d4)) (first | with_reducible exact two_mats2 X_5 P_5 | with_reducible exact two_mats2 X_2 P_2 | with_reducible exact two_mats2 X_0 P_0) (first | (go_at_call 73; (with_reducible refine (impl_copyOfRat r2.g A4 n4 c4 r2.xs B4 m4 d4 r2.ds _ I2.out RA2.out J2.out RB2.out hx24 hd24).mono ?_); rintro e w5 ⟨g, r, vv, dd, q, rfl, hq, q1, q2, hap, hc2⟩; obtain ⟨k1, k2, k3⟩ := hq; obtain ⟨A6, c6, rfl⟩ := own_slice q1.2; obtain ⟨B6, d6, rfl⟩ := own_slice q2.2; obtain ⟨⟨x0, x1, x2, p0, p1, p2, f0, f1, f2⟩, s1, s2⟩ := store_el (g := g) OD.out BD.out hc2 hlt q1 q2 hap; have HO := Lib.hid s1; have HB := Lib.hid s2; have HH : Hid (Has _ (upTo rs (i + 1) n)) := Lib.hid (has_store (g := g) (r := r) (d := dd) (v := .slice A6 r.length c6) (u := .slice B6 dd.length d6) hh.out (by rw [k1, k2, k3]; exact HR2.out) hlt); have X_2 := Lib.hid (X_0.out.below hc2 X_0.out.lt); have P_2 := Lib.hid (P_0.out.below hc2 P_0.out.lt); have X_5 := Lib.hid (X_2.out.set3 (G := G) (by omega) (i * 3) (i * 3 + 1) (i * 3 + 2) (.bool g) (.slice A6 r.length c6) (.slice B6 dd.length d6)); have P_5 := Lib.hid (P_2.out.set3 (G := G) (by omega) (i * 3) (i * 3 + 1) (i * 3 + 2) (.bool g) (.slice A6 r.length c6) (.slice B6 dd.length d6)); clear s1 s2 k1 k2 k3 q1 q2 hap hc2))
      go_wp2_with fail
      go_roundw
      case rel => exact ⟨i + 1, _, by omega, by go_num, HO, HH, X_5, HB⟩
      case measure => simp [intOf]; omega
    · obtain rfl : i = n := by omega
      have HH : Hid (Has L rs) := by rw [← upTo_all HV.out.1]; exact hh
      have ht_3 := Lib.hid (ht_0.out.below hb.out ht_0.out.lt)
      have BW_3 := Lib.hid (BW_0.out.trans (hb.out.mono BW_0.out.size))
      have eht0 := ht_3.out.cell 0
      have eht1 := ht_3.out.cell 1
      have eht2 := ht_3.out.cell 2
      have fht0 := ht_3.out.free 0
      have fht1 := ht_3.out.free 1
      have fht2 := ht_3.out.free 2
      simp at eht0 eht1 eht2
      have ex0 := hX.out.cell 0
      have ex1 := hX.out.cell 1
      have ex2 := hX.out.cell 2
      simp at ex0 ex1 ex2
      go_wp2_with fail
      refine bodyPost_ret (v := .agg #[.int .i64 P, .int .i64 K, .slice (some ⟨G, 0, none⟩) i i]) (by simp [results, Tryz.results159, eht0, eht1, eht2, go_sem]) rfl ?_
      exact ⟨G, L, rfl, (ho.out.lower hsz).box_set3 ht_3.out _ _ _, HH.out, below_store3 BW_3.out (by omega) _ _ _⟩
end Go.Proofs.YthjbfdifeffilaaGreat
