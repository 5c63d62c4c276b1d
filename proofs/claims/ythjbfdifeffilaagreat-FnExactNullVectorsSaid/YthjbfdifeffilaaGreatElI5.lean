/- Contracts of the elimination, by the program: a column made 0 outside one row. -/
import Derived.Test.YthjbfdifeffilaaGreatElI4
import Derived.Test.YthjbfdifeffilaaGreatVecI3
import Derived.Test.YthjbfdifeffilaaGreatGK
import Derived.Test.YthjbfdifeffilaaGreatElI2
namespace Go.Proofs.YthjbfdifeffilaaGreat
set_option maxRecDepth 100000
open Go.RowKit

/-- The rows before i are done. -/
noncomputable def clrTo (P K : Nat) (rs : List RD) (n k i : Nat) : List RD := mk P K fun a b => if a < i then clr K rs n k a b else cell K rs a b
section
variable {P K n k i : Nat} {rs : List RD}
theorem clrTo_length : (clrTo P K rs n k i).length = P * K := mk_length
theorem clrTo_zero (hl : rs.length = P * K) : clrTo P K rs n k 0 = rs := (mk_of hl fun a b _ _ => by simp).symm
theorem clrTo_all : clrTo P K rs n k P = mclear P K rs n k := mk_congr fun a b ha _ => by rw [if_pos ha]
theorem clr_n {b : Nat} : clr K rs n k n b = cell K rs n b := by unfold clr; rw [if_pos (.inl rfl)]
theorem clr_nil {a b : Nat} (h : a = n ∨ (cell K rs a k).xs = []) : clr K rs n k a b = cell K rs a b := by
  unfold clr
  rw [if_pos (h.elim .inl fun h => .inr (.inl h))]
theorem row_self (hi : i < P) (hl : rs.length = P * K) : mrow K (clrTo P K rs n k i) i = mrow K rs i := by
  rw [mrow_is clrTo_length hi, mrow_is hl hi]
  refine List.map_congr_left fun b hb => ?_
  unfold clrTo
  rw [cell_mk hi (List.mem_range.1 hb), if_neg (Nat.lt_irrefl _)]
theorem row_used (hn : n < P) (hl : rs.length = P * K) : mrow K (clrTo P K rs n k i) n = mrow K rs n := by
  rw [mrow_is clrTo_length hn, mrow_is hl hn]
  refine List.map_congr_left fun b hb => ?_
  unfold clrTo
  rw [cell_mk hn (List.mem_range.1 hb)]
  split
  · exact clr_n
  · rfl
theorem clrTo_skip (h : i = n ∨ (cell K rs i k).xs = []) : clrTo P K rs n k (i + 1) = clrTo P K rs n k i := mk_congr fun a b _ _ => by
  by_cases e : a = i
  · subst e; rw [if_pos (Nat.lt_succ_self _), if_neg (Nat.lt_irrefl _), clr_nil h]
  · by_cases e2 : a < i
    · rw [if_pos e2, if_pos (by omega)]
    · rw [if_neg e2, if_neg (by omega)]
theorem clr_is (hm : MOk P K rs) (hi : i < P) (hn : n < P) (hk : k < K) {b : Nat} (hb : b < K) (h1 : i ≠ n) (h2 : (cell K rs i k).xs ≠ []) : rsub (cell K rs i b) (rmul (cell K rs i k) (cell K rs n b)) = clr K rs n k i b := by
  have hl := hm.plen
  unfold clr
  by_cases h3 : (cell K rs n b).xs = []
  · rw [if_pos (.inr (.inr h3)), rmul_nought (hm.all _ (cell_mem hl hi hk)) (hm.all _ (cell_mem hl hn hb)) h3, rsub_nought (hm.all _ (cell_mem hl hi hb)) R0_ok rfl]
  · rw [if_neg (by simp [h1, h2, h3])]
theorem diff_row (hm : MOk P K rs) (hi : i < P) (hn : n < P) (hk : k < K) (h1 : i ≠ n) (h2 : (cell K rs i k).xs ≠ []) :
    List.zipWith rsub (mrow K rs i) ((mrow K rs n).map (rmul (cell K rs i k))) = (List.range K).map (clr K rs n k i) := by
  have hl := hm.plen
  rw [mrow_is hl hi, mrow_is hl hn]
  apply List.ext_getElem?
  intro b
  by_cases hb : b < K
  · simp [hb, clr_is hm hi hn hk hb h1 h2]
  · rw [List.getElem?_eq_none (by simp; omega), List.getElem?_eq_none (by simp; omega)]
theorem clrTo_next (hi : i < P) : (clrTo P K rs n k i).take (i * K) ++ (List.range K).map (clr K rs n k i) ++ (clrTo P K rs n k i).drop (i * K + K) = clrTo P K rs n k (i + 1) := by
  rw [splice_row clrTo_length hi (by simp)]
  refine mk_congr fun a b ha hb => ?_
  by_cases e : a = i
  · subst e
    rw [if_pos rfl, if_pos (Nat.lt_succ_self _)]
    simp [hb]
  · rw [if_neg e]
    unfold clrTo
    rw [cell_mk ha hb]
    by_cases e2 : a < i
    · rw [if_pos e2, if_pos (by omega)]
    · rw [if_neg e2, if_neg (by omega)]
theorem clear_ok : AllOk (mclear P K rs n k) ↔ ∀ a b, a < P → b < K → (clr K rs n k a b).ok := by unfold AllOk mclear; exact mk_all
theorem next_ok (h : AllOk (clrTo P K rs n k i)) (h2 : ∀ x ∈ (List.range K).map (clr K rs n k i), x.ok) : AllOk (clrTo P K rs n k (i + 1)) := by
  unfold AllOk clrTo at h ⊢
  rw [mk_all] at h ⊢
  intro a b ha hb
  by_cases e : a = i
  · subst e; rw [if_pos (Nat.lt_succ_self _)]; exact h2 _ (List.mem_map.2 ⟨b, List.mem_range.2 hb, rfl⟩)
  · have := h a b ha hb
    by_cases e2 : a < i
    · rw [if_pos e2] at this; rw [if_pos (by omega)]; exact this
    · rw [if_neg e2] at this; rw [if_neg (by omega)]; exact this
/-- A multiple that is too large shows in the row. -/
theorem mult_bad (hm : MOk P K rs) (hi : i < P) (hn : n < P) (hk : k < K) (h1 : i ≠ n) (h2 : (cell K rs i k).xs ≠ []) (h : AllOk (mclear P K rs n k)) : (∀ x ∈ (mrow K rs n).map (rmul (cell K rs i k)), x.ok) ∧ ∀ x ∈ (List.range K).map (clr K rs n k i), x.ok := by
  have hl := hm.plen
  rw [clear_ok] at h
  constructor
  · intro x hx
    rw [mrow_is hl hn, List.map_map] at hx
    obtain ⟨b, hb, rfl⟩ := List.mem_map.1 hx
    have hb := List.mem_range.1 hb
    have h3 := h i b hi hb
    rw [← clr_is hm hi hn hk hb h1 h2] at h3
    exact (rsub_ok h3).2
  · intro x hx
    obtain ⟨b, hb, rfl⟩ := List.mem_map.1 hx
    exact h i b hi (List.mem_range.1 hb)
end
set_option maxHeartbeats 12800000 in
theorem impl_clearColumn (base G N c P K n k : Nat) (rs : List RD) (L0 : List El) (w : World) (ho : OwnV w base (.slice (some ⟨G, 0, none⟩) N c) N L0) (hh : Has L0 rs) (hN : N = P * K) (hm : MOk P K rs) (hn : n < P) (hk : k < K) (hbase : base ≤ w.heap.size) :
    Calls Tryz.prog 163 #[.agg #[.int .i64 P, .int .i64 K, .slice (some ⟨G, 0, none⟩) N c], .int .i64 n, .int .i64 k] w fun e w' => ChOkEnd base G N c L0 (mclear P K rs n k) w w' e := by
  obtain ⟨i0, hi, hz0, hz1, hz2⟩ := info_parts Tryz.infoR
  have hsz : (Tryz.prog.info? 35).map (·.size) = some 3 := by rw [hi]; simp [hz1]
  clear hi hz0 hz1 hz2
  obtain ⟨W0, hW0⟩ : ∃ W, W = (w.alloc (.cells #[.int .i64 P, .int .i64 K, .slice (some ⟨G, 0, none⟩) N c] 25)) := ⟨_, rfl⟩
  have hm0_0 : Hid (Box W0 (w.heap.size) 25 #[.int .i64 P, .int .i64 K, .slice (some ⟨G, 0, none⟩) N c]) := by rw [hW0]; exact (Box.at' (by simp))
  have BW_0 : Hid (Below w.heap.size w W0) := by rw [hW0]; exact ((Below.refl w.heap.size w).alloc (by simp) _)
  have hsz0 : w.heap.size + 1 ≤ W0.heap.size := by rw [hW0]; simp
  have O0 := Lib.hid (ho.below BW_0.out)
  have HM := Lib.hid hm
  have HN := Lib.hid hN
  have HL := Lib.hid hm.plen
  have WW0 : Hid (Wrote (fun k => k = G) w W0) := Wrote.of_below BW_0.out
  have hPb := hm.1
  have hKb := hm.2.1
  have hP24 : P ≤ 24 := by omega
  have hK24 : K ≤ 24 := by omega
  have hN5 : N ≤ 576 := by rw [hN]; exact mul_le_576 hP24 hK24
  have hnr : n * K + K ≤ N := by rw [hN]; exact row_le hn
  have hcN : N ≤ c := own_le ho.2.1
  have hGs : G < w.heap.size := (own_at0 ho.2.1).2
  have hN20 : N ≤ 1048576 := by omega
  obtain ⟨u, hu⟩ : ∃ u, u = n * K := ⟨_, rfl⟩
  have HU := Lib.hid hu
  have hur : u + K ≤ N := by omega
  have HH0 : Hid (Has L0 (clrTo P K rs n k 0)) := by rw [clrTo_zero hm.plen]; exact hh
  have HA0 : Hid (AllOk (clrTo P K rs n k 0)) := by rw [clrTo_zero hm.plen]; exact hm.all
  have hk0 : (0 : Int) ≤ (k : Int) := by omega
  have hk1 : (k : Int) < (K : Int) := by omega
  clear ho hh hN hm hu
  go_enter Tryz.func163, Tryz.ntmps163
  go_wp2_with fail
  rw [← hW0]
  clear hW0
  have ehm00 := hm0_0.out.cell 0
  have ehm01 := hm0_0.out.cell 1
  have ehm02 := hm0_0.out.cell 2
  simp at ehm00 ehm01 ehm02
  go_wp2_with fail
  clear ehm00 ehm01 ehm02
  go_loopw [14] (fun y wr => ∃ (i : Nat) (L : List El), i ≤ P ∧ y = .int .i64 i ∧ Hid (OwnV wr base (.slice (some ⟨G, 0, none⟩) N c) N L) ∧ Hid (Has L (clrTo P K rs n k i)) ∧ Hid (AllOk (clrTo P K rs n k i)) ∧ Hid (Wrote (fun k => k = G) W0 wr) ∧ Hid (FootIn w L0 L)) (fun y _ => P - (intOf y).toNat)
  case atStart => exact ⟨0, L0, Nat.zero_le _, rfl, O0, HH0, HA0, Wrote.refl _ _, FootIn.refl _ _⟩
  case round =>
    obtain ⟨i, L, hle, rfl, ho, hh, hA, hW, hF⟩ := hrel
    obtain ⟨wo, rfl⟩ : ∃ wo : World, wo = wr := ⟨_, rfl⟩
    have WWo := Lib.hid (WW0.out.trans hW.out)
    by_cases hlt : i < P
    · have hi0 : (0 : Int) ≤ (i : Int) := by omega
      have hi1 : (i : Int) < (P : Int) := by omega
      have hir : i * K + K ≤ N := by rw [HN.out]; exact row_le hlt
      have hGo : G < wo.heap.size := by have := hW.out.size; omega
      have hGm : w.heap.size ≠ G := by omega
      have hm0_o : Hid (Box wo w.heap.size 25 #[.int .i64 P, .int .i64 K, .slice (some ⟨G, 0, none⟩) N c]) := Lib.hid ((hW.out.block _ hm0_0.out.lt hGm).trans hm0_0.out)
      obtain ⟨v, hv⟩ : ∃ v, v = i * K := ⟨_, rfl⟩
      have HV := Lib.hid hv
      have hvr : v + K ≤ N := by omega
      have hbo : base ≤ wo.heap.size := Nat.le_trans hbase WWo.out.size
      clear hv
      have ehm00 := hm0_o.out.cell 0
      have ehm01 := hm0_o.out.cell 1
      have ehm02 := hm0_o.out.cell 2
      simp at ehm00 ehm01 ehm02
      go_wp2_with fail
      clear ehm00 ehm01 ehm02
      refine (impl_rowAt P K i (some ⟨G, 0, none⟩) N c _ hir hN20 hcN (fun _ => ⟨G, 0, rfl⟩) (by omega) hK24).mono ?_
      rintro e w1 ⟨A', c', rfl, hc', hat, hb1⟩
      have hat2 := hat
      rw [← HV.out] at hat2
      obtain rfl : A' = some ⟨G, v * 3, none⟩ := (by
        rcases hat2 with h0 | ⟨bb, oo, hA, hA'⟩
        · exfalso; omega
        · cases hA; rw [hA', Nat.zero_add])
      have O1 := Lib.hid (ho.out.below hb1)
      have W1 := Lib.hid (hW.out.trans (Wrote.of_below hb1))
      have HI1 : Hid (InV w1 (some ⟨G, 0, none⟩) N (clrTo P K rs n k i)) := O1.out.in_ hh.out hN20 fun r hr => (hA.out r hr).fits
      have HR1 : Hid (InV w1 (some ⟨G, v * 3, none⟩) K (mrow K rs i)) := by
        have h1 := HI1.out.row hat hir hK24
        rwa [row_self hlt HL.out] at h1
      obtain ⟨b3, o3, hbo3, hb3, r, hr, A3, n3, c3, B3, m3, d3, at3, i3, ra3, j3, rb3⟩ := HR1.out.at_ k hk
      cases hbo3
      have hrc : cell K rs i k = r := by
        unfold cell
        rw [← mrow_at (rs := rs) hk, hr]; rfl
      have HRC := Lib.hid hrc
      have HRK : Hid r.ok := HM.out.all _ (mem_mrow (List.mem_of_getElem? hr))
      have hn3 := i3.2.1
      have hm3 := j3.2.1
      have hx24 : r.xs.length ≤ 24 := HRK.out.2.2.2.2.1
      have hd24 : r.ds.length ≤ 24 := HRK.out.2.2.2.2.2
      have RA3 := Lib.hid ra3
      have RB3 := Lib.hid rb3
      have hs01 := hb1.size
      have hGw1 : G < w1.heap.size := by omega
      obtain ⟨W2, hW2⟩ : ∃ W, W = w1.alloc (.cells #[.bool r.g, .slice A3 n3 c3, .slice B3 m3 d3] 35) := ⟨_, rfl⟩
      have hbx : Below w1.heap.size w1 W2 := by rw [hW2]; exact (Below.refl _ _).alloc (Nat.le_refl _) _
      have F_2 : Hid (Box W2 w1.heap.size 35 #[.bool r.g, .slice A3 n3 c3, .slice B3 m3 d3]) := by rw [hW2]; exact Box.new _ _ _
      have D_2 := Lib.hid ((hm0_o.out.below hb1 hm0_o.out.lt).below hbx (hm0_o.out.below hb1 hm0_o.out.lt).lt)
      have O2 := Lib.hid (O1.out.below hbx)
      have W2' := Lib.hid (W1.out.trans (Wrote.of_below hbx))
      have HI2 := Lib.hid (HI1.out.below hbx)
      have HR2 := Lib.hid (HR1.out.below hbx)
      have I_2 := Lib.hid (i3.below hbx)
      have J_2 := Lib.hid (j3.below hbx)
      have hs12 := hbx.size
      obtain ⟨e30, e31, e32⟩ := at3
      clear hat hat2 hb1 i3 j3 ra3 rb3 hr hrc hbx O1 W1 HI1 HR1
      by_cases hin : i = n
      · have HH : Hid (Has L (clrTo P K rs n k (i + 1))) := by rw [clrTo_skip (.inl hin)]; exact hh
        have HA : Hid (AllOk (clrTo P K rs n k (i + 1))) := by rw [clrTo_skip (.inl hin)]; exact hA
        subst hin
        go_wp2_with fail
        rw [← hW2]
        clear hW2
        go_roundw
        case rel => exact ⟨i + 1, L, by omega, by go_num, O2, HH, HA, W2', hF⟩
        case measure => simp [intOf]; omega
      have hin2 : ((i : Int) == (n : Int)) = false := by simp; omega
      have HIN := Lib.hid hin
      go_wp2_with fail
      clear e30 e31 e32 hin hin2
      rw [← hW2]
      clear hW2
      refine (impl_ratSign0 r.g A3 n3 c3 r.xs B3 m3 d3 r.ds _ I_2.out RA3.out J_2.out RB3.out).mono ?_
      rintro e w3 ⟨s, rfl, hq, hb3⟩
      have HSN := Lib.hid (sign_nil HRK.out hq)
      have F_3 := Lib.hid (F_2.out.below hb3 F_2.out.lt)
      have D_3 := Lib.hid (D_2.out.below hb3 D_2.out.lt)
      have O3 := Lib.hid (O2.out.below hb3)
      have W3 := Lib.hid (W2'.out.trans (Wrote.of_below hb3))
      have HI3 := Lib.hid (HI2.out.below hb3)
      have HR3 := Lib.hid (HR2.out.below hb3)
      have I_3 := Lib.hid (I_2.out.below hb3)
      have J_3 := Lib.hid (J_2.out.below hb3)
      have hs23 := hb3.size
      clear hq hb3 F_2 D_2 O2 W2' HI2 HR2 I_2 J_2
      by_cases hx : s = 0
      · subst hx
        have HH : Hid (Has L (clrTo P K rs n k (i + 1))) := by rw [clrTo_skip (.inr (by rw [HRC.out]; exact HSN.out.1 rfl))]; exact hh
        have HA : Hid (AllOk (clrTo P K rs n k (i + 1))) := by rw [clrTo_skip (.inr (by rw [HRC.out]; exact HSN.out.1 rfl))]; exact hA
        go_wp2_with fail
        go_roundw
        case rel => exact ⟨i + 1, L, by omega, by go_num, O3, HH, HA, W3, hF⟩
        case measure => simp [intOf]; omega
      have hs1 : (s == 0) = false := by simpa using hx
      have HRN : Hid ((cell K rs i k).xs ≠ []) := by rw [HRC.out]; exact fun h0 => hx (HSN.out.2 h0)
      clear hx
      have hGw3 : G < w3.heap.size := by omega
      have F_4 := Lib.hid F_3.out.drew
      have D_4 := Lib.hid D_3.out.drew
      have B_4 := Lib.hid (Below.refl w3.heap.size w3).drew
      go_wp2_with fail
      go_region_held3 (fun w' => w'.cell? ⟨w1.heap.size, 0, none⟩ = some (.bool r.g) ∧ w'.cell? ⟨w1.heap.size, 1, none⟩ = some (.slice A3 n3 c3) ∧ w'.cell? ⟨w1.heap.size, 2, none⟩ = some (.slice B3 m3 d3) ∧ w'.cell? ⟨w.heap.size, 0, none⟩ = some (.int .i64 P) ∧ w'.cell? ⟨w.heap.size, 1, none⟩ = some (.int .i64 K) ∧ w'.cell? ⟨w.heap.size, 2, none⟩ = some (.slice (some ⟨G, 0, none⟩) N c)) (first | with_reducible exact two_mats F_6 D_6 | with_reducible exact two_mats F_5 D_5 | with_reducible exact two_mats F_4 D_4) (first | (go_at_call 193; (with_reducible refine (impl_scaleVector0 r.g A3 n3 c3 r.xs B3 m3 d3 r.ds (some ⟨G, u * 3, none⟩) K c7 (mrow K rs n) _ (I_3.out.below B_5.out) RA3.out (J_3.out.below B_5.out) RB3.out HRN5.out).mono ?_); rintro e w6 ⟨rr, VV, bb, rfl, hq, hres, hb6⟩; have B_6 := Lib.hid (B_5.out.trans (hb6.mono B_5.out.size)); have F_6 := Lib.hid (F_5.out.below hb6 F_5.out.lt); have D_6 := Lib.hid (D_5.out.below hb6 D_5.out.lt); have hm0_6 := D_6; obtain ⟨N9, hN9⟩ : ∃ N, N = rr.length := ⟨_, rfl⟩; obtain ⟨_, hf9, L9, ho9, hh9⟩ := hres; rw [← hN9] at ho9; obtain ⟨A9, c9, rfl⟩ := ho9.slice; have HQ := Lib.hid hq; have HF9 := Lib.hid hf9; have HO9 := Lib.hid ho9; have HH9 := Lib.hid hh9; have HN9 := Lib.hid hN9; clear hq ho9 hh9 hN9 hb6 hf9) | (go_at_call 72; (with_reducible refine (impl_rowAt P K n (some ⟨G, 0, none⟩) N c _ hnr hN20 hcN (fun _ => ⟨G, 0, rfl⟩) (by omega) hK24).mono ?_); rintro e w5 ⟨A7, c7, rfl, hc7, hat7, hb7⟩; have B_5 := Lib.hid (B_4.out.trans (hb7.mono B_4.out.size)); have F_5 := Lib.hid (F_4.out.below hb7 F_4.out.lt); have D_5 := Lib.hid (D_4.out.below hb7 D_4.out.lt); have HRN5 := Lib.hid ((HI3.out.below B_5.out).row hat7 hnr hK24); rw [row_used hn HL.out] at HRN5; rw [← HU.out] at hat7; obtain rfl : A7 = some ⟨G, u * 3, none⟩ := (by rcases hat7 with h0 | ⟨bb, oo, hA, hA'⟩; (exfalso; omega); (cases hA; rw [hA', Nat.zero_add])); clear hat7 hb7))
      have O6 := Lib.hid (O3.out.below B_6.out)
      have W6 := Lib.hid (W3.out.trans (Wrote.of_below B_6.out))
      have hz36 : w3.heap.size ≤ w6.heap.size := B_6.out.size
      cases bb with
      | false =>
        have hno : ¬ AllOk (mclear P K rs n k) := fun hall => by
          rcases HQ.out with ⟨_, _, hb⟩ | ⟨hno, _, _⟩
          · cases hb
          · refine hno ⟨⟨HRK.out, mrow_ok HM.out rfl HL.out hn⟩, ?_⟩
            have := (mult_bad HM.out hlt hn hk HIN.out HRN.out hall).1
            rwa [HRC.out] at this
        have HF : Hid (ChOkEnd base G N c L0 (mclear P K rs n k) w w6 (.returned (.bool false))) := ⟨false, rfl, ⟨fun e => (by cases e), fun e => absurd e hno⟩, fun e => (by cases e), WW0.out.trans W6.out⟩
        clear hno
        go_wp2_with fail
        go_ret
        exact HF.out
      | true =>
        have hrr : rr = (mrow K rs n).map (rmul (cell K rs i k)) := by
          rw [HRC.out]
          rcases HQ.out with ⟨_, h2, _⟩ | ⟨_, _, hb⟩
          · exact h2
          · cases hb
        have HRR := Lib.hid hrr
        have h0 : N9 = K := by rw [HN9.out, hrr, List.length_map, mrow_length HL.out hn]
        obtain rfl : K = N9 := h0.symm
        have HRV : Hid (∀ x ∈ rr, x.ok) := by
          rcases HQ.out with ⟨⟨_, h1⟩, h2, _⟩ | ⟨_, _, hb⟩
          · rw [h2]; exact h1
          · cases hb
        clear hrr
        have ehm00 := hm0_6.out.cell 0
        have ehm01 := hm0_6.out.cell 1
        have ehm02 := hm0_6.out.cell 2
        simp at ehm00 ehm01 ehm02
        go_wp2_with fail
        clear ehm00 ehm01 ehm02
        refine (impl_rowAt P K i (some ⟨G, 0, none⟩) N c _ hir hN20 hcN (fun _ => ⟨G, 0, rfl⟩) (by omega) hK24).mono ?_
        rintro e w7 ⟨A8, c8, rfl, hc8, hat, hb7⟩
        have HR7 := Lib.hid (((HI3.out.below B_6.out).below hb7).row hat hir hK24)
        rw [row_self hlt HL.out] at HR7
        rw [← HV.out] at hat
        obtain rfl : A8 = some ⟨G, v * 3, none⟩ := (by
          rcases hat with h0 | ⟨bb, oo, hA, hA'⟩
          · exfalso; omega
          · cases hA; rw [hA', Nat.zero_add])
        have HS7 : Hid (InV w7 A9 K rr) := (HO9.out.below hb7).in_ HH9.out (by omega) HF9.out
        have O7 := Lib.hid (O6.out.below hb7)
        have W7 := Lib.hid (W6.out.trans (Wrote.of_below hb7))
        have D_7 := Lib.hid (hm0_6.out.below hb7 hm0_6.out.lt)
        have hz7 := hb7.size
        clear hat hb7
        go_wp2_with fail
        refine (impl_subtractVectors0 (some ⟨G, v * 3, none⟩) K c8 (mrow K rs i) A9 K c9 rr _ HR7.out HS7.out).mono ?_
        rintro e w8 ⟨r2, V2, b2, rfl, hq2, hres2, hb8⟩
        have O8 := Lib.hid (O7.out.below hb8)
        have W8 := Lib.hid (W7.out.trans (Wrote.of_below hb8))
        have hm0_8 := Lib.hid (D_7.out.below hb8 D_7.out.lt)
        obtain ⟨N2, hN2⟩ : ∃ N, N = r2.length := ⟨_, rfl⟩
        obtain ⟨_, _, L2, ho2, hh2⟩ := hres2
        rw [← hN2] at ho2
        obtain ⟨A2, c2, rfl⟩ := ho2.slice
        have HQ2 := Lib.hid hq2
        have HO2 := Lib.hid ho2
        have HH2 := Lib.hid hh2
        have HN2 := Lib.hid hN2
        have hPO : PairOk (mrow K rs i) rr := ⟨mrow_ok HM.out rfl HL.out hlt, ⟨by rw [HRR.out, List.length_map, mrow_length HL.out hn]; exact hK24, HRV.out⟩, by rw [HRR.out, List.length_map, mrow_length HL.out hn, mrow_length HL.out hlt]⟩
        have HPO := Lib.hid hPO
        have HDR : Hid (List.zipWith rsub (mrow K rs i) rr = (List.range K).map (clr K rs n k i)) := by unfold Hid; rw [HRR.out]; exact diff_row HM.out hlt hn hk HIN.out HRN.out
        clear hq2 ho2 hh2 hN2 hb8 hPO
        cases b2 with
        | false =>
          have hno : ¬ AllOk (mclear P K rs n k) := fun hall => by
            rcases HQ2.out with ⟨_, _, hb⟩ | ⟨hno, _, _⟩
            · cases hb
            · refine hno ⟨HPO.out, ?_⟩
              rw [HDR.out]
              exact (mult_bad HM.out hlt hn hk HIN.out HRN.out hall).2
          have HF : Hid (ChOkEnd base G N c L0 (mclear P K rs n k) w w8 (.returned (.bool false))) := ⟨false, rfl, ⟨fun e => (by cases e), fun e => absurd e hno⟩, fun e => (by cases e), WW0.out.trans W8.out⟩
          clear hno
          go_wp2_with fail
          go_ret
          exact HF.out
        | true =>
          obtain ⟨hok2, hr2⟩ : (∀ x ∈ (List.range K).map (clr K rs n k i), x.ok) ∧ r2 = (List.range K).map (clr K rs n k i) := by
            rw [← HDR.out]
            rcases HQ2.out with ⟨⟨_, h1⟩, h2, _⟩ | ⟨_, _, hb⟩
            · exact ⟨h1, h2⟩
            · cases hb
          have h0 : N2 = K := by rw [HN2.out, hr2]; simp
          obtain rfl : K = N2 := h0.symm
          have HA2 : Hid (AllOk (clrTo P K rs n k (i + 1))) := next_ok hA.out hok2
          have HH3 : Hid (Has (L.take v ++ (L2 ++ L.drop (v + K))) (clrTo P K rs n k (i + 1))) := by
            rw [← List.append_assoc, ← clrTo_next hlt, ← HV.out, ← hr2]
            exact has_splice hh.out HH2.out
          obtain ⟨g2, hg2, _, hg2s⟩ := own_at' HO2.out.2.1 (by omega)
          subst hg2
          have HFar := Lib.hid (far_old O7.out HO2.out (Nat.le_refl _))
          have HF2 : Hid (FootIn w L0 (L.take v ++ (L2 ++ L.drop (v + K)))) := hF.out.splice HO2.out (by have := BW_0.out.size; have := hW.out.size; omega)
          have hb27 : base ≤ w7.heap.size := by omega
          clear hok2 hr2
          have ehm00 := hm0_8.out.cell 0
          have ehm01 := hm0_8.out.cell 1
          have ehm02 := hm0_8.out.cell 2
          simp at ehm00 ehm01 ehm02
          go_wp2_with fail
          clear ehm00 ehm01 ehm02
          refine (impl_rowAt P K i (some ⟨G, 0, none⟩) N c _ hir hN20 hcN (fun _ => ⟨G, 0, rfl⟩) (by omega) hK24).mono ?_
          rintro e w9 ⟨A8, c10, rfl, hc10, hat, hb9⟩
          rw [← HV.out] at hat
          obtain rfl : A8 = some ⟨G, v * 3, none⟩ := (by
            rcases hat with h0 | ⟨bb, oo, hA, hA'⟩
            · exfalso; omega
            · cases hA; rw [hA', Nat.zero_add])
          have O9 := Lib.hid (O8.out.below hb9)
          have M9 := Lib.hid (HO2.out.below hb9)
          have W9 := Lib.hid (W8.out.trans (Wrote.of_below hb9))
          clear hat hb9
          go_wp2_with (refine wpList_copy_el (o := ⟨some 55, _, _, _, _, _⟩) rfl (.tmp 53) (.tmp 54) 23 23 rfl Tryz.underlying23 hsz G v N c K c2 g2 c10 rfl rfl base _ L L2 O9.out M9.out hb27 HFar.out hvr _ (Below.refl _ _) ?_)
          intro w10 h1 h2 h3
          have O10 := Lib.hid h1
          have W10 := Lib.hid (W9.out.trans h3)
          clear h1 h2 h3
          go_wp2_with fail
          go_roundw
          case rel => exact ⟨i + 1, _, by omega, by go_num, O10, HH3, HA2, W10, HF2⟩
          case measure => simp [intOf]; omega
    · obtain rfl : i = P := by omega
      have HF : Hid (ChOkEnd base G N c L0 (mclear i K rs n k) w wo (.returned (.bool true))) := ⟨true, rfl, ⟨fun _ => by rw [← clrTo_all]; exact hA.out, fun _ => rfl⟩, fun _ => ⟨L, ho.out, by rw [← clrTo_all]; exact hh.out, hF.out⟩, WWo.out⟩
      go_wp2_with fail
      go_ret
      exact HF.out
end Go.Proofs.YthjbfdifeffilaaGreat
