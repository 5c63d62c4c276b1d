/- Contracts of the elimination, by the program: a row divided by its pivot. -/
import Derived.Test.YthjbfdifeffilaaGreatElimM
import Derived.Test.YthjbfdifeffilaaGreatVecC2
import Derived.Test.YthjbfdifeffilaaGreatVecB3
namespace Go.Proofs.YthjbfdifeffilaaGreat
set_option maxRecDepth 100000
open Go.RowKit

/-- What a change in place reports: true, and what lies there now, or false where a number is too large. -/
def ChOkEnd (base G N c : Nat) (L0 : List El) (zs : List RD) (w w' : World) (e : Ending) : Prop :=
  ∃ b, e = .returned (.bool b) ∧ (b = true ↔ AllOk zs) ∧ (b = true → ∃ L, OwnV w' base (.slice (some ⟨G, 0, none⟩) N c) N L ∧ Has L zs ∧ FootIn w L0 L) ∧ Wrote (fun k => k = G) w w'
theorem div_row {P K n k : Nat} {rs : List RD} (hm : MOk P K rs) (hn : n < P) (hk : k < K) (hp : (cell K rs n k).xs ≠ []) :
    rs.take (n * K) ++ (mrow K rs n).map (rmul (rdiv R1 (cell K rs n k))) ++ rs.drop (n * K + K) = mdiv P K rs n k := by
  have hl := hm.plen
  rw [splice_row hl hn (by rw [List.length_map, mrow_length hl hn])]
  refine mk_congr fun a b _ hb => ?_
  by_cases h : a = n
  · rw [if_pos h, if_pos h, List.getElem?_map, mrow_at hb, cell_at hl hn hb]
    exact inv_mul (hm.all _ (cell_mem hl hn hk)) hp (hm.all _ (cell_mem hl hn hb))
  · rw [if_neg h, if_neg h]
theorem div_ok {P K n k : Nat} {rs : List RD} (hm : MOk P K rs) (hn : n < P) (hk : k < K) (hp : (cell K rs n k).xs ≠ []) :
    (∀ x ∈ (mrow K rs n).map (rmul (rdiv R1 (cell K rs n k))), x.ok) ↔ AllOk (mdiv P K rs n k) := by
  have hl := hm.plen
  unfold AllOk
  rw [show mdiv P K rs n k = mk P K _ from rfl, mk_all, mrow_is hl hn]
  constructor
  · intro h a b ha hb
    by_cases e : a = n
    · rw [if_pos e, ← inv_mul (hm.all _ (cell_mem hl hn hk)) hp (hm.all _ (cell_mem hl hn hb))]
      exact h _ (List.mem_map.2 ⟨_, List.mem_map.2 ⟨b, List.mem_range.2 hb, rfl⟩, rfl⟩)
    · rw [if_neg e]; exact hm.all _ (cell_mem hl ha hb)
  · intro h x hx
    obtain ⟨y, hy, rfl⟩ := List.mem_map.1 hx
    obtain ⟨b, hb, rfl⟩ := List.mem_map.1 hy
    have := h n b hn (List.mem_range.1 hb)
    rw [if_pos rfl] at this
    rwa [inv_mul (hm.all _ (cell_mem hl hn hk)) hp (hm.all _ (cell_mem hl hn (List.mem_range.1 hb)))]
set_option maxHeartbeats 6400000 in
theorem impl_divideRow (base G N c P K n k : Nat) (rs : List RD) (L : List El) (w : World) (ho : OwnV w base (.slice (some ⟨G, 0, none⟩) N c) N L) (hh : Has L rs) (hN : N = P * K) (hm : MOk P K rs) (hn : n < P) (hk : k < K) (hp : (cell K rs n k).xs ≠ []) (hbase : base ≤ w.heap.size) :
    Calls Tryz.prog 162 #[.agg #[.int .i64 P, .int .i64 K, .slice (some ⟨G, 0, none⟩) N c], .int .i64 n, .int .i64 k] w fun e w' => ChOkEnd base G N c L (mdiv P K rs n k) w w' e := by
  obtain ⟨i0, hi, hz0, hz1, hz2⟩ := info_parts Tryz.infoR
  have hsz : (Tryz.prog.info? 35).map (·.size) = some 3 := by rw [hi]; simp [hz1]
  clear hi hz0 hz1 hz2
  obtain ⟨W0, hW0⟩ : ∃ W, W = (w.alloc (.cells #[.int .i64 P, .int .i64 K, .slice (some ⟨G, 0, none⟩) N c] 25)) := ⟨_, rfl⟩
  have hm0_0 : Hid (Box W0 (w.heap.size) 25 #[.int .i64 P, .int .i64 K, .slice (some ⟨G, 0, none⟩) N c]) := by rw [hW0]; exact (Box.at' (by simp))
  have BW_0 : Hid (Below w.heap.size w W0) := by rw [hW0]; exact ((Below.refl w.heap.size w).alloc (by simp) _)
  have hsz0 : w.heap.size + 1 ≤ W0.heap.size := by rw [hW0]; simp
  have O0 := Lib.hid (ho.below BW_0.out)
  have HH0 := Lib.hid hh
  have HM := Lib.hid hm
  have HP := Lib.hid hp
  have HN := Lib.hid hN
  have WW0 : Hid (Wrote (fun k => k = G) w W0) := Wrote.of_below BW_0.out
  have hPb := hm.1
  have hKb := hm.2.1
  have hP24 : P ≤ 24 := by omega
  have hK24 : K ≤ 24 := by omega
  have hN5 : N ≤ 576 := by rw [hN]; exact mul_le_576 hP24 hK24
  have hnr : n * K + K ≤ N := by rw [hN]; exact row_le hn
  have hcN : N ≤ c := own_le ho.2.1
  have hGs : G < w.heap.size := (own_at0 ho.2.1).2
  have hGb : base ≤ G := (own_at0 ho.2.1).1
  have hN20 : N ≤ 1048576 := by omega
  obtain ⟨u, hu⟩ : ∃ u, u = n * K := ⟨_, rfl⟩
  have HU := Lib.hid hu
  have hur : u + K ≤ N := by omega
  have HFT := Lib.hid hm.goods
  clear ho hh hN hm hp hu
  go_enter Tryz.func162, Tryz.ntmps162
  go_wp2_with fail
  rw [← hW0]
  clear hW0
  refine (impl_rowAt P K n (some ⟨G, 0, none⟩) N c _ hnr hN20 hcN (fun _ => ⟨G, 0, rfl⟩) (by omega) hK24).mono ?_
  rintro e w1 ⟨A', c', rfl, hc', hat, hb1⟩
  have hat2 := hat
  rw [← HU.out] at hat2
  obtain rfl : A' = some ⟨G, u * 3, none⟩ := (by
    rcases hat2 with h0 | ⟨bb, oo, hA, hA'⟩
    · exfalso; omega
    · cases hA; rw [hA', Nat.zero_add])
  have O1 := Lib.hid (O0.out.below hb1)
  have W1 := Lib.hid (WW0.out.trans (Wrote.of_below hb1))
  have HI1 : Hid (InV w1 (some ⟨G, 0, none⟩) N rs) := O1.out.in_ HH0.out hN20 fun r hr => good_fits (HFT.out r hr)
  have HR1 := Lib.hid (HI1.out.row hat hnr hK24)
  have hs1 : W0.heap.size ≤ w1.heap.size := hb1.size
  have hGw1 : G < w1.heap.size := by omega
  obtain ⟨b3, o3, hbo, hb3, r, hr, A3, n3, c3, B3, m3, d3, at3, i3, ra3, j3, rb3⟩ := HR1.out.at_ k hk
  cases hbo
  have hrc : cell K rs n k = r := by
    unfold cell
    rw [← mrow_at (rs := rs) hk, hr]; rfl
  have HRC := Lib.hid hrc
  have HRK : Hid r.ok := HM.out.all _ (mem_mrow (List.mem_of_getElem? hr))
  have HRN : Hid (r.xs ≠ []) := by rw [← hrc]; exact HP.out
  have hn3 := i3.2.1
  have hm3 := j3.2.1
  have P_0 := Lib.hid at3.drew
  have I_0 := Lib.hid i3.drew
  have J_0 := Lib.hid j3.drew
  have RA3 := Lib.hid ra3
  have RB3 := Lib.hid rb3
  have B_0 := Lib.hid (Below.refl w1.heap.size w1).drew
  have hk0 : (0 : Int) ≤ (k : Int) := by omega
  have hk1 : (k : Int) < (K : Int) := by omega
  have HI := Lib.hid (inv_is HRK.out HRN.out)
  have HINR := Lib.hid HRK.out.nr
  have HIDR := Lib.hid HRK.out.dr
  have hx24 : r.xs.length ≤ 24 := HRK.out.2.2.2.2.1
  have hd24 : r.ds.length ≤ 24 := HRK.out.2.2.2.2.2
  clear hat hat2 hb1 at3 i3 j3 ra3 rb3 hr hrc
  go_wp2_with fail
  go_region_held3 (fun w' => w'.cell? ⟨G, u * 3 + k * 3, none⟩ = some (.bool r.g) ∧ w'.cell? ⟨G, u * 3 + k * 3 + 1, none⟩ = some (.slice A3 n3 c3) ∧ w'.cell? ⟨G, u * 3 + k * 3 + 2, none⟩ = some (.slice B3 m3 d3)) (first | with_reducible exact at3s P_3 | with_reducible exact at3s P_2 | with_reducible exact at3s P_1 | with_reducible exact at3s P_0) (first | (go_at_call 193; (with_reducible refine (impl_scaleVector0 r.g A5 r.ds.length c5 r.ds B5 r.xs.length d5 r.xs (some ⟨G, u * 3, none⟩) K c' (mrow K rs n) _ (in_gr hd24 HIDR.out O_5.out) (room_own O_5.out) (in_gr hx24 HINR.out U_5.out) (room_own U_5.out) (HR1.out.below B_2.out)).mono ?_); rintro e w6 ⟨rr, VV, bb, rfl, hq, hres, hb6⟩; have B_3 := Lib.hid (B_2.out.trans (hb6.mono B_2.out.size)); have P_3 := Lib.hid (P_2.out.below (Nat.lt_of_lt_of_le hGw1 B_2.out.size) hb6); have Z_9 := Lib.hid B_2.out.size; obtain ⟨N9, hN9⟩ : ∃ N, N = rr.length := ⟨_, rfl⟩; obtain ⟨_, _, L9, ho9, hh9⟩ := hres; rw [← hN9] at ho9; obtain ⟨A9, c9, rfl⟩ := ho9.slice; have HQ := Lib.hid hq; have HO9 := Lib.hid ho9; have HH9 := Lib.hid hh9; have HN9 := Lib.hid hN9; clear hq ho9 hh9 hN9 hb6) | (go_at_call 122; (with_reducible refine (impl_ratDiv false A4 1 c4 [1] B4 1 d4 [1] r.g A3 n3 c3 r.xs B3 m3 d3 r.ds _ O_4.out S_4.out U_4.out T_4.out I_1.out RA3.out J_1.out RB3.out).mono ?_); rintro e w5 ⟨g5, l5, v5, x5, y5, rfl, hq, q1, q2, hap, hb5⟩; obtain ⟨rfl, rfl, rfl⟩ := RD.mk.inj ((rdiv_of (r := R1) (s := r) hq).trans HI.out.1); obtain ⟨A5, c5, rfl⟩ := own_slice q1.2; obtain ⟨B5, d5, rfl⟩ := own_slice q2.2; have O_5 := Lib.hid q1.2; have U_5 := Lib.hid q2.2; have B_2 := Lib.hid (B_1.out.trans (hb5.mono B_1.out.size)); have P_2 := Lib.hid (P_1.out.below (Nat.lt_of_lt_of_le hGw1 B_1.out.size) hb5); clear hq q1 q2 hap hb5) | (go_at_call 67; (with_reducible refine (impl_ratFromInt 1 _ (by omega)).mono ?_); rintro e w4 ⟨g4, l4, v4, x4, y4, rfl, hq, q1, q2, hap, hb4⟩; obtain ⟨rfl, rfl, rfl⟩ := RD.mk.inj ((rint_of hq).trans rint1); obtain ⟨A4, c4, rfl⟩ := (own_slice q1.2 : ∃ A c, v4 = .slice A 1 c); obtain ⟨B4, d4, rfl⟩ := (own_slice q2.2 : ∃ A c, y4 = .slice A 1 c); have O_4 : Hid (InI w4 A4 1 [1]) := in_gr (by decide) one_ok.1.1 q1.2; have U_4 : Hid (InI w4 B4 1 [1]) := in_gr (by decide) one_ok.1.1 q2.2; have S_4 : Hid (Room A4 1 c4) := room_own q1.2; have T_4 : Hid (Room B4 1 d4) := room_own q2.2; have B_1 := Lib.hid (B_0.out.trans (hb4.mono B_0.out.size)); have P_1 := Lib.hid (P_0.out.below hGw1 hb4); have I_1 := Lib.hid (I_0.out.below hb4); have J_1 := Lib.hid (J_0.out.below hb4); clear hq q1 q2 hap hb4))
  have O6 := Lib.hid (O1.out.below B_3.out)
  have W6 := Lib.hid (W1.out.trans (Wrote.of_below B_3.out))
  cases bb with
  | false =>
    have h0 : N9 = 0 := by
      rcases HQ.out with ⟨_, _, hb⟩ | ⟨_, hr0, _⟩
      · cases hb
      · rw [HN9.out, hr0]; rfl
    subst h0
    have hno : ¬ AllOk (mdiv P K rs n k) := fun hall => by
      rcases HQ.out with ⟨_, _, hb⟩ | ⟨hno, _, _⟩
      · cases hb
      · refine hno ⟨⟨HI.out.2, mrow_ok HM.out rfl HM.out.plen hn⟩, ?_⟩
        have := (div_ok HM.out hn hk HP.out).2 hall
        rwa [HRC.out, HI.out.1] at this
    have HF : Hid (∀ W, Wrote (fun k => k = G) w W → ChOkEnd base G N c L (mdiv P K rs n k) w W (.returned (.bool false))) := fun W h => ⟨false, rfl, ⟨fun e => (by cases e), fun e => absurd e hno⟩, fun e => (by cases e), h⟩
    clear hno
    go_wp2_with (refine wpList_copy_zero (o := ⟨some 26, _, _, _, _, _⟩) rfl (.tmp 24) (.tmp 25) 23 23 rfl 35 Tryz.underlying23 3 hsz _ _ _ _ _ rfl rfl ?_)
    go_ret
    exact HF.out _ W6.out
  | true =>
    obtain ⟨hok, hrr⟩ : (∀ x ∈ (mrow K rs n).map (rmul (rdiv R1 (cell K rs n k))), x.ok) ∧ rr = (mrow K rs n).map (rmul (rdiv R1 (cell K rs n k))) := by
      rw [HRC.out, HI.out.1]
      rcases HQ.out with ⟨⟨_, h1⟩, h2, _⟩ | ⟨_, _, hb⟩
      · exact ⟨h1, h2⟩
      · cases hb
    have h0 : N9 = K := by rw [HN9.out, hrr, List.length_map, mrow_length HM.out.plen hn]
    subst h0
    obtain ⟨g2, hg2, _, hg2s⟩ := own_at' HO9.out.2.1 (by omega)
    subst hg2
    have HFar := Lib.hid (far_old O1.out HO9.out Z_9.out)
    have hbb := Nat.le_trans hbase (Nat.le_trans BW_0.out.size (Nat.le_trans hs1 Z_9.out))
    have HHF : Hid (Has (L.take u ++ (L9 ++ L.drop (u + N9))) (mdiv P N9 rs n k)) := by
      rw [← List.append_assoc, ← div_row HM.out hn hk HP.out, ← HU.out, ← hrr]
      exact has_splice HH0.out HH9.out
    have HAll := Lib.hid ((div_ok HM.out hn hk HP.out).1 hok)
    clear hok hrr
    go_wp2_with (refine wpList_copy_el (o := ⟨some 26, _, _, _, _, _⟩) rfl (.tmp 24) (.tmp 25) 23 23 rfl Tryz.underlying23 hsz G u N c N9 c9 g2 c' rfl rfl base _ L L9 O6.out HO9.out hbb HFar.out hur _ (Below.refl _ _) ?_)
    intro w7 h1 h2 h3
    have HF : Hid (ChOkEnd base G N c L (mdiv P N9 rs n k) w w7 (.returned (.bool true))) := ⟨true, rfl, ⟨fun _ => HAll.out, fun _ => rfl⟩, fun _ => ⟨_, h1, HHF.out, (FootIn.refl _ _).splice HO9.out (Nat.le_trans BW_0.out.size (Nat.le_trans hs1 Z_9.out))⟩, W6.out.trans h3⟩
    clear h1 h2 h3
    go_wp2_with fail
    go_ret
    exact HF.out
end Go.Proofs.YthjbfdifeffilaaGreat
