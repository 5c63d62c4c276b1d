/- Contracts of the elimination, by the model: a column made 0 outside one row. -/
import Derived.Test.YthjbfdifeffilaaGreatElS1
import Derived.Test.YthjbfdifeffilaaGreatElI5
import Derived.IntWalk
namespace Go.Proofs.YthjbfdifeffilaaGreat
set_option maxRecDepth 100000
open Go.RowKit

/-- The rows before i are done, and of row i the columns before j. -/
noncomputable def clrIn (P K : Nat) (rs : List RD) (n k i j : Nat) : List RD := mk P K fun a b => if a < i ∨ (a = i ∧ b < j) then clr K rs n k a b else cell K rs a b
section
variable {P K n k i j : Nat} {rs : List RD}
theorem clrIn_start (hlow : ∀ b, b < k → b < K → (cell K rs n b).xs = []) : clrIn P K rs n k i k = clrTo P K rs n k i := mk_congr fun a b _ hb => by
  by_cases h : a < i
  · rw [if_pos (.inl h), if_pos h]
  · rw [if_neg h]
    by_cases h2 : a = i ∧ b < k
    · rw [if_pos (.inr h2)]
      unfold clr
      rw [if_pos (.inr (.inr (hlow b h2.2 hb)))]
    · rw [if_neg (by rintro (h3 | h3); exact h h3; exact h2 h3)]
theorem clrIn_end : clrIn P K rs n k i K = clrTo P K rs n k (i + 1) := mk_congr fun a b _ hb => by
  by_cases h : a < i + 1
  · rw [if_pos (show a < i ∨ (a = i ∧ b < K) by omega), if_pos h]
  · rw [if_neg (show ¬ (a < i ∨ (a = i ∧ b < K)) by omega), if_neg h]
theorem clrIn_at (hi : i < P) (hj : j < K) : (clrIn P K rs n k i j)[i * K + j]? = some (cell K rs i j) := by
  unfold clrIn; rw [mk_at hi hj, if_neg (by omega)]
theorem clrIn_used (hn : n < P) (hj : j < K) : (clrIn P K rs n k i j)[n * K + j]? = some (cell K rs n j) := by
  unfold clrIn; rw [mk_at hn hj]
  split
  · rw [clr_n]
  · rfl
theorem clrIn_skip (h : (cell K rs n j).xs = []) : clrIn P K rs n k i (j + 1) = clrIn P K rs n k i j := mk_congr fun a b _ _ => by
  by_cases h2 : a = i ∧ b = j
  · obtain ⟨rfl, rfl⟩ := h2
    rw [if_pos (by omega), if_neg (by omega)]
    unfold clr; rw [if_pos (.inr (.inr h))]
  · by_cases h3 : a < i ∨ (a = i ∧ b < j)
    · rw [if_pos h3, if_pos (by omega)]
    · rw [if_neg h3, if_neg (by omega)]
theorem clrIn_set (hi : i < P) (hj : j < K) (h1 : i ≠ n) (h2 : (cell K rs i k).xs ≠ []) (h3 : (cell K rs n j).xs ≠ []) : (clrIn P K rs n k i j).set (i * K + j) (rsub (cell K rs i j) (rmul (cell K rs i k) (cell K rs n j))) = clrIn P K rs n k i (j + 1) := by
  unfold clrIn
  rw [mk_set hi hj]
  refine mk_congr fun a b _ _ => ?_
  by_cases h4 : a = i ∧ b = j
  · obtain ⟨rfl, rfl⟩ := h4
    rw [if_pos ⟨rfl, rfl⟩, if_pos (by omega)]
    unfold clr
    rw [if_neg (by simp [h1, h2, h3])]
  · rw [if_neg h4]
    by_cases h5 : a < i ∨ (a = i ∧ b < j)
    · rw [if_pos h5, if_pos (by omega)]
    · rw [if_neg h5, if_neg (by omega)]
theorem clr_good (hg : ∀ r ∈ rs, r.ok ∨ r = RD.zero) (hl : rs.length = P * K) {a b : Nat} (ha : a < P) (hb : b < K) : (clr K rs n k a b).ok ∨ clr K rs n k a b = RD.zero := by
  unfold clr
  split
  · exact hg _ (cell_mem hl ha hb)
  · exact rsub_good _ _
theorem clrTo_at {a : Nat} (ha : a < P) (hi : i ≤ a) (hj : j < K) : (clrTo P K rs n k i)[a * K + j]? = some (cell K rs a j) := by
  unfold clrTo; rw [mk_at ha hj, if_neg (by omega)]
end
theorem el_below {w w' : World} {b : Nat} {e : El} (h : e.own w b) (hb : Below w.heap.size w w') : e.own w' b := h.dep fun k hk => hb.block k (h.lt k hk).2
theorem FootIn.set {w w2 : World} {L L1 : List El} {t b : Nat} {e : El} (h : FootIn w L L1) (he : e.own w2 b) (hb : w.heap.size ≤ b) : FootIn w L (L1.set t e) := fun x hx k hk => by
  rcases List.mem_or_eq_of_mem_set hx with hx | rfl
  · exact h x hx k hk
  · exact .inr (Nat.le_trans hb (he.lt k hk).1)
theorem wrote_own {w w' : World} {base b2 G N c m : Nat} {L : List El} {e : El} (hW : Wrote (fun k => k = G) w w') (h : e.own w b2) (ho : OwnV w base (.slice (some ⟨G, 0, none⟩) N c) m L) : e.own w' b2 := h.dep fun k hk => hW.block k (h.lt k hk).2 fun e2 => by subst e2; exact el_other h ho.2.1 (by decide) k hk rfl
theorem wrote_box {w w' : World} {g G : Nat} {t : TypeId} {cs : Array Value} (hW : Wrote (fun k => k = G) w w') (h : Box w g t cs) (hne : g ≠ G) : Box w' g t cs := (hW.block g h.lt hne).trans h
set_option maxHeartbeats 12800000 in
theorem spec_l07Clear (base G N c P K n k : Nat) (rs : List RD) (L0 : List El) (w : World) (ho : OwnV w base (.slice (some ⟨G, 0, none⟩) N c) N L0) (hh : Has L0 rs) (hN : N = P * K) (hl : rs.length = N) (hg : ∀ r ∈ rs, r.ok ∨ r = RD.zero) (hlow : ∀ b, b < k → b < K → (cell K rs n b).xs = []) (hn : n < P) (hk : k < K) (hP : P ≤ 24) (hK : K ≤ 24) (hbase : base ≤ w.heap.size) :
    Calls Tryz.prog 191 #[.agg #[.int .i64 P, .int .i64 K, .slice (some ⟨G, 0, none⟩) N c], .int .i64 n, .int .i64 k] w fun e w' => UnitEnd (Changed base G N c L0 (mclear P K rs n k) w w') e := by
  obtain ⟨W0, hW0⟩ : ∃ W, W = (w.alloc (.cells #[.int .i64 P, .int .i64 K, .slice (some ⟨G, 0, none⟩) N c] 25)) := ⟨_, rfl⟩
  have hm0_0 : Hid (Box W0 (w.heap.size) 25 #[.int .i64 P, .int .i64 K, .slice (some ⟨G, 0, none⟩) N c]) := by rw [hW0]; exact (Box.at' (by simp))
  have BW_0 : Hid (Below w.heap.size w W0) := by rw [hW0]; exact ((Below.refl w.heap.size w).alloc (by simp) _)
  have hsz0 : w.heap.size + 1 ≤ W0.heap.size := by rw [hW0]; simp
  have O0 := Lib.hid (ho.below BW_0.out)
  have HN := Lib.hid hN
  have HL : Hid (rs.length = P * K) := hl.trans hN
  have HG := Lib.hid hg
  have HLOW := Lib.hid hlow
  have WW0 : Hid (Wrote (fun k => k = G) w W0) := Wrote.of_below BW_0.out
  have hN5 : N ≤ 576 := by rw [hN]; exact mul_le_576 hP hK
  have hcN : N ≤ c := own_le ho.2.1
  have hGs : G < w.heap.size := (own_at0 ho.2.1).2
  have hN20 : N ≤ 1048576 := by omega
  obtain ⟨u, hu⟩ : ∃ u, u = n * K := ⟨_, rfl⟩
  have HU := Lib.hid hu
  have hur : u + K ≤ N := by rw [hu, hN]; exact row_le hn
  have HH0 : Hid (Has L0 (clrTo P K rs n k 0)) := by rw [clrTo_zero HL.out]; exact hh
  have hk0 : (0 : Int) ≤ (k : Int) := by omega
  have hGm : w.heap.size ≠ G := by omega
  have hn24 : n ≤ 24 := by omega
  clear ho hh hN hl hg hlow hu
  go_enter Tryz.func191, Tryz.ntmps191
  go_wp2_with fail
  rw [← hW0]
  clear hW0
  go_loopw [6] (fun y wr => ∃ (i : Nat) (L : List El), i ≤ P ∧ y = .int .i64 i ∧ Hid (OwnV wr base (.slice (some ⟨G, 0, none⟩) N c) N L) ∧ Hid (Has L (clrTo P K rs n k i)) ∧ Hid (Wrote (fun k => k = G) W0 wr) ∧ Hid (FootIn w L0 L)) (fun y _ => P - (intOf y).toNat)
  case atStart => exact ⟨0, L0, Nat.zero_le _, rfl, O0, HH0, Wrote.refl _ _, FootIn.refl _ _⟩
  case round =>
    obtain ⟨i, L, hle, rfl, ho, hh, hW, hF⟩ := hrel
    obtain ⟨wo, rfl⟩ : ∃ wo : World, wo = wr := ⟨_, rfl⟩
    have WWo := Lib.hid (WW0.out.trans hW.out)
    have hm0_o : Hid (Box wo w.heap.size 25 #[.int .i64 P, .int .i64 K, .slice (some ⟨G, 0, none⟩) N c]) := wrote_box hW.out hm0_0.out hGm
    by_cases hlt : i < P
    · have hi0 : (0 : Int) ≤ (i : Int) := by omega
      have hi1 : (i : Int) < (P : Int) := by omega
      have hi24 : i ≤ 24 := by omega
      have hbo : base ≤ wo.heap.size := Nat.le_trans hbase WWo.out.size
      obtain ⟨v, hv⟩ : ∃ v, v = i * K := ⟨_, rfl⟩
      have HV := Lib.hid hv
      have hvr : v + K ≤ N := by rw [hv, HN.out]; exact row_le hlt
      obtain ⟨f, hf⟩ : ∃ f, f = cell K rs i k := ⟨_, rfl⟩
      have HFC := Lib.hid hf
      obtain ⟨Af, cf, Bf, df, hLf, hof, hatf⟩ := ho.out.elr hh.out (t := i * K + k) (r := f) (by rw [hf]; exact clrTo_at hlt (Nat.le_refl _) hk)
      rw [← hv] at hatf
      have HFG : Hid (f.ok ∨ f = RD.zero) := by rw [hf]; exact HG.out _ (cell_mem HL.out hlt hk)
      have hf1 : f.xs.length ≤ 1048576 := by have := (RD.gr HFG.out).short.1; omega
      have hf2 : f.ds.length ≤ 1048576 := by have := (RD.gr HFG.out).short.2; omega
      have HOF := Lib.hid hof
      have HATF : Hid (At3 wo G (0 + (v + k) * 3) (.bool f.g) (.slice Af f.xs.length cf) (.slice Bf f.ds.length df)) := by rw [Nat.zero_add]; exact hatf
      have hGo : G < wo.heap.size := by have := hW.out.size; omega
      have hvk : v + k < N := by omega
      clear hv hf hLf hof hatf
      have ehm00 := hm0_o.out.cell 0
      have ehm01 := hm0_o.out.cell 1
      have ehm02 := hm0_o.out.cell 2
      simp at ehm00 ehm01 ehm02
      go_wp2_with fail
      clear ehm00 ehm01 ehm02
      refine (spec_l06AtC P K i k (v + k) G 0 N c f.g Af f.xs.length cf Bf f.ds.length df _ (by rw [← HV.out]) hvk hN20 HATF.out hf1 hf2 hGo hi24 hK).mono ?_
      rintro e w1 ⟨rfl, hb1⟩
      have O1 := Lib.hid (ho.out.below hb1)
      have W1 := Lib.hid (hW.out.trans (Wrote.of_below hb1))
      obtain ⟨W2, hW2⟩ : ∃ W, W = w1.alloc (.cells #[.bool f.g, .slice Af f.xs.length cf, .slice Bf f.ds.length df] 35) := ⟨_, rfl⟩
      have hbx : Below w1.heap.size w1 W2 := by rw [hW2]; exact (Below.refl _ _).alloc (Nat.le_refl _) _
      have F_2 : Hid (Box W2 w1.heap.size 35 #[.bool f.g, .slice Af f.xs.length cf, .slice Bf f.ds.length df]) := by rw [hW2]; exact Box.new _ _ _
      have D_2 := Lib.hid ((hm0_o.out.below hb1 hm0_o.out.lt).below hbx (hm0_o.out.below hb1 hm0_o.out.lt).lt)
      have O2 := Lib.hid (O1.out.below hbx)
      have W2' := Lib.hid (W1.out.trans (Wrote.of_below hbx))
      have HOF2 := Lib.hid (el_below (el_below HOF.out hb1) hbx)
      have hs01 := hb1.size
      have hs12 := hbx.size
      have hFG : w1.heap.size ≠ G := by omega
      clear hb1 hbx O1 W1 HATF
      by_cases hin : i = n
      · have HH : Hid (Has L (clrTo P K rs n k (i + 1))) := by rw [clrTo_skip (.inl hin)]; exact hh
        subst hin
        go_wp2_with fail
        rw [← hW2]
        clear hW2
        go_roundw
        case rel => exact ⟨i + 1, L, by omega, by go_num, O2, HH, W2', hF⟩
        case measure => simp [intOf]; omega
      have hin2 : ((i : Int) == (n : Int)) = false := by simp; omega
      have HIN := Lib.hid hin
      go_wp2_with fail
      clear hin hin2
      rw [← hW2]
      clear hW2
      refine (spec_l05Nil f.g Af f.xs.length cf f.xs Bf f.ds.length df _ rfl hf1).mono ?_
      rintro e w3 ⟨b3, rfl, hq, hb3⟩
      have F_3 := Lib.hid (F_2.out.below hb3 F_2.out.lt)
      have D_3 := Lib.hid (D_2.out.below hb3 D_2.out.lt)
      have O3 := Lib.hid (O2.out.below hb3)
      have W3 := Lib.hid (W2'.out.trans (Wrote.of_below hb3))
      have HOF3 := Lib.hid (el_below HOF2.out hb3)
      have hs23 := hb3.size
      have HQ3 := Lib.hid hq
      clear hb3 F_2 D_2 O2 W2' HOF2 HOF hq
      cases b3 with
      | true =>
        have HH : Hid (Has L (clrTo P K rs n k (i + 1))) := by rw [clrTo_skip (.inr (by rw [← HFC.out]; exact HQ3.out.1 rfl))]; exact hh
        go_wp2_with fail
        go_roundw
        case rel => exact ⟨i + 1, L, by omega, by go_num, O3, HH, W3, hF⟩
        case measure => simp [intOf]; omega
      | false =>
        have HFN : Hid ((cell K rs i k).xs ≠ []) := by rw [← HFC.out]; exact fun h => by have := HQ3.out.2 h; cases this
        have HH3 : Hid (Has L (clrIn P K rs n k i k)) := by rw [clrIn_start HLOW.out]; exact hh
        clear HQ3
        go_wp2_with fail
        go_loopw [8] (fun x wy => ∃ (j : Nat) (L : List El), (k ≤ j ∧ j ≤ K) ∧ x = .int .i64 j ∧ Hid (OwnV wy base (.slice (some ⟨G, 0, none⟩) N c) N L) ∧ Hid (Has L (clrIn P K rs n k i j)) ∧ Hid (Wrote (fun k => k = G) W0 wy) ∧ Hid (FootIn w L0 L) ∧ Hid (Box wy w1.heap.size 35 #[.bool f.g, .slice Af f.xs.length cf, .slice Bf f.ds.length df]) ∧ Hid ((qEl f Af cf Bf df).own wy base)) (fun x _ => K - (intOf x).toNat)
        case atStart => exact ⟨k, L, ⟨Nat.le_refl _, Nat.le_of_lt hk⟩, rfl, O3, HH3, W3, hF, F_3, HOF3⟩
        case round =>
          clear ho hh hW hF O3 W3 F_3 HOF3 D_3 HH3
          obtain ⟨j, L, ⟨hkj, hjK⟩, rfl, ho, hh, hW, hF, hX, hOF⟩ := hrel
          obtain ⟨wi, rfl⟩ : ∃ wi : World, wi = wr := ⟨_, rfl⟩
          have hm0_i : Hid (Box wi w.heap.size 25 #[.int .i64 P, .int .i64 K, .slice (some ⟨G, 0, none⟩) N c]) := wrote_box hW.out hm0_0.out hGm
          have hsi := hW.out.size
          by_cases hltj : j < K
          · have hj0 : (0 : Int) ≤ (j : Int) := by omega
            have hj1 : (j : Int) < (K : Int) := by omega
            have hGi : G < wi.heap.size := by omega
            obtain ⟨q, hq⟩ : ∃ q, q = cell K rs n j := ⟨_, rfl⟩
            have HQC := Lib.hid hq
            obtain ⟨Aq, cq, Bq, dq, _, hoq, hatq⟩ := ho.out.elr hh.out (t := n * K + j) (r := q) (by rw [hq]; exact clrIn_used hn hltj)
            rw [← HU.out] at hatq
            have HQG : Hid (q.ok ∨ q = RD.zero) := by rw [hq]; exact HG.out _ (cell_mem HL.out hn hltj)
            have hq1 : q.xs.length ≤ 1048576 := by have := (RD.gr HQG.out).short.1; omega
            have hq2 : q.ds.length ≤ 1048576 := by have := (RD.gr HQG.out).short.2; omega
            have HATQ : Hid (At3 wi G (0 + (u + j) * 3) (.bool q.g) (.slice Aq q.xs.length cq) (.slice Bq q.ds.length dq)) := by rw [Nat.zero_add]; exact hatq
            have HOQ := Lib.hid hoq
            have huj : u + j < N := by omega
            clear hq hoq hatq
            have ehm00 := hm0_i.out.cell 0
            have ehm01 := hm0_i.out.cell 1
            have ehm02 := hm0_i.out.cell 2
            simp at ehm00 ehm01 ehm02
            go_wp2_with fail
            clear ehm00 ehm01 ehm02
            refine (spec_l06AtC P K n j (u + j) G 0 N c q.g Aq q.xs.length cq Bq q.ds.length dq _ (by rw [← HU.out]) huj hN20 HATQ.out hq1 hq2 hGi hn24 hK).mono ?_
            rintro e w4 ⟨rfl, hb4⟩
            have O4 := Lib.hid (ho.out.below hb4)
            have W4 := Lib.hid (hW.out.trans (Wrote.of_below hb4))
            have X4 := Lib.hid (hX.out.below hb4 hX.out.lt)
            have OF4 := Lib.hid (el_below hOF.out hb4)
            have hs4 := hb4.size
            clear hb4
            go_wp2_with fail
            refine (spec_l05Nil q.g Aq q.xs.length cq q.xs Bq q.ds.length dq _ rfl hq1).mono ?_
            rintro e w5 ⟨b5, rfl, hq5, hb5⟩
            have O5 := Lib.hid (O4.out.below hb5)
            have W5 := Lib.hid (W4.out.trans (Wrote.of_below hb5))
            have X5 := Lib.hid (X4.out.below hb5 X4.out.lt)
            have OF5 := Lib.hid (el_below OF4.out hb5)
            have hs5 := hb5.size
            have HQ5 := Lib.hid hq5
            clear hb5 hq5 O4 W4 X4 OF4 ho hW hX hOF HATQ HOQ
            cases b5 with
            | true =>
              have HH : Hid (Has L (clrIn P K rs n k i (j + 1))) := by rw [clrIn_skip (by rw [← HQC.out]; exact HQ5.out.1 rfl)]; exact hh
              clear HQ5
              go_wp2_with fail
              go_roundw
              case rel => exact ⟨j + 1, L, ⟨by omega, by omega⟩, by go_num, O5, HH, W5, hF, X5, OF5⟩
              case measure => simp [intOf]; omega
            | false =>
              obtain ⟨t, ht⟩ : ∃ t, t = v + j := ⟨_, rfl⟩
              have HTV := Lib.hid ht
              obtain ⟨x, hx⟩ : ∃ x, x = cell K rs i j := ⟨_, rfl⟩
              have HXC := Lib.hid hx
              have HXG : Hid (x.ok ∨ x = RD.zero) := by rw [hx]; exact HG.out _ (cell_mem HL.out hlt hltj)
              have hx1 : x.xs.length ≤ 1048576 := by have := (RD.gr HXG.out).short.1; omega
              have hx2 : x.ds.length ≤ 1048576 := by have := (RD.gr HXG.out).short.2; omega
              have htN : t < N := by omega
              have HT1 : Hid (i * K + j = t) := by unfold Hid; rw [HTV.out, HV.out]
              have HT2 : Hid (n * K + j = u + j) := by unfold Hid; rw [HU.out]
              have HXT : Hid ((clrIn P K rs n k i j)[t]? = some x) := by unfold Hid; rw [← HT1.out, hx]; exact clrIn_at hlt hltj
              obtain ⟨Ax, cx, Bx, dx, _, hox, hatx⟩ := O5.out.elr hh.out (t := t) (r := x) HXT.out
              obtain ⟨Aq, cq, Bq, dq, _, hoq, hatq⟩ := O5.out.elr hh.out (t := u + j) (r := q) (by rw [HQC.out, HU.out]; exact clrIn_used hn hltj)
              have hQN : (cell K rs n j).xs ≠ [] := by rw [← HQC.out]; exact fun h => by have := HQ5.out.2 h; cases this
              have HQN := Lib.hid hQN
              have TX : Hid (At3 w5.drew G (0 + t * 3) (.bool x.g) (.slice Ax x.xs.length cx) (.slice Bx x.ds.length dx)) := by rw [Nat.zero_add]; exact hatx.drew
              have TQ : Hid (At3 w5.drew G (0 + (u + j) * 3) (.bool q.g) (.slice Aq q.xs.length cq) (.slice Bq q.ds.length dq)) := by rw [Nat.zero_add]; exact hatq.drew
              have hbd : Below w5.heap.size w5 w5.drew := (Below.refl _ _).drew
              have OX := Lib.hid (el_below hox hbd)
              have OQ := Lib.hid (el_below hoq hbd)
              have OF := Lib.hid (el_below OF5.out hbd)
              have O := Lib.hid (O5.out.below hbd)
              have Q := Lib.hid (W5.out.trans (Wrote.of_below hbd))
              have F := Lib.hid (X5.out.below hbd X5.out.lt)
              have hm0_5 : Hid (Box w5 w.heap.size 25 #[.int .i64 P, .int .i64 K, .slice (some ⟨G, 0, none⟩) N c]) := wrote_box W5.out hm0_0.out hGm
              have D := Lib.hid (hm0_5.out.below hbd hm0_5.out.lt)
              have SZ : Hid (w5.heap.size ≤ w5.drew.heap.size) := Nat.le_refl _
              have hG5 : G < w5.heap.size := by omega
              have hiu : (i : Int) * (K : Int) = (v : Int) := by rw [HV.out]; exact (Int.natCast_mul _ _).symm
              have hut : (v : Int) + (j : Int) = (t : Int) := by omega
              have hw1 : IntKind.i64.wrap ((i : Int) * (K : Int)) = v := by rw [hiu]; exact IntWalk.i64_in _ (by omega)
              have hw2 : IntKind.i64.wrap ((v : Int) + (j : Int)) = t := by rw [hut]; exact IntWalk.i64_in _ (by omega)
              have hw3 : IntKind.i64.wrap (v : Int) = v := IntWalk.i64_in _ (by omega)
              have hw4 : IntKind.i64.wrap (t : Int) = t := IntWalk.i64_in _ (by omega)
              have ht0 : (0 : Int) ≤ (t : Int) := by omega
              have ht1 : (t : Int) < (N : Int) := by omega
              clear ht hx hox hatx hoq hatq hQN hbd O5 W5 X5 OF5 HQ5
              go_wp2_with fail
              go_region_held3 (fun w' => w'.cell? ⟨w.heap.size, 0, none⟩ = some (.int .i64 P) ∧ w'.cell? ⟨w.heap.size, 1, none⟩ = some (.int .i64 K) ∧ w'.cell? ⟨w.heap.size, 2, none⟩ = some (.slice (some ⟨G, 0, none⟩) N c) ∧ w'.cell? ⟨w1.heap.size, 0, none⟩ = some (.bool f.g) ∧ w'.cell? ⟨w1.heap.size, 1, none⟩ = some (.slice Af f.xs.length cf) ∧ w'.cell? ⟨w1.heap.size, 2, none⟩ = some (.slice Bf f.ds.length df)) (first | with_reducible exact two_mats D9 F9 | with_reducible exact two_mats D8 F8 | with_reducible exact two_mats D F) (first | (go_at_call 138; (with_reducible refine (spec_l05SubG x.g Ax x.xs.length cx x.xs Bx x.ds.length dx x.ds gm Am lm.length cm lm Bm xm.length dm xm _ (q_in1 OX.out HXG.out) (q_room1 OX.out) (q_in2 OX.out HXG.out) (q_room2 OX.out) (q_in1 (q := ⟨gm, lm, xm⟩) OM.out HGM.out) (q_room1 (q := ⟨gm, lm, xm⟩) OM.out) (q_in2 (q := ⟨gm, lm, xm⟩) OM.out HGM.out) (q_room2 (q := ⟨gm, lm, xm⟩) OM.out) (RD.gr HXG.out) (RD.gr HGM.out)).mono ?_); rintro e w9 ⟨g9, l9, v9, x9, y9, rfl, hq9, s1, s2, hap9, hb9⟩; obtain ⟨A9, c9, rfl⟩ := own_slice s1.2; obtain ⟨B9, d9, rfl⟩ := own_slice s2.2; have hst := store_elB (wr := w9) (g := g9) (r := l9) (d := x9) (O.out.below hb9) (fun y hy k hk => ((O.out.2.2.1 y hy).lt k hk).2) (Nat.le_trans hbase (Nat.le_trans WW0.out.size Q.out.size)) htN s1.2 s2.2 hap9 rfl; obtain ⟨⟨z0, z1, z2, p0, p1, p2, f0, f1, f2⟩, st1, st2⟩ := hst; have O9 := Lib.hid st1; have W9 := Lib.hid ((Q.out.trans (Wrote.of_below hb9)).trans st2); have D8 := Lib.hid (D.out.below hb9 D.out.lt); have F8 := Lib.hid (F.out.below hb9 F.out.lt); have D9 := Lib.hid (D8.out.set3 hGm (t * 3) (t * 3 + 1) (t * 3 + 2) (.bool g9) (.slice A9 l9.length c9) (.slice B9 x9.length d9)); have F9 := Lib.hid (F8.out.set3 hFG (t * 3) (t * 3 + 1) (t * 3 + 2) (.bool g9) (.slice A9 l9.length c9) (.slice B9 x9.length d9)); have OF9 := Lib.hid (wrote_own st2 (el_below OF.out hb9) (O.out.below hb9)); have HH9 := Lib.hid (hh.out.set t (e := ⟨g9, .slice A9 l9.length c9, l9.length, l9.map (.int .i64), .slice B9 x9.length d9, x9.length, x9.map (.int .i64)⟩) (r := ⟨g9, l9, x9⟩) ⟨rfl, rfl, rfl, rfl, rfl⟩); have HR9 : Hid (RD.mk g9 l9 x9 = rsub x (rmul f q)) := ((rsub_of (r := x) (s := ⟨gm, lm, xm⟩) hq9).trans (by rw [HRM.out])); have HF9 := Lib.hid (hF.out.set (t := t) (e := ⟨g9, .slice A9 l9.length c9, l9.length, l9.map (.int .i64), .slice B9 x9.length d9, x9.length, x9.map (.int .i64)⟩) (w2 := w9) (b := _) ⟨s1.2, s2.2, hap9⟩ (Nat.le_trans WW0.out.size Q.out.size)); clear hq9 s1 s2 hap9 hb9 st1 st2) | (go_at_call 139; (with_reducible refine (spec_l04MulG f.g Af f.xs.length cf f.xs Bf f.ds.length df f.ds q.g Aq q.xs.length cq q.xs Bq q.ds.length dq q.ds _ (q_in1 OF.out HFG.out) (q_room1 OF.out) (q_in2 OF.out HFG.out) (q_room2 OF.out) (q_in1 OQ.out HQG.out) (q_room1 OQ.out) (q_in2 OQ.out HQG.out) (q_room2 OQ.out) (RD.gr HFG.out) (RD.gr HQG.out)).mono ?_); rintro e w8 ⟨gm, lm, vm, xm, ym, rfl, hqm, m1, m2, hapm, hb8⟩; obtain ⟨Am, cm, rfl⟩ := own_slice m1.2; obtain ⟨Bm, dm, rfl⟩ := own_slice m2.2; have HRM : Hid (RD.mk gm lm xm = rmul f q) := rmul_of hqm; have HGM : Hid ((RD.mk gm lm xm).ok ∨ RD.mk gm lm xm = RD.zero) := (by rw [HRM.out]; exact rmul_good _ _); have OM0 : El.own w8 _ (qEl ⟨gm, lm, xm⟩ Am cm Bm dm) := ⟨m1.2, m2.2, hapm⟩; replace TX := Lib.hid (TX.out.below (Nat.lt_of_lt_of_le hG5 SZ.out) hb8); replace TQ := Lib.hid (TQ.out.below (Nat.lt_of_lt_of_le hG5 SZ.out) hb8); replace D := Lib.hid (D.out.below hb8 D.out.lt); replace F := Lib.hid (F.out.below hb8 F.out.lt); replace O := Lib.hid (O.out.below hb8); replace Q := Lib.hid (Q.out.trans (Wrote.of_below hb8)); replace OF := Lib.hid (el_below OF.out hb8); replace OQ := Lib.hid (el_below OQ.out hb8); replace OX := Lib.hid (el_below OX.out hb8); replace SZ := Lib.hid (Nat.le_trans SZ.out hb8.size); have OM := Lib.hid OM0; have hlm : lm.length ≤ 24 := (RD.gr HGM.out).short.1; have hxm : xm.length ≤ 24 := (RD.gr HGM.out).short.2; clear hqm m1 m2 hapm hb8 OM0) | (go_at_call 105; first | ((with_reducible refine (spec_l06AtC P K i j t G 0 N c x.g Ax x.xs.length cx Bx x.ds.length dx _ HT1.out htN hN20 TX.out hx1 hx2 (Nat.lt_of_lt_of_le hG5 SZ.out) hi24 hK).mono ?_); rintro e w6 ⟨rfl, hb6⟩; replace TX := Lib.hid (TX.out.below (Nat.lt_of_lt_of_le hG5 SZ.out) hb6); replace TQ := Lib.hid (TQ.out.below (Nat.lt_of_lt_of_le hG5 SZ.out) hb6); replace D := Lib.hid (D.out.below hb6 D.out.lt); replace F := Lib.hid (F.out.below hb6 F.out.lt); replace O := Lib.hid (O.out.below hb6); replace Q := Lib.hid (Q.out.trans (Wrote.of_below hb6)); replace OF := Lib.hid (el_below OF.out hb6); replace OQ := Lib.hid (el_below OQ.out hb6); replace OX := Lib.hid (el_below OX.out hb6); (try replace OM := Lib.hid (el_below OM.out hb6)); replace SZ := Lib.hid (Nat.le_trans SZ.out hb6.size); clear hb6) | ((with_reducible refine (spec_l06AtC P K n j (u + j) G 0 N c q.g Aq q.xs.length cq Bq q.ds.length dq _ HT2.out huj hN20 TQ.out hq1 hq2 (Nat.lt_of_lt_of_le hG5 SZ.out) hn24 hK).mono ?_); rintro e w7 ⟨rfl, hb7⟩; replace TX := Lib.hid (TX.out.below (Nat.lt_of_lt_of_le hG5 SZ.out) hb7); replace TQ := Lib.hid (TQ.out.below (Nat.lt_of_lt_of_le hG5 SZ.out) hb7); replace D := Lib.hid (D.out.below hb7 D.out.lt); replace F := Lib.hid (F.out.below hb7 F.out.lt); replace O := Lib.hid (O.out.below hb7); replace Q := Lib.hid (Q.out.trans (Wrote.of_below hb7)); replace OF := Lib.hid (el_below OF.out hb7); replace OQ := Lib.hid (el_below OQ.out hb7); replace OX := Lib.hid (el_below OX.out hb7); (try replace OM := Lib.hid (el_below OM.out hb7)); replace SZ := Lib.hid (Nat.le_trans SZ.out hb7.size); clear hb7)))
              all_goals
                have HHF : Hid (Has (L.set t ⟨g9, .slice A9 l9.length c9, l9.length, l9.map (.int .i64), .slice B9 x9.length d9, x9.length, x9.map (.int .i64)⟩) (clrIn P K rs n k i (j + 1))) := by
                  rw [← clrIn_set hlt hltj HIN.out HFN.out HQN.out, ← HXC.out, ← HFC.out, ← HQC.out, ← HR9.out, HT1.out]; exact HH9.out
                clear hiu hut hw1 hw2 hw3 hw4
                go_wp2_with fail
                go_roundw
                case rel => exact ⟨j + 1, _, ⟨by omega, by omega⟩, by go_num, O9, HHF, W9, HF9, F9, OF9⟩
                case measure => simp [intOf]; omega
          · obtain rfl : j = K := by omega
            have HH : Hid (Has L (clrTo P j rs n k (i + 1))) := by rw [← clrIn_end]; exact hh
            have ehm00 := hm0_i.out.cell 0
            have ehm01 := hm0_i.out.cell 1
            have ehm02 := hm0_i.out.cell 2
            simp at ehm00 ehm01 ehm02
            go_wp2_with fail
            go_roundw
            case rel => exact ⟨i + 1, L, by omega, by go_num, ho, HH, hW, hF⟩
            case measure => simp [intOf]; omega
    · obtain rfl : i = P := by omega
      have HF : Hid (UnitEnd (Changed base G N c L0 (mclear i K rs n k) w wo) (.returned (.tuple #[]))) := ⟨rfl, ⟨L, ho.out, by rw [← clrTo_all]; exact hh.out, hF.out⟩, WWo.out⟩
      have ehm00 := hm0_o.out.cell 0
      have ehm01 := hm0_o.out.cell 1
      have ehm02 := hm0_o.out.cell 2
      simp at ehm00 ehm01 ehm02
      go_wp2_with fail
      go_end0
      exact HF.out
end Go.Proofs.YthjbfdifeffilaaGreat
