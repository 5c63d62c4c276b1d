/- Contracts of matrices, by the program: applied to a vector. -/
import Derived.Test.YthjbfdifeffilaaGreatMatI
import Derived.Test.YthjbfdifeffilaaGreatMatS1
import Derived.Test.YthjbfdifeffilaaGreatVecB2
namespace Go.Proofs.YthjbfdifeffilaaGreat
set_option maxRecDepth 100000
open Go.RowKit

/-- An element that a call has handed back, about to be stored in a list that is told with its base. -/
theorem store_elB {wr w2 : World} {base G n c i : Nat} {L : List El} {g : Bool} {r d : List Int} {A B : Option Addr} {N M c2 d2 b1 : Nat} (ho : OwnV w2 base (.slice (some ⟨G, 0, none⟩) n c) n L) (hlt : ∀ x ∈ L, ∀ k, x.foot k → k < b1) (hb : base ≤ b1) (hi : i < n)
    (h1 : w2.ownsRow b1 3 1 (.slice A N c2) r.length (r.map (.int .i64))) (h2 : w2.ownsRow b1 3 1 (.slice B M d2) d.length (d.map (.int .i64))) (hap : Apart (.slice B M d2) (.slice A N c2)) (_ : wr = wr) :
    (∃ x0 x1 x2, w2.cell? ⟨G, i * 3, none⟩ = some x0 ∧ w2.cell? ⟨G, i * 3 + 1, none⟩ = some x1 ∧ w2.cell? ⟨G, i * 3 + 2, none⟩ = some x2 ∧ w2.frozen? ⟨G, i * 3, none⟩ = false ∧ w2.frozen? ⟨G, i * 3 + 1, none⟩ = false ∧ w2.frozen? ⟨G, i * 3 + 2, none⟩ = false) ∧
    OwnV (((w2.setCell ⟨G, i * 3, none⟩ (.bool g)).setCell ⟨G, i * 3 + 1, none⟩ (.slice A N c2)).setCell ⟨G, i * 3 + 2, none⟩ (.slice B M d2)) base (.slice (some ⟨G, 0, none⟩) n c) n (L.set i ⟨g, .slice A N c2, r.length, r.map (.int .i64), .slice B M d2, d.length, d.map (.int .i64)⟩) ∧
    Wrote (fun k => k = G) w2 (((w2.setCell ⟨G, i * 3, none⟩ (.bool g)).setCell ⟨G, i * 3 + 1, none⟩ (.slice A N c2)).setCell ⟨G, i * 3 + 2, none⟩ (.slice B M d2)) := by
  have he0 : (El.mk g (.slice A N c2) r.length (r.map (.int .i64)) (.slice B M d2) d.length (d.map (.int .i64))).own w2 b1 := ⟨h1, h2, hap⟩
  have hst := ho.store hi (he0.lower hb) fun x hx k hk hk' => by
    have a1 := hlt x hx k hk
    have a2 := (he0.lt k hk').1
    omega
  exact ⟨ho.room hi, hst.1, hst.2.mono fun k _ hk => by unfold blk at hk; simp [Value.ownBlock] at hk; exact hk.symm⟩
def ApplyEnd (P K : Nat) (rs vs : List RD) (base G N c o : Nat) (zs : List RD) (w w' : World) (e : Ending) : Prop :=
  ((∃ L, e = .returned (.bool true) ∧ OwnV w' base (.slice (some ⟨G, 0, none⟩) N c) N L ∧ Has L (upTo zs (o + P) N) ∧ ∀ i, i < P → (rinner (mrow K rs i) vs).ok) ∨
    (e = .returned (.bool false) ∧ ¬ ∀ i, i < P → (rinner (mrow K rs i) vs).ok)) ∧ Wrote (fun k => k = G) w w'
set_option maxHeartbeats 6400000 in
theorem impl_applyInto (base G N c o : Nat) (D : Option Addr) (dc P K : Nat) (A : Option Addr) (n c2 : Nat) (rs : List RD) (B : Option Addr) (d : Nat) (vs zs : List RD) (L : List El) (w : World)
    (ho : OwnV w base (.slice (some ⟨G, 0, none⟩) N c) N L) (hbase : base ≤ w.heap.size) (hh : Has L (upTo zs o N)) (hD : P = 0 ∨ D = some ⟨G, o * 3, none⟩) (hoP : o + P ≤ N) (hN : N ≤ 1024)
    (hz : ∀ i, i < P → zs[o + i]? = some (rinner (mrow K rs i) vs)) (hm : MOk P K rs) (hc : n ≤ c2) (hA : ∀ w', Wrote (fun k => k = G) w w' → InV w' A n rs) (hB : ∀ w', Wrote (fun k => k = G) w w' → InV w' B K vs) (hv : VOk vs) :
    Calls Tryz.prog 71 #[.slice D P dc, .agg #[.int .i64 P, .int .i64 K, .slice A n c2], .slice B K d] w fun e w' => ApplyEnd P K rs vs base G N c o zs w w' e := by
  obtain ⟨W0, hW0⟩ : ∃ W, W = (w.alloc (.cells #[.int .i64 P, .int .i64 K, .slice A n c2] 25)) := ⟨_, rfl⟩
  have hm0_0 : Hid (Box W0 (w.heap.size) 25 #[.int .i64 P, .int .i64 K, .slice A n c2]) := by rw [hW0]; exact (Box.at' (by simp))
  have BW_0 : Hid (Below w.heap.size w W0) := by rw [hW0]; exact ((Below.refl w.heap.size w).alloc (by simp) _)
  have hsz0 : w.heap.size + 1 ≤ W0.heap.size := by rw [hW0]; simp
  have hPb := hm.1
  have hKb := hm.2.1
  have hin := hA w (Wrote.refl _ _)
  have hvn := hB w (Wrote.refl _ _)
  have hn := hin.2.1
  have hnPK : n = P * K := by rw [← hin.1]; exact hm.plen
  have HNPK := Lib.hid hnPK
  have HAs := Lib.hid hin.some_
  have HM := Lib.hid hm
  have HA := Lib.hid hA
  have HB := Lib.hid hB
  have HV := Lib.hid hv
  have HVN := Lib.hid hvn.1
  have HZ := Lib.hid hz
  have HD := Lib.hid hD
  have O0 := Lib.hid (ho.below BW_0.out)
  have HH0 := Lib.hid hh
  have hP24 : P ≤ 24 := by omega
  have hK24 : K ≤ 24 := by omega
  have HGS : Hid (0 < N → G < w.heap.size) := fun h0 => by
    obtain ⟨g, hg, _, h2⟩ := own_at' ho.2.1 h0
    cases hg; exact h2
  have WW0 : Hid (Wrote (fun k => k = G) w W0) := Wrote.of_below BW_0.out
  clear ho hh hz hm hA hB hv hD hin hvn hnPK
  go_enter Tryz.func71, Tryz.ntmps71
  go_wp2_with fail
  rw [← hW0]
  clear hW0
  go_loopw [12] (fun y wr => ∃ (i : Nat) (L : List El), i ≤ P ∧ y = .int .i64 i ∧ Hid (OwnV wr base (.slice (some ⟨G, 0, none⟩) N c) N L) ∧ Hid (Has L (upTo zs (o + i) N)) ∧ Hid (Wrote (fun k => k = G) W0 wr) ∧ Hid (∀ t, t < i → (rinner (mrow K rs t) vs).ok)) (fun y _ => P - (intOf y).toNat)
  case atStart => exact ⟨0, L, Nat.zero_le _, rfl, O0, HH0, Wrote.refl _ _, fun t ht => by omega⟩
  case round =>
    obtain ⟨i, L, hle, rfl, ho, hh, hW, hk⟩ := hrel
    by_cases hlt : i < P
    · have hi0 : (0 : Int) ≤ (i : Int) := by omega
      have hi1 : (i : Int) < (P : Int) := by omega
      have hir : i * K + K ≤ n := by rw [HNPK.out]; exact row_le hlt
      have hG := HGS.out (by omega)
      have hDD : D = some ⟨G, o * 3, none⟩ := HD.out.resolve_left (by omega)
      subst hDD
      have hm0_r : Hid (Box wr w.heap.size 25 #[.int .i64 P, .int .i64 K, .slice A n c2]) := Lib.hid ((hW.out.block _ hm0_0.out.lt (by omega)).trans hm0_0.out)
      have WWr := Lib.hid (WW0.out.trans hW.out)
      have e3 : (o + i) * 3 = o * 3 + i * 3 := Nat.add_mul _ _ _
      have hoi : o + i < N := by omega
      have hsr : w.heap.size ≤ wr.heap.size := WWr.out.size
      have ehm00 := hm0_r.out.cell 0
      have ehm01 := hm0_r.out.cell 1
      have ehm02 := hm0_r.out.cell 2
      simp at ehm00 ehm01 ehm02
      go_wp2_with fail
      clear ehm00 ehm01 ehm02
      refine (impl_rowAt P K i A n c2 _ hir hn hc HAs.out (by omega) hK24).mono ?_
      rintro e w1 ⟨A', c', rfl, _, hat, hb1⟩
      have WW1 := Lib.hid (WWr.out.trans (Wrote.of_below hb1))
      have HR1 := Lib.hid ((HA.out w1 WW1.out).row hat hir hK24)
      have HB1 := Lib.hid (HB.out w1 WW1.out)
      have O1 := Lib.hid (ho.out.below hb1)
      have W1 := Lib.hid (hW.out.trans (Wrote.of_below hb1))
      have hs1 : wr.heap.size ≤ w1.heap.size := hb1.size
      clear hat hb1
      go_wp2_with fail
      refine (impl_innerProduct0 A' K c' (mrow K rs i) B K d vs _ HR1.out HB1.out).mono ?_
      rintro e w2 ⟨g, r, v, dd, q, b, rfl, hq, q1, q2, hap, hb2⟩
      obtain ⟨A6, c6, rfl⟩ := own_slice q1.2
      obtain ⟨B6, d6, rfl⟩ := own_slice q2.2
      have hPO : PairOk (mrow K rs i) vs := ⟨mrow_ok HM.out rfl HM.out.plen hlt, HV.out, by rw [mrow_length HM.out.plen hlt, HVN.out]⟩
      have hs2 : w1.heap.size ≤ w2.heap.size := hb2.size
      have W2 := Lib.hid (W1.out.trans (Wrote.of_below hb2))
      have W3 := Lib.hid (W2.out.trans (Wrote.of_below ((Below.refl _ _).alloc (Nat.le_refl _) (.cells #[.bool g, .slice A6 r.length c6, .slice B6 dd.length d6] 35))))
      have hl1 := q1.1
      have hl2 := q2.1
      rcases hq with ⟨hok, hrd, rfl⟩ | ⟨hno, _, rfl⟩
      case inr =>
        have HF : Hid (∀ W, Wrote (fun k => k = G) W0 W → ApplyEnd P K rs vs base G N c o zs w W (.returned (.bool false))) := fun W h => ⟨.inr ⟨rfl, fun hall => hno ⟨hPO, hall i hlt⟩⟩, WW0.out.trans h⟩
        clear hno q1 q2 hap hb2 hPO
        go_wp2_with fail
        go_ret
        exact HF.out _ W3.out
      have hst := store_elB (wr := wr) (base := base) (G := G) (n := N) (c := c) (i := o + i) (g := g) (r := r) (d := dd) (b1 := w1.heap.size) ((O1.out.below hb2).alloc (.cells #[.bool g, .slice A6 r.length c6, .slice B6 dd.length d6] 35)) (fun x hx k hk => ((O1.out.2.2.1 x hx).lt k hk).2) (by omega) hoi (q1.2.alloc _) (q2.2.alloc _) hap rfl
      obtain ⟨⟨x0, x1, x2, p0, p1, p2, f0, f1, f2⟩, s1, s2⟩ := hst
      rw [e3] at p0 p1 p2 f0 f1 f2 s1 s2
      have HO := Lib.hid s1
      have HW := Lib.hid (W3.out.trans s2)
      have HH : Hid (Has (L.set (o + i) ⟨g, .slice A6 r.length c6, r.length, r.map (.int .i64), .slice B6 dd.length d6, dd.length, dd.map (.int .i64)⟩) (upTo zs (o + (i + 1)) N)) := has_store hh.out (by rw [HZ.out i hlt, ← hrd]) hoi
      have HK : Hid (∀ t, t < i + 1 → (rinner (mrow K rs t) vs).ok) := fun t ht => by
        by_cases e : t = i
        · subst e; exact hok.2
        · exact hk.out t (by omega)
      clear s1 s2 hok hrd q1 q2 hap hb2 hPO
      go_wp2_with fail
      go_roundw
      case rel => exact ⟨i + 1, _, by omega, by go_num, HO, HH, HW, HK⟩
      case measure => simp [intOf]; omega
    · obtain rfl : i = P := by omega
      have HF : Hid (ApplyEnd i K rs vs base G N c o zs w wr (.returned (.bool true))) := ⟨.inl ⟨L, rfl, ho.out, hh.out, hk.out⟩, WW0.out.trans hW.out⟩
      go_wp2_with fail
      go_ret
      exact HF.out
def ApplyB (P K : Nat) (rs vs : List RD) (base G N c o : Nat) (zs : List RD) (w' : World) (b : Bool) : Prop :=
  (b = true ∧ ∃ L, OwnV w' base (.slice (some ⟨G, 0, none⟩) N c) N L ∧ Has L (upTo zs (o + P) N) ∧ ∀ i, i < P → (rinner (mrow K rs i) vs).ok) ∨ (b = false ∧ ¬ ∀ i, i < P → (rinner (mrow K rs i) vs).ok)
theorem ApplyEnd.said {P K : Nat} {rs vs : List RD} {base G N c o : Nat} {zs : List RD} {w w' : World} {e : Ending} (h : ApplyEnd P K rs vs base G N c o zs w w' e) : ∃ b, e = .returned (.bool b) ∧ ApplyB P K rs vs base G N c o zs w' b ∧ Wrote (fun k => k = G) w w' := by
  obtain ⟨h | h, hW⟩ := h
  · obtain ⟨L, rfl, h1, h2, h3⟩ := h
    exact ⟨true, rfl, .inl ⟨rfl, L, h1, h2, h3⟩, hW⟩
  · obtain ⟨rfl, h1⟩ := h
    exact ⟨false, rfl, .inr ⟨rfl, h1⟩, hW⟩
theorem own_at0 {w : World} {base : Nat} {E : TypeId} {size n c g : Nat} {xs : List Value} (h : w.ownsRow base E size (.slice (some ⟨g, 0, none⟩) n c) n xs) : base ≤ g ∧ g < w.heap.size := h.lt g rfl
theorem apply_no {p k : Int} {rs v : List RD} (h : ¬ (MOk p k rs ∧ VOk v ∧ (v.length : Int) = k)) : ApplyMatrixIs p k rs v [] false := done_no h
theorem mapp_all {P K : Nat} {rs v : List RD} : (∀ x ∈ mapp P K rs v, x.ok) ↔ ∀ i, i < P → (rinner (mrow K rs i) v).ok := by
  unfold mapp
  simp
set_option maxHeartbeats 3200000 in
theorem impl_applyMatrix0 (p k : Int) (A : Option Addr) (n c : Nat) (rs : List RD) (B : Option Addr) (m d : Nat) (vs : List RD) (w : World) (h1 : InV w A n rs) (hp : -9223372036854775808 ≤ p ∧ p ≤ 9223372036854775807) (hk : -9223372036854775808 ≤ k ∧ k ≤ 9223372036854775807) (hc : n ≤ c) (h2 : InV w B m vs) :
    Calls Tryz.prog 55 #[.agg #[.int .i64 p, .int .i64 k, .slice A n c], .slice B m d] w fun e w' => VecOkEnd (ApplyMatrixIs p k rs vs) w w' e := by
  obtain ⟨i0, hi, hz0, hz1, hz2⟩ := info_parts Tryz.infoR
  obtain ⟨W0, hW0⟩ : ∃ W, W = (w.alloc (.cells #[.int .i64 p, .int .i64 k, .slice A n c] 25)) := ⟨_, rfl⟩
  have hm0_0 : Hid (Box W0 (w.heap.size) 25 #[.int .i64 p, .int .i64 k, .slice A n c]) := by rw [hW0]; exact (Box.at' (by simp))
  have BW_0 : Hid (Below w.heap.size w W0) := by rw [hW0]; exact ((Below.refl w.heap.size w).alloc (by simp) _)
  have hsz0 : w.heap.size + 1 ≤ W0.heap.size := by rw [hW0]; simp
  have hn := h1.2.1
  have hmn := h2.2.1
  have HV := Lib.hid (h1.below BW_0.out)
  have HW := Lib.hid (h2.below BW_0.out)
  clear h1 h2
  go_enter Tryz.func55, Tryz.ntmps55
  go_wp2_with fail
  rw [← hW0]
  clear hW0
  refine (impl_matrixOk0 p k A n c rs _ HV.out hp hk hc).mono ?_
  rintro e w1 ⟨b, rfl, hq, hb⟩
  have hm0_1 := Lib.hid (hm0_0.out.below hb hm0_0.out.lt)
  have BW_1 := Lib.hid (BW_0.out.trans (hb.mono BW_0.out.size))
  replace HV := Lib.hid (HV.out.below hb)
  replace HW := Lib.hid (HW.out.below hb)
  clear hb
  have ehm00 := hm0_1.out.cell 0
  have ehm01 := hm0_1.out.cell 1
  have ehm02 := hm0_1.out.cell 2
  simp at ehm00 ehm01 ehm02
  cases b
  case false =>
    have HF : Hid (VecOkEnd (ApplyMatrixIs p k rs vs) w w1 (.returned (.tuple #[.slice none 0 0, .bool false]))) := ⟨[], _, false, rfl, apply_no (fun h => (by have h1 := hq.2 h.1; cases h1)), resV_nil _ _, BW_1.out⟩
    clear hq
    go_wp2_with fail
    go_ret2
    exact HF.out
  have HM := Lib.hid (hq.1 rfl)
  clear hq
  go_wp2_with fail
  clear ehm00 ehm01 ehm02
  refine (impl_isVector B m d vs _ HW.out).mono ?_
  rintro e w2 ⟨b, rfl, hq, hb⟩
  have hm0_2 := Lib.hid (hm0_1.out.below hb hm0_1.out.lt)
  have BW_2 := Lib.hid (BW_1.out.trans (hb.mono BW_1.out.size))
  replace HV := Lib.hid (HV.out.below hb)
  replace HW := Lib.hid (HW.out.below hb)
  clear hb
  have ehm00 := hm0_2.out.cell 0
  have ehm01 := hm0_2.out.cell 1
  have ehm02 := hm0_2.out.cell 2
  simp at ehm00 ehm01 ehm02
  cases b
  case false =>
    have HF : Hid (VecOkEnd (ApplyMatrixIs p k rs vs) w w2 (.returned (.tuple #[.slice none 0 0, .bool false]))) := ⟨[], _, false, rfl, apply_no (fun h => (by have h1 := hq.2 h.2.1; cases h1)), resV_nil _ _, BW_2.out⟩
    clear hq
    go_wp2_with fail
    go_ret2
    exact HF.out
  have HVK := Lib.hid (hq.1 rfl)
  clear hq
  by_cases hne : ((m : Int) != k) = true
  · have HF : Hid (VecOkEnd (ApplyMatrixIs p k rs vs) w w2 (.returned (.tuple #[.slice none 0 0, .bool false]))) := ⟨[], _, false, rfl, apply_no (fun h => by have h1 := h.2.2; rw [HW.out.1] at h1; simp at hne; exact hne h1), resV_nil _ _, BW_2.out⟩
    go_wp2_with fail
    go_ret2
    exact HF.out
  have hne2 : ((m : Int) != k) = false := by simpa using hne
  obtain rfl : k = m := by simp at hne; omega
  have hp2 := HM.out.1
  have hk2 := HM.out.2.1
  obtain ⟨P, rfl⟩ : ∃ P : Nat, p = P := ⟨p.toNat, by omega⟩
  have hP24 : P ≤ 24 := by omega
  have hpl := hm0_2.out.lt
  obtain ⟨zs, hzs⟩ : ∃ zs, zs = mapp P m rs vs := ⟨_, rfl⟩
  have HZ := Lib.hid hzs
  have HZL : Hid (zs.length = P) := by unfold Hid; rw [hzs, mapp_length]
  have HZG : Hid (Goods zs) := by rw [hzs]; exact mapp_goods hP24
  have hsz2 := BW_2.out.size
  clear hzs hne
  go_wp2_with (refine wpList_make_full _ rfl _ _ 23 rfl w2.heap.size 35 i0 (.agg #[.bool false, .slice none 0 0, .slice none 0 0]) 3 Tryz.underlying23 hi hz0 hz1 _ _ _ _ P rfl rfl rfl rfl ?c1 ?c2 ?c3 ?_)
  case c1 => rw [hz2]; omega
  case c2 => unfold maxLen; omega
  case c3 => exact Nat.le_refl _
  intro w3 ho hg
  have hbm : Below w2.heap.size w2 w3 := (Below.refl w2.heap.size w2).grown hg (Nat.le_refl _) (fun k hk => by cases hk)
  have BM := Lib.hid hbm
  have O3 := Lib.hid (OwnV.made ho)
  have hm0_3 := Lib.hid (hm0_2.out.below hbm hm0_2.out.lt)
  clear ho hg hbm
  clear ehm00 ehm01 ehm02
  have ehm00 := hm0_3.out.cell 0
  have ehm01 := hm0_3.out.cell 1
  have ehm02 := hm0_3.out.cell 2
  simp at ehm00 ehm01 ehm02
  go_wp2_with fail
  clear ehm00 ehm01 ehm02
  refine (impl_applyInto w2.heap.size w2.heap.size P P 0 (some ⟨w2.heap.size, 0, none⟩) P P m A n c rs B d vs zs _ _ O3.out BM.out.size (by rw [upTo_zero]; exact has_zeros P) (.inr (by simp)) (by omega) (by omega) (fun i hi => by rw [HZ.out, Nat.zero_add]; exact mapp_at hi) HM.out hc
    (fun w' hw => HV.out.below (Wrote.below BM.out hw (fun k hk => by omega) BM.out.size)) (fun w' hw => HW.out.below (Wrote.below BM.out hw (fun k hk => by omega) BM.out.size)) HVK.out).mono ?_
  rintro e w4 ⟨hc4, hW4⟩
  have B4 := Lib.hid (Wrote.below BM.out hW4 (fun k hk => by omega) BM.out.size)
  have BW_4 := Lib.hid (BW_2.out.trans (B4.out.mono BW_2.out.size))
  have HIFF : Hid ((∀ x ∈ zs, x.ok) ↔ ∀ i, i < P → (rinner (mrow m rs i) vs).ok) := by rw [HZ.out]; exact mapp_all
  rcases hc4 with ⟨L, rfl, ho4, hh4, hok⟩ | ⟨rfl, hno⟩
  · have HF : Hid (VecOkEnd (ApplyMatrixIs P m rs vs) w w4 (.returned (.tuple #[.slice (some ⟨w2.heap.size, 0, none⟩) P P, .bool true]))) :=
      ⟨zs, _, true, rfl, .inl ⟨⟨⟨HM.out, HVK.out, by rw [HW.out.1]⟩, by have := HIFF.out.2 hok; rwa [HZ.out] at this⟩, HZ.out, rfl⟩, resV_mk HZG.out HZL.out (ho4.lower hsz2) (by rwa [Nat.zero_add, upTo_all HZL.out] at hh4), BW_4.out⟩
    clear hok hh4 ho4 hW4
    go_wp2_with fail
    go_ret2
    exact HF.out
  · have HF : Hid (VecOkEnd (ApplyMatrixIs P m rs vs) w w4 (.returned (.tuple #[.slice none 0 0, .bool false]))) := ⟨[], _, false, rfl, .inr ⟨fun h => hno (HIFF.out.1 (by rw [HZ.out]; exact h.2)), rfl, rfl⟩, resV_nil _ _, BW_4.out⟩
    clear hno hW4
    go_wp2_with fail
    go_ret2
    exact HF.out
theorem impl_applyMatrix (p k : Int) (A : Option Addr) (n c : Nat) (rs : List RD) (B : Option Addr) (m d : Nat) (vs : List RD) (w : World) (h1 : InV w A n rs) (hp : -9223372036854775808 ≤ p ∧ p ≤ 9223372036854775807) (hk : -9223372036854775808 ≤ k ∧ k ≤ 9223372036854775807) (hc : n ≤ c) (h2 : InV w B m vs) :
    Calls Tryz.prog 55 #[.agg #[.int .i64 p, .int .i64 k, .slice A n c], .slice B m d] w fun e w' => ∃ r V b, e = .returned (.tuple #[V, .bool b]) ∧ ApplyMatrixIs p k rs vs r b ∧ ResV w w' V r ∧ Below w.heap.size w w' := (impl_applyMatrix0 p k A n c rs B m d vs w h1 hp hk hc h2).mono fun _ _ h => h
end Go.Proofs.YthjbfdifeffilaaGreat
