/- Contracts of the elimination, by the model: the elimination itself. -/
import Derived.Test.YthjbfdifeffilaaGreatElimF
import Derived.Test.YthjbfdifeffilaaGreatElI3
import Derived.Test.YthjbfdifeffilaaGreatElI6
import Derived.Deep.DeepCutAuto
namespace Go.Proofs.YthjbfdifeffilaaGreat
set_option maxRecDepth 100000
open Go.RowKit

/-- A list that lies in a block that is newer than a world and the block behind it. -/
def NewB (w : World) (V : Value) : Prop := ∀ j, V.ownBlock = some j → w.heap.size < j
theorem newB_of {w w1 : World} {V V' : Value} (h : NewB w V) (hv : V'.ownBlock = V.ownBlock ∨ V'.ownBlock = some w1.heap.size) (hs : w.heap.size < w1.heap.size) : NewB w V' := fun j hj => by
  rcases hv with hv | hv
  · exact h j (hv ▸ hj)
  · rw [hv] at hj; injection hj with hj; omega
theorem wrote_grown {w w1 w2 : World} {G : Nat} {V : Value} (h : Wrote (fun k => k = G) w w1) (hg : w1.grownBy w2 V.ownBlock) (hn : NewB w V) : Wrote (fun k => k = G) w w2 :=
  ⟨hg.os.trans h.os, hg.tape.trans h.tape, hg.output.trans h.output, Nat.le_trans h.size hg.size, fun k hk hne => (hg.block k (Nat.lt_of_lt_of_le hk h.size) fun e => by have := hn k e.symm; omega).trans (h.block k hk hne)⟩
theorem box_grown {w w1 w2 : World} {t : TypeId} {cs : Array Value} {V : Value} (h : Box w1 w.heap.size t cs) (hg : w1.grownBy w2 V.ownBlock) (hn : NewB w V) : Box w2 w.heap.size t cs := h.grown hg fun e => by have := hn _ e.symm; omega
theorem EOk.none {P K n k : Nat} {rs0 : List RD} {s : ES} (h : EOk P K rs0 n k s) : ∀ j, j < k → firstRow P K s.rs n j = none := fun j hj => firstRow_none.2 fun i h1 h2 => h.low i j h1 h2 hj (by have := h.kle; omega)
theorem EOk.stop {P K n k i : Nat} {rs0 : List RD} {s : ES} (h : EOk P K rs0 n k s) (hn : n < P) (hf : firstRow P K s.rs n k = some i) (hk : k < K) (hno : ¬ AllOk (mpiv P K s.rs n i k)) : enext P K s n i k = est P K rs0 K := by
  have h1 := h.at_next hn hf h.none hk
  have h2 := est_done (P := P) (K := K) (k := k + 1) (rs := rs0) (by rw [h1]; exact fun k => hno k.2) (K - (k + 1))
  rw [show k + 1 + (K - (k + 1)) = K by omega, h1] at h2
  exact h2.symm
theorem div_low {P K n k i : Nat} {rs : List RD} (hm : MOk P K rs) (hl : Low P K rs n k) (hni : n ≤ i) (hi : i < P) (hk : k < K) (hp : (cell K rs i k).xs ≠ []) : (∀ b, b < k → b < K → (cell K (mswap P K rs n i) n b).xs = []) ∧ ∀ b, b < k → b < K → (cell K (mdiv P K (mswap P K rs n i) n k) n b).xs = [] := by
  have hn : n < P := by omega
  have h1 : ∀ b, b < k → b < K → (cell K (mswap P K rs n i) n b).xs = [] := fun b hb hbK => by rw [cell_mswap hn hbK, if_pos rfl]; exact hl i b hni hi hb hbK
  refine ⟨h1, fun b hb hbK => ?_⟩
  have hs := mswap_mok hm hn hi
  rw [cell_mdiv hn hbK, if_pos rfl, cell_mswap hn hk, if_pos rfl, rdiv_nil (mok_cell hs hn hbK) (mok_cell hm hi hk) hp (h1 b hb hbK)]
  rfl
def RedEnd (base G N c P K : Nat) (rs0 : List RD) (w w' : World) (e : Ending) : Prop :=
  ∃ (s : ES) (L Lf : List El) (Ap Af : Option Addr) (n cp nf cf : Nat), e = .returned (.tuple #[.slice Ap n cp, .slice Af nf cf]) ∧ s = est P K rs0 K ∧ s.pv.length = n ∧ n ≤ P ∧ RMem base w' G N c s.rs L s.pv Ap n cp Af nf cf Lf ∧ Has Lf s.fs ∧ Wrote (fun k => k = G) w w'
set_option maxHeartbeats 25600000 in
theorem spec_l07Reduce (base G N c P K : Nat) (rs0 : List RD) (L0 : List El) (w : World) (ho : OwnV w base (.slice (some ⟨G, 0, none⟩) N c) N L0) (hh : Has L0 rs0) (hN : N = P * K) (hm : MOk P K rs0) (hbase : base ≤ w.heap.size) :
    Calls Tryz.prog 153 #[.agg #[.int .i64 P, .int .i64 K, .slice (some ⟨G, 0, none⟩) N c]] w fun e w' => RedEnd base G N c P K rs0 w w' e := by
  obtain ⟨i0, hi, hz0, hz1, hz2⟩ := info_parts Tryz.infoR
  obtain ⟨j0, hj, hy0, hy1, hy2⟩ := info_parts Tryz.infoI
  obtain ⟨W0, hW0⟩ : ∃ W, W = (w.alloc (.cells #[.int .i64 P, .int .i64 K, .slice (some ⟨G, 0, none⟩) N c] 25)) := ⟨_, rfl⟩
  have hm0_0 : Hid (Box W0 (w.heap.size) 25 #[.int .i64 P, .int .i64 K, .slice (some ⟨G, 0, none⟩) N c]) := by rw [hW0]; exact (Box.at' (by simp))
  have BW_0 : Hid (Below w.heap.size w W0) := by rw [hW0]; exact ((Below.refl w.heap.size w).alloc (by simp) _)
  have hsz0 : w.heap.size + 1 ≤ W0.heap.size := by rw [hW0]; simp
  have hPb := hm.1
  have hKb := hm.2.1
  have hP24 : P ≤ 24 := by omega
  have hK24 : K ≤ 24 := by omega
  have O0 := Lib.hid (ho.below BW_0.out)
  have HN := Lib.hid hN
  have WW0 : Hid (Wrote (fun k => k = G) w W0) := Wrote.of_below BW_0.out
  have hN5 : N ≤ 576 := by rw [hN]; exact mul_le_576 hP24 hK24
  have hGs : G < w.heap.size := (own_at0 ho.2.1).2
  have hN20 : N ≤ 1048576 := by omega
  have hGm : w.heap.size ≠ G := by omega
  have EO0 := Lib.hid (EOk.start hm)
  have HH0 := Lib.hid hh
  have HM := Lib.hid hm
  clear ho hh hN hm
  have HW0s : Hid (W0.heap.size = w.heap.size + 1) := by rw [hW0]; exact Lib.hid (by simp)
  go_enter Tryz.func153, Tryz.ntmps153
  go_wp2_with fail
  rw [← hW0]
  clear hW0
  obtain ⟨W1, hW1⟩ : ∃ W, W = W0.alloc (.cells #[] 3) := ⟨_, rfl⟩
  rw [← hW1]
  obtain ⟨W2, hW2⟩ : ∃ W, W = W1.alloc (.cells #[] 35) := ⟨_, rfl⟩
  rw [← hW2]
  have hs01 : W1.heap.size = W0.heap.size + 1 := by rw [hW1]; simp
  have hb01 : Below W0.heap.size W0 W1 := by rw [hW1]; exact (Below.refl _ _).alloc (Nat.le_refl _) _
  have hb12 : Below W1.heap.size W1 W2 := by rw [hW2]; exact (Below.refl _ _).alloc (Nat.le_refl _) _
  have M_2 : Hid (RMem base W2 G N c rs0 L0 [] (some ⟨W0.heap.size, 0, none⟩) 0 0 (some ⟨W0.heap.size + 1, 0, none⟩) 0 0 []) := by
    have hpv : W1.ownsRow base 3 1 (.slice (some ⟨W0.heap.size, 0, none⟩) 0 0) 0 (ivals []) := by
      rw [hW1]; exact own_base (own_of_box (Lib.hid (Box.new _ _ _))) (by omega)
    have hfc : W2.ownsRow base 35 3 (.slice (some ⟨W0.heap.size + 1, 0, none⟩) 0 0) 0 (flat []) := by
      rw [hW2, ← hs01]; exact own_base (OwnV.empty W1 35).2.1 (by omega)
    refine ⟨(O0.out.below hb01).below hb12, HH0.out, own_below hpv hb12, hfc, (fun e he => by cases he), fun x hx k hk e => ?_, fun e => by simp [Value.ownBlock] at e; omega⟩
    simp [Value.ownBlock] at e
    have h1 := (O0.out.2.2.1 x (by simpa using hx)).lt k hk
    omega
  have D_2 := Lib.hid ((hm0_0.out.below hb01 hm0_0.out.lt).below hb12 (by have := hm0_0.out.lt; omega))
  have WW2 := Lib.hid ((WW0.out.trans (Wrote.of_below hb01)).trans (Wrote.of_below hb12))
  have NP0 : Hid (NewB w (.slice (some ⟨W0.heap.size, 0, none⟩) 0 0)) := fun j hj => by simp [Value.ownBlock] at hj; omega
  have NF0 : Hid (NewB w (.slice (some ⟨W0.heap.size + 1, 0, none⟩) 0 0)) := fun j hj => by simp [Value.ownBlock] at hj; omega
  clear hW1 hW2 hb01 hb12 hs01
  rw [HW0s.out] at M_2 NP0 NF0
  go_loopw [4, 5, 6] (fun t4 t5 t6 wr => ∃ (k : Nat) (s : ES) (L Lf : List El) (Ap Af : Option Addr) (n cp nf cf : Nat), k ≤ K ∧ n ≤ P ∧ nf ≤ 2 * n ∧ t6 = .int .i64 k ∧ t4 = .slice Ap n cp ∧ t5 = .slice Af nf cf ∧ Hid (EOk P K rs0 n k s) ∧ Hid (RMem base wr G N c s.rs L s.pv Ap n cp Af nf cf Lf) ∧ Hid (Has Lf s.fs) ∧ Hid (Box wr w.heap.size 25 #[.int .i64 P, .int .i64 K, .slice (some ⟨G, 0, none⟩) N c]) ∧ Hid (NewB w (.slice Ap n cp)) ∧ Hid (NewB w (.slice Af nf cf)) ∧ Hid (Wrote (fun k => k = G) w wr)) (fun _ _ t6 _ => K - (intOf t6).toNat)
  case atStart => exact ⟨0, _, L0, [], _, _, 0, 0, 0, 0, Nat.zero_le _, Nat.zero_le _, Nat.zero_le _, rfl, rfl, rfl, EO0, M_2, trivial, D_2, NP0, NF0, WW2⟩
  case round =>
    obtain ⟨k, s, L, Lf, Ap, Af, n, cp, nf, cf, hkK, hnP, hnf, rfl, rfl, rfl, hEO, hM, hHF, hD, hNP, hNF, hW⟩ := hrel
    obtain ⟨wo, rfl⟩ : ∃ wo : World, wo = wr := ⟨_, rfl⟩
    have ed0 := hD.out.cell 0
    have ed1 := hD.out.cell 1
    simp at ed0 ed1
    by_cases hk : k < K
    case neg =>
      have hst : s = est P K rs0 K := by rw [← hEO.out.st, show k = K by omega]
      have HF : Hid (RedEnd base G N c P K rs0 w wo (.returned (.tuple #[.slice Ap n cp, .slice Af nf cf]))) := ⟨s, L, Lf, Ap, Af, n, cp, nf, cf, rfl, hst, hEO.out.len, hnP, hM.out, hHF.out, hW.out⟩
      have hk1 : ¬ ((k : Int) < (K : Int)) := by omega
      clear hst
      go_wp2_with fail
      go_ret2
      exact HF.out
    have hk0 : (0 : Int) ≤ (k : Int) := by omega
    have hk1 : (k : Int) < (K : Int) := by omega
    by_cases hn : n < P
    case neg =>
      have hst : s = est P K rs0 K := (hEO.out.full (by omega)).symm
      have HF : Hid (RedEnd base G N c P K rs0 w wo (.returned (.tuple #[.slice Ap n cp, .slice Af nf cf]))) := ⟨s, L, Lf, Ap, Af, n, cp, nf, cf, rfl, hst, hEO.out.len, hnP, hM.out, hHF.out, hW.out⟩
      have hn1 : ¬ ((n : Int) < (P : Int)) := by omega
      clear hst
      go_wp2_with fail
      go_ret2
      exact HF.out
    have hn0 : (0 : Int) ≤ (n : Int) := by omega
    have hn1 : (n : Int) < (P : Int) := by omega
    have hwo := hW.out.size
    have hGo : G < wo.heap.size := by omega
    have hk24 : k ≤ 24 := by omega
    go_wp2_with fail
    clear ed0 ed1
    go_loopw [8] (fun x wy => ∃ i : Nat, n ≤ i ∧ i ≤ P ∧ x = .int .i64 i ∧ Hid (∀ a, n ≤ a → a < i → (cell K s.rs a k).xs = []) ∧ Hid (Below wo.heap.size wo wy)) (fun x _ => P - (intOf x).toNat)
    case atStart => exact ⟨n, Nat.le_refl _, hnP, rfl, (fun a h1 h2 => by omega), Below.refl _ _⟩
    case round =>
      obtain ⟨i, hni, hiP, rfl, hnil, hb⟩ := hrel
      obtain ⟨wi, rfl⟩ : ∃ wi : World, wi = wr := ⟨_, rfl⟩
      have D_i := Lib.hid (hD.out.below hb.out hD.out.lt)
      have M_i := Lib.hid (hM.out.below hb.out)
      have W_i := Lib.hid (hW.out.trans (Wrote.of_below hb.out))
      have ed0 := D_i.out.cell 0
      have ed1 := D_i.out.cell 1
      have ed2 := D_i.out.cell 2
      simp at ed0 ed1 ed2
      by_cases hi2 : i < P
      case neg =>
        obtain rfl : i = P := by omega
        have HFN : Hid (firstRow i K s.rs n k = none) := firstRow_none.2 fun a h1 h2 => hnil.out a h1 h2
        have HEN : Hid (EOk i K rs0 n (k + 1) s) := by
          refine ⟨hk, ?_, hEO.out.len, hEO.out.mok, fun a b ha haP hbk hbK => ?_⟩
          · have h1 := est_succ i K rs0 k
            rw [hEO.out.st, estep_none (by rw [hEO.out.len]; exact HFN.out)] at h1
            exact h1
          · by_cases e : b = k
            · subst e; exact hnil.out a ha haP
            · exact hEO.out.low a b ha haP (by omega) hbK
        have hi3 : ¬ ((i : Int) < (i : Int)) := by omega
        go_wp2_with fail
        go_roundw
        case rel => exact ⟨k + 1, s, L, Lf, Ap, Af, n, cp, nf, cf, hk, hnP, hnf, by go_num, rfl, rfl, HEN, M_i, hHF, D_i, hNP, hNF, W_i⟩
        case measure => simp [intOf]; omega
      have hi0 : (0 : Int) ≤ (i : Int) := by omega
      have hi3 : (i : Int) < (P : Int) := by omega
      have hi24 : i ≤ 24 := by omega
      have hsi := hb.out.size
      have hGi : G < wi.heap.size := by omega
      obtain ⟨f, hf⟩ : ∃ f, f = cell K s.rs i k := ⟨_, rfl⟩
      have HFC := Lib.hid hf
      have HFG : Hid f.ok := by rw [hf]; exact mok_cell hEO.out.mok hi2 hk
      obtain ⟨t, ht⟩ : ∃ t, t = i * K + k := ⟨_, rfl⟩
      have htN : t < N := by rw [ht, HN.out]; exact cell_lt hi2 hk
      obtain ⟨Aq, cq, Bq, dq, _, hoq, hatq⟩ := M_i.out.own.elr M_i.out.has (t := t) (r := f) (by rw [hf, ht]; exact cell_at (mok_plen hEO.out.mok) hi2 hk)
      have hf1 : f.xs.length ≤ 1048576 := by have := HFG.out.2.2.2.2.1; omega
      have hf2 : f.ds.length ≤ 1048576 := by have := HFG.out.2.2.2.2.2; omega
      have HATQ : Hid (At3 wi G (0 + t * 3) (.bool f.g) (.slice Aq f.xs.length cq) (.slice Bq f.ds.length dq)) := by rw [Nat.zero_add]; exact hatq
      have HT := Lib.hid ht
      clear hf ht hoq hatq
      go_wp2_with fail
      clear ed0 ed1 ed2
      refine (spec_l06AtC P K i k t G 0 N c f.g Aq f.xs.length cq Bq f.ds.length dq _ HT.out.symm htN hN20 HATQ.out hf1 hf2 hGi hi24 hK24).mono ?_
      rintro e w1 ⟨rfl, hb1⟩
      have B1 := Lib.hid (hb.out.trans (hb1.mono hb.out.size))
      clear hb1
      go_wp2_with fail
      refine (spec_l05Nil f.g Aq f.xs.length cq f.xs Bq f.ds.length dq _ rfl hf1).mono ?_
      rintro e w2 ⟨b2, rfl, hq2, hb2⟩
      have B2 := Lib.hid (B1.out.trans (hb2.mono B1.out.size))
      have HQ2 := Lib.hid hq2
      clear hb2 hq2 B1 M_i D_i W_i HATQ
      cases b2 with
      | true =>
        have HN2 : Hid (∀ a, n ≤ a → a < i + 1 → (cell K s.rs a k).xs = []) := fun a h1 h2 => by
          by_cases e : a = i
          · subst e; rw [← HFC.out]; exact HQ2.out.1 rfl
          · exact hnil.out a h1 (by omega)
        go_wp2_with fail
        go_roundw
        case rel => exact ⟨i + 1, by omega, by omega, by go_num, HN2, B2⟩
        case measure => simp [intOf]; omega
      | false =>
        have HFR : Hid (firstRow P K s.rs n k = some i) := firstRow_some hni hi2 (by rw [← HFC.out]; exact fun h => by have := HQ2.out.2 h; cases this) hnil.out
        have M_2 := Lib.hid (hM.out.below B2.out)
        have D_2 := Lib.hid (hD.out.below B2.out hD.out.lt)
        have W_2 := Lib.hid (hW.out.trans (Wrote.of_below B2.out))
        have hs2 := W_2.out.size
        have hip : ((i : Int) == (P : Int)) = false := by simp; omega
        clear HQ2 hM hD hW hb hnil
        have hu24 : n ≤ 24 := by omega
        have hn24 : n ≤ 24 := by omega
        have HMS := Lib.hid (mswap_mok hEO.out.mok hn hi2)
        have HPN : Hid ((cell K s.rs i k).xs ≠ []) := (of_firstRow HFR.out).2.2.1
        have ed0 := D_2.out.cell 0
        have ed1 := D_2.out.cell 1
        have ed2 := D_2.out.cell 2
        simp at ed0 ed1 ed2
        go_upto_if 50 with fail
        go_cut [5] (fun s5 wx => ∃ (L Lf : List El) (Af : Option Addr) (nf2 cf : Nat), s5 = .slice Af nf2 cf ∧ nf2 ≤ 2 * n + 1 ∧ Hid (RMem base wx G N c (mswap P K s.rs n i) L s.pv Ap n cp Af nf2 cf Lf) ∧ Hid (Has Lf (s.fs ++ (if i = n then [] else [rint (-1)]))) ∧ Hid (Box wx w.heap.size 25 #[.int .i64 P, .int .i64 K, .slice (some ⟨G, 0, none⟩) N c]) ∧ Hid (NewB w (.slice Af nf2 cf)) ∧ Hid (Wrote (fun k => k = G) w wx))
        case first =>
          by_cases hin : i = n
          · subst hin
            have M_3 : Hid (RMem base w2 G N c (mswap P K s.rs i i) L s.pv Ap i cp Af nf cf Lf) := by rw [mswap_self (mok_plen hEO.out.mok)]; exact M_2
            have HH3 : Hid (Has Lf (s.fs ++ (if i = i then [] else [rint (-1)]))) := by rw [if_pos rfl, List.append_nil]; exact hHF
            have hne : ((i : Int) != (i : Int)) = false := by simp
            go_wp2_with fail
            go_meet
            exact ⟨L, Lf, Af, nf, cf, rfl, by omega, M_3, HH3, D_2, hNF, W_2⟩
          · have hne : ((i : Int) != (n : Int)) = true := by simp; omega
            go_wp2_with fail
            refine (spec_ratFromInt (-1) _ ⟨by omega, by omega⟩).mono ?_
            rintro e w3 ⟨g3, l3, v3, x3, y3, rfl, hq3, q1, q2, hap, hb3⟩
            obtain ⟨A3, c3, rfl⟩ := own_slice q1.2
            obtain ⟨B3, d3, rfl⟩ := own_slice q2.2
            have hbx : Below w3.heap.size w3 (w3.alloc (.cells #[.bool g3, .slice A3 l3.length c3, .slice B3 x3.length d3] 35)) := (Below.refl _ _).alloc (Nat.le_refl _) _
            have he3 : (El.mk g3 (.slice A3 l3.length c3) l3.length (l3.map (.int .i64)) (.slice B3 x3.length d3) x3.length (x3.map (.int .i64))).own w3 w2.heap.size := ⟨q1.2, q2.2, hap⟩
            have hb2w : base ≤ w2.heap.size := by omega
            have HE3 := Lib.hid (el_below (he3.lower hb2w) hbx)
            have HOFF : Hid (∀ k, (El.mk g3 (.slice A3 l3.length c3) l3.length (l3.map (.int .i64)) (.slice B3 x3.length d3) x3.length (x3.map (.int .i64))).foot k → (Value.slice Ap n cp).ownBlock ≠ some k) := fun k hk e => by
              have a1 := (he3.lt k hk).1
              have a2 := (M_2.out.piv.lt k e).2
              omega
            have M_4 := Lib.hid ((M_2.out.below hb3).below hbx)
            have D_4 := Lib.hid ((D_2.out.below hb3 D_2.out.lt).below hbx (D_2.out.below hb3 D_2.out.lt).lt)
            have W_4 := Lib.hid ((W_2.out.trans (Wrote.of_below hb3)).trans (Wrote.of_below hbx))
            have HR3 : Hid (RD.mk g3 l3 x3 = rint (-1)) := rint_of hq3
            have hs3 := hb3.size
            have h63 : nf + 1 ≤ maxLen := by unfold maxLen; omega
            have hby8 : (nf + 1) * 56 ≤ 140737488355328 := by omega
            have hw3b : base ≤ (w3.alloc (.cells #[.bool g3, .slice A3 l3.length c3, .slice B3 x3.length d3] 35)).heap.size := by simp; omega
            clear hq3 q1 q2 hap hb3 hbx he3 M_2 D_2 W_2
            go_wp2_with (at_builtin; refine wpList_append_own_at _ rfl _ _ 23 rfl base 35 i0 (.agg #[.bool false, .slice none 0 0, .slice none 0 0]) 3 56 Tryz.underlying23 hi hz0 hz1 hz2 rfl (by decide) (.slice Af nf cf) nf (flat Lf) rfl M_4.out.fac ⟨w3.heap.size, 0, none⟩ 1 1 [.bool g3, .slice A3 l3.length c3, .slice B3 x3.length d3] rfl rfl (cells3_new _ _ _ _ _) (by simp [Value.oneCell']) h63 hby8 hw3b ?_)
            intro v5 w5 s1 s2 _ s4
            rw [show w3.heap.size + 1 = (w3.alloc (.cells #[.bool g3, .slice A3 l3.length c3, .slice B3 x3.length d3] 35)).heap.size by simp] at s4
            obtain ⟨A5, c5, rfl⟩ := own_slice s1
            have M_5 := Lib.hid (M_4.out.push HE3.out HOFF.out s1 s2 s4)
            have D_5 := Lib.hid (box_grown D_4.out s2 hNF.out)
            have W_5 := Lib.hid (wrote_grown W_4.out s2 hNF.out)
            have NF5 := Lib.hid (newB_of hNF.out s4 (by simp; omega))
            have HH5 : Hid (Has (Lf ++ [El.mk g3 (.slice A3 l3.length c3) l3.length (l3.map (.int .i64)) (.slice B3 x3.length d3) x3.length (x3.map (.int .i64))]) (s.fs ++ (if i = n then [] else [rint (-1)]))) := by rw [if_neg hin, ← HR3.out]; exact hHF.out.append ⟨⟨rfl, rfl, rfl, rfl, rfl⟩, trivial⟩
            obtain ⟨Lg, hLg⟩ : ∃ Lg, Lg = Lf ++ [El.mk g3 (.slice A3 l3.length c3) l3.length (l3.map (.int .i64)) (.slice B3 x3.length d3) x3.length (x3.map (.int .i64))] := ⟨_, rfl⟩
            rw [← hLg] at M_5 HH5
            have M_6 : Hid (RMem base w5 G N c (swapTo P K s.rs i n 0) L s.pv Ap n cp A5 (nf + 1) c5 Lg) := by rw [swapTo_zero (mok_plen hEO.out.mok)]; exact M_5
            have HIN := Lib.hid hin
            clear s1 s2 s4 hLg M_4 D_4 W_4 HE3 HOFF hne hin M_5
            go_wp2_with fail
            go_loopw [9] (fun x wy => ∃ (j : Nat) (L : List El), j ≤ K ∧ x = .int .i64 j ∧ Hid (RMem base wy G N c (swapTo P K s.rs i n j) L s.pv Ap n cp A5 (nf + 1) c5 Lg) ∧ Hid (Box wy w.heap.size 25 #[.int .i64 P, .int .i64 K, .slice (some ⟨G, 0, none⟩) N c]) ∧ Hid (Wrote (fun k => k = G) w wy)) (fun x _ => K - (intOf x).toNat)
            case atStart => exact ⟨0, L, Nat.zero_le _, rfl, M_6, D_5, W_5⟩
            case round =>
              clear M_6 D_5 W_5
              obtain ⟨j, L, hjK, rfl, hM, hD, hW⟩ := hrel
              obtain ⟨wj, rfl⟩ : ∃ wj : World, wj = wr := ⟨_, rfl⟩
              have ed0 := hD.out.cell 0
              have ed1 := hD.out.cell 1
              have ed2 := hD.out.cell 2
              simp at ed0 ed1 ed2
              have hwj := hW.out.size
              by_cases hltj : j < K
              · have hj0 : (0 : Int) ≤ (j : Int) := by omega
                have hj1 : (j : Int) < (K : Int) := by omega
                obtain ⟨v, hv⟩ : ∃ v, v = i * K := ⟨_, rfl⟩
                obtain ⟨u, hu⟩ : ∃ u, u = n * K := ⟨_, rfl⟩
                have hiK : (i : Int) * (K : Int) = (v : Int) := by rw [hv]; exact (Int.natCast_mul _ _).symm
                have hnK : (n : Int) * (K : Int) = (u : Int) := by rw [hu]; exact (Int.natCast_mul _ _).symm
                obtain ⟨t1, ht1⟩ : ∃ t, t = v + j := ⟨_, rfl⟩
                obtain ⟨t2, ht2⟩ : ∃ t, t = u + j := ⟨_, rfl⟩
                have hvj : (v : Int) + (j : Int) = (t1 : Int) := by omega
                have huj : (u : Int) + (j : Int) = (t2 : Int) := by omega
                have h1N : t1 < N := by rw [ht1, hv, HN.out]; exact cell_lt hi2 hltj
                have h2N : t2 < N := by rw [ht2, hu, HN.out]; exact cell_lt hn hltj
                have h12 : t1 ≠ t2 := fun e => HIN.out (place_inj (i := i) (a := n) hltj hltj (by rw [← hv, ← hu, ← ht1, ← ht2]; exact e)).1
                obtain ⟨g1, A1, n1, d1, xs1, B1, m1, e1, ys1, hL1, ⟨p0, p1, p2⟩, f0, f1, f2⟩ := hM.out.own.el (i := t1) h1N
                obtain ⟨g2, A2, n2, d2, xs2, B2, m2, e2, ys2, hL2, ⟨q0, q1, q2⟩, h0, h1, h2⟩ := hM.out.own.el (i := t2) h2N
                have HL1 := Lib.hid hL1
                have HL2 := Lib.hid hL2
                have HH7 : Hid (Has ((L.set t1 ⟨g2, .slice A2 n2 d2, n2, xs2, .slice B2 m2 e2, m2, ys2⟩).set t2 ⟨g1, .slice A1 n1 d1, n1, xs1, .slice B1 m1 e1, m1, ys1⟩) (swapTo P K s.rs i n (j + 1))) := by
                  rw [← swapTo_succ hi2 hn HIN.out hltj, ← hv, ← hu, ← ht1, ← ht2]
                  exact has_swap hM.out.has hL1 hL2 (by rw [ht1, hv]; exact swapTo_at hi2 hltj) (by rw [ht2, hu]; exact swapTo_at hn hltj)
                obtain ⟨W7, hW7⟩ : ∃ W, W = wj.alloc (.cells #[.bool g1, .slice A1 n1 d1, .slice B1 m1 e1] 35) := ⟨_, rfl⟩
                have hbx : Below wj.heap.size wj W7 := by rw [hW7]; exact (Below.refl _ _).alloc (Nat.le_refl _) _
                have X_7 : Hid (Box W7 wj.heap.size 35 #[.bool g1, .slice A1 n1 d1, .slice B1 m1 e1]) := by rw [hW7]; exact Box.new _ _ _
                have D_7 := Lib.hid (hD.out.below hbx hD.out.lt)
                have M_7 := Lib.hid (hM.out.below hbx)
                have W_7 := Lib.hid (hW.out.trans (Wrote.of_below hbx))
                have hGj : wj.heap.size ≠ G := by omega
                have ht10 : (0 : Int) ≤ (t1 : Int) := by omega
                have ht11 : (t1 : Int) < (N : Int) := by omega
                have ht20 : (0 : Int) ≤ (t2 : Int) := by omega
                have ht21 : (t2 : Int) < (N : Int) := by omega
                have hne3 : t1 * 3 ≠ t2 * 3 := by omega
                clear hL1 hL2 hv hu ht1 ht2
                go_wp2_with fail
                rw [← hW7]
                have ed0 := D_7.out.cell 0
                have ed1 := D_7.out.cell 1
                have ed2 := D_7.out.cell 2
                have ex0 := X_7.out.cell 0
                have ex1 := X_7.out.cell 1
                have ex2 := X_7.out.cell 2
                simp at ed0 ed1 ed2 ex0 ex1 ex2
                replace p0 := (hbx.cell (p := ⟨G, t1 * 3, none⟩) (by dsimp only; omega)).trans p0
                replace p1 := (hbx.cell (p := ⟨G, t1 * 3 + 1, none⟩) (by dsimp only; omega)).trans p1
                replace p2 := (hbx.cell (p := ⟨G, t1 * 3 + 2, none⟩) (by dsimp only; omega)).trans p2
                replace q0 := (hbx.cell (p := ⟨G, t2 * 3, none⟩) (by dsimp only; omega)).trans q0
                replace q1 := (hbx.cell (p := ⟨G, t2 * 3 + 1, none⟩) (by dsimp only; omega)).trans q1
                replace q2 := (hbx.cell (p := ⟨G, t2 * 3 + 2, none⟩) (by dsimp only; omega)).trans q2
                replace f0 := M_7.out.own.frozen (t1 * 3)
                replace f1 := M_7.out.own.frozen (t1 * 3 + 1)
                replace f2 := M_7.out.own.frozen (t1 * 3 + 2)
                replace h0 := M_7.out.own.frozen (t2 * 3)
                replace h1 := M_7.out.own.frozen (t2 * 3 + 1)
                replace h2 := M_7.out.own.frozen (t2 * 3 + 2)
                clear hW7 hbx
                have hs := M_7.out.own.swap h12 HL1.out HL2.out rfl
                have hdd := fun W : World => (Below.refl W.heap.size W).drew
                have M_8 := Lib.hid ((M_7.out.changed hs.1 HH7.out ((FootIn.refl _ _).swap HL1.out HL2.out) hs.2).below (hdd _))
                have D_8 := Lib.hid ((wrote_box hs.2 D_7.out hGm).drew)
                have W_8 := Lib.hid ((W_7.out.trans hs.2).trans (Wrote.of_below (hdd _)))
                clear hs hdd
                go_region
                go_wp2_with fail
                go_roundw
                case rel => exact ⟨j + 1, _, by omega, by go_num, M_8, D_8, W_8⟩
                case measure => simp [intOf]; omega
              · obtain rfl : j = K := by omega
                have M_8 : Hid (RMem base wj G N c (mswap P j s.rs n i) L s.pv Ap n cp A5 (nf + 1) c5 Lg) := by rw [mswap_comm, ← swapTo_all]; exact hM
                go_wp2_with fail
                go_meet
                exact ⟨L, Lg, A5, nf + 1, c5, rfl, by omega, M_8, HH5, hD, NF5, hW⟩
        obtain ⟨L6, Lf6, Af6, nf6, cf6, rfl, hnf6, M6, HF6, D6, NF6, W6⟩ := hcut
        obtain ⟨w6, rfl⟩ : ∃ q, q = wc := ⟨_, rfl⟩
        have hs6 := W6.out.size
        have hG6 : G < w6.heap.size := by omega
        clear M_2 D_2 W_2 hHF hNF ed0 ed1 ed2
        obtain ⟨p, hp⟩ : ∃ p, p = cell K (mswap P K s.rs n i) n k := ⟨_, rfl⟩
        have HPC := Lib.hid hp
        have HPF : Hid (p = cell K s.rs i k) := by rw [hp, cell_mswap hn hk, if_pos rfl]; exact Lib.hid rfl
        have HPG : Hid p.ok := by rw [hp]; exact mok_cell HMS.out hn hk
        have HPN2 : Hid (p.xs ≠ []) := by rw [HPF.out]; exact HPN.out
        obtain ⟨t3, ht3⟩ : ∃ t, t = n * K + k := ⟨_, rfl⟩
        have HT3 := Lib.hid ht3
        have ht3N : t3 < N := by rw [ht3, HN.out]; exact cell_lt hn hk
        obtain ⟨Aq, cq, Bq, dq, hLp, hop, hatp⟩ := M6.out.own.elr M6.out.has (t := t3) (r := p) (by rw [hp, ht3]; exact cell_at (mok_plen HMS.out) hn hk)
        have hp1 : p.xs.length ≤ 1048576 := by have := HPG.out.2.2.2.2.1; omega
        have hp2 : p.ds.length ≤ 1048576 := by have := HPG.out.2.2.2.2.2; omega
        have HATP : Hid (At3 w6 G (0 + t3 * 3) (.bool p.g) (.slice Aq p.xs.length cq) (.slice Bq p.ds.length dq)) := by rw [Nat.zero_add]; exact hatp
        have HOFP : Hid (∀ k, (qEl p Aq cq Bq dq).foot k → (Value.slice Ap n cp).ownBlock ≠ some k) := fun k hk => M6.out.off _ (List.mem_append_right _ (List.mem_of_getElem? hLp)) k hk
        have HOP := Lib.hid hop
        have ed0 := D6.out.cell 0
        have ed1 := D6.out.cell 1
        have ed2 := D6.out.cell 2
        simp at ed0 ed1 ed2
        clear hp ht3 hLp hop hatp
        go_wp2_with fail
        clear ed0 ed1 ed2
        refine (spec_l06AtC P K n k t3 G 0 N c p.g Aq p.xs.length cq Bq p.ds.length dq _ HT3.out.symm ht3N hN20 HATP.out hp1 hp2 hG6 hn24 hK24).mono ?_
        rintro e w7 ⟨rfl, hb7⟩
        obtain ⟨W8, hW8⟩ : ∃ W, W = w7.alloc (.cells #[.bool p.g, .slice Aq p.xs.length cq, .slice Bq p.ds.length dq] 35) := ⟨_, rfl⟩
        have hbx : Below w7.heap.size w7 W8 := by rw [hW8]; exact (Below.refl _ _).alloc (Nat.le_refl _) _
        have F_8 : Hid (Box W8 w7.heap.size 35 #[.bool p.g, .slice Aq p.xs.length cq, .slice Bq p.ds.length dq]) := by rw [hW8]; exact Box.new _ _ _
        have D_8 := Lib.hid ((D6.out.below hb7 D6.out.lt).below hbx (D6.out.below hb7 D6.out.lt).lt)
        have M_8 := Lib.hid ((M6.out.below hb7).below hbx)
        have W_8 := Lib.hid ((W6.out.trans (Wrote.of_below hb7)).trans (Wrote.of_below hbx))
        have OP_8 := Lib.hid (el_below (el_below HOP.out hb7) hbx)
        have HFB : Hid (∀ j, (Value.slice Af6 nf6 cf6).ownBlock = some j → j < w7.heap.size) := fun j hj => ((M6.out.below hb7).fac.lt j hj).2
        have hs7 := hb7.size
        have hs8 := hbx.size
        have hF8l := F_8.out.lt
        clear hb7 hbx HATP HOP M6 D6 W6
        go_upto_region 20 with fail
        rw [← hW8]
        clear hW8
        have hby : Below W8.heap.size W8 (W8.alloc (.cells #[.bool p.g, .slice Aq p.xs.length cq, .slice Bq p.ds.length dq] 35)) := (Below.refl _ _).alloc (Nat.le_refl _) _
        have M_9 := Lib.hid (M_8.out.below hby)
        have D_9 := Lib.hid (D_8.out.below hby D_8.out.lt)
        have F_9 := Lib.hid (F_8.out.below hby F_8.out.lt)
        have W_9 := Lib.hid (W_8.out.trans (Wrote.of_below hby))
        have OP_9 := Lib.hid (el_below OP_8.out hby)
        have h63 : nf6 + 1 ≤ maxLen := by unfold maxLen; omega
        have hby8 : (nf6 + 1) * 56 ≤ 140737488355328 := by omega
        have hb9b : base ≤ (W8.alloc (.cells #[.bool p.g, .slice Aq p.xs.length cq, .slice Bq p.ds.length dq] 35)).heap.size := by simp; omega
        have ef0 := F_8.out.cell 0
        have ef1 := F_8.out.cell 1
        have ef2 := F_8.out.cell 2
        simp at ef0 ef1 ef2
        clear hby
        go_wp2_with (at_builtin; refine wpList_append_own_at _ rfl _ _ 23 rfl base 35 i0 (.agg #[.bool false, .slice none 0 0, .slice none 0 0]) 3 56 Tryz.underlying23 hi hz0 hz1 hz2 rfl (by decide) (.slice Af6 nf6 cf6) nf6 (flat Lf6) rfl M_9.out.fac ⟨W8.heap.size, 0, none⟩ 1 1 [.bool p.g, .slice Aq p.xs.length cq, .slice Bq p.ds.length dq] rfl rfl (cells3_new _ _ _ _ _) (by simp [Value.oneCell']) h63 hby8 hb9b ?_)
        intro v10 w10 s1 s2 _ s4
        rw [show W8.heap.size + 1 = (W8.alloc (.cells #[.bool p.g, .slice Aq p.xs.length cq, .slice Bq p.ds.length dq] 35)).heap.size by simp] at s4
        obtain ⟨Af7, cf7, rfl⟩ := own_slice s1
        have M_10 := Lib.hid (M_9.out.push OP_9.out HOFP.out s1 s2 s4)
        have D_10 := Lib.hid (box_grown D_9.out s2 NF6.out)
        have F_10 := Lib.hid (F_9.out.grown s2 fun e => by have h1 := HFB.out _ e.symm; omega)
        have W_10 := Lib.hid (wrote_grown W_9.out s2 NF6.out)
        have NF7 := Lib.hid (newB_of NF6.out s4 (by simp; omega))
        have OP_10 := Lib.hid (M_10.out.fel (qEl p Aq cq Bq dq) (by simp))
        obtain ⟨Lf7, hLf7⟩ : ∃ Lg, Lg = Lf6 ++ [qEl p Aq cq Bq dq] := ⟨_, rfl⟩
        have HF7 : Hid (Has Lf7 (enext P K s n i k).fs) := by
          show Has Lf7 (s.fs ++ ((if i = n then [] else [rint (-1)]) ++ [cell K s.rs i k]))
          rw [hLf7, ← List.append_assoc, ← HPF.out]
          exact HF6.out.append ⟨⟨rfl, rfl, rfl, rfl, rfl⟩, trivial⟩
        rw [← hLf7] at M_10
        have M_11 : Hid (RMem base w10 G N c (divTo P K (mswap P K s.rs n i) n k k) L6 s.pv Ap n cp Af7 (nf6 + 1) cf7 Lf7) := by rw [divTo_start (mok_plen HMS.out)]; exact M_10
        have hs10 := s2.size
        have hFG : w7.heap.size ≠ G := by omega
        clear hLf7 M_10 M_9 D_9 F_9 W_9 OP_9 M_8 D_8 F_8 W_8 OP_8 s1 s2 s4 ef0 ef1 ef2 HF6 NF6 HFB HOFP
        go_wp2_with fail
        go_loopw [12] (fun x wy => ∃ (j : Nat) (L : List El), (k ≤ j ∧ j ≤ K) ∧ x = .int .i64 j ∧ Hid (RMem base wy G N c (divTo P K (mswap P K s.rs n i) n k j) L s.pv Ap n cp Af7 (nf6 + 1) cf7 Lf7) ∧ Hid (Box wy w.heap.size 25 #[.int .i64 P, .int .i64 K, .slice (some ⟨G, 0, none⟩) N c]) ∧ Hid (Box wy w7.heap.size 35 #[.bool p.g, .slice Aq p.xs.length cq, .slice Bq p.ds.length dq]) ∧ Hid ((qEl p Aq cq Bq dq).own wy base) ∧ Hid (Wrote (fun k => k = G) w wy)) (fun x _ => K - (intOf x).toNat)
        case atStart => exact ⟨k, L6, ⟨Nat.le_refl _, Nat.le_of_lt hk⟩, rfl, M_11, D_10, F_10, OP_10, W_10⟩
        case round =>
          clear M_11 D_10 F_10 OP_10 W_10
          obtain ⟨j, L, ⟨hkj, hjK⟩, rfl, hM, hD, hX, hOP, hW⟩ := hrel
          obtain ⟨wj, rfl⟩ : ∃ wj : World, wj = wr := ⟨_, rfl⟩
          have hwj := hW.out.size
          have hG5 : G < wj.heap.size := by omega
          by_cases hltj : j < K
          · have hj0 : (0 : Int) ≤ (j : Int) := by omega
            have hj1 : (j : Int) < (K : Int) := by omega
            obtain ⟨u, hu⟩ : ∃ u, u = n * K := ⟨_, rfl⟩
            obtain ⟨t2, ht2⟩ : ∃ t, t = n * K + j := ⟨_, rfl⟩
            have HT2 := Lib.hid ht2
            have ht2N : t2 < N := by rw [ht2, HN.out]; exact cell_lt hn hltj
            obtain ⟨x, hx⟩ : ∃ x, x = cell K (mswap P K s.rs n i) n j := ⟨_, rfl⟩
            have HXC := Lib.hid hx
            have HXG : Hid x.ok := by rw [hx]; exact mok_cell HMS.out hn hltj
            have HXK : Hid (ROk x.g x.xs x.ds) := HXG
            have HPK : Hid (ROk p.g p.xs p.ds) := HPG
            have hx1 : x.xs.length ≤ 1048576 := by have := HXG.out.2.2.2.2.1; omega
            have hx2 : x.ds.length ≤ 1048576 := by have := HXG.out.2.2.2.2.2; omega
            obtain ⟨Ax, cx, Bx, dx, _, hox, hatx⟩ := hM.out.own.elr hM.out.has (t := t2) (r := x) (by rw [hx, ht2]; exact divTo_at hn hltj)
            have TX : Hid (At3 wj.drew G (0 + t2 * 3) (.bool x.g) (.slice Ax x.xs.length cx) (.slice Bx x.ds.length dx)) := by rw [Nat.zero_add]; exact hatx.drew
            have hbd : Below wj.heap.size wj wj.drew := (Below.refl _ _).drew
            have OX := Lib.hid (el_below hox hbd)
            have OF := Lib.hid (el_below hOP.out hbd)
            have M := Lib.hid (hM.out.below hbd)
            have Q := Lib.hid (hW.out.trans (Wrote.of_below hbd))
            have F := Lib.hid (hX.out.below hbd hX.out.lt)
            have D := Lib.hid (hD.out.below hbd hD.out.lt)
            have SZ : Hid (wj.heap.size ≤ wj.drew.heap.size) := Nat.le_refl _
            have hnu : (n : Int) * (K : Int) = (u : Int) := by rw [hu]; exact (Int.natCast_mul _ _).symm
            have hut : (u : Int) + (j : Int) = (t2 : Int) := by omega
            have hw1 : IntKind.i64.wrap ((n : Int) * (K : Int)) = u := by rw [hnu]; exact IntWalk.i64_in _ (by omega)
            have hw2 : IntKind.i64.wrap ((u : Int) + (j : Int)) = t2 := by rw [hut]; exact IntWalk.i64_in _ (by omega)
            have hw3 : IntKind.i64.wrap (u : Int) = u := IntWalk.i64_in _ (by omega)
            have hw4 : IntKind.i64.wrap (t2 : Int) = t2 := IntWalk.i64_in _ (by omega)
            have ht0 : (0 : Int) ≤ (t2 : Int) := by omega
            have ht1 : (t2 : Int) < (N : Int) := by omega
            have ed1 := hD.out.cell 1
            simp at ed1
            clear hu ht2 hx hox hatx hbd hM hD hX hOP hW
            go_wp2_with fail
            clear ed1
            go_region_held3 (fun w' => w'.cell? ⟨w.heap.size, 0, none⟩ = some (.int .i64 P) ∧ w'.cell? ⟨w.heap.size, 1, none⟩ = some (.int .i64 K) ∧ w'.cell? ⟨w.heap.size, 2, none⟩ = some (.slice (some ⟨G, 0, none⟩) N c) ∧ w'.cell? ⟨w7.heap.size, 0, none⟩ = some (.bool p.g) ∧ w'.cell? ⟨w7.heap.size, 1, none⟩ = some (.slice Aq p.xs.length cq) ∧ w'.cell? ⟨w7.heap.size, 2, none⟩ = some (.slice Bq p.ds.length dq)) (first | with_reducible exact two_mats D9 F9 | with_reducible exact two_mats D8 F8 | with_reducible exact two_mats D F) (first | (go_at_call 141; (with_reducible refine (spec_l05Div x.g Ax x.xs.length cx x.xs Bx x.ds.length dx x.ds p.g Aq p.xs.length cq p.xs Bq p.ds.length dq p.ds _ (q_in1 OX.out (.inl HXG.out)) (q_room1 OX.out) (q_in2 OX.out (.inl HXG.out)) (q_room2 OX.out) (q_in1 OF.out (.inl HPG.out)) (q_room1 OF.out) (q_in2 OF.out (.inl HPG.out)) (q_room2 OF.out) HXK.out HPK.out).mono ?_); rintro e w9 ⟨g9, l9, v9, x9, y9, rfl, hq9, s1, s2, hap9, hb9⟩; obtain ⟨A9, c9, rfl⟩ := own_slice s1.2; obtain ⟨B9, d9, rfl⟩ := own_slice s2.2; have hst := store_elB (wr := w9) (g := g9) (r := l9) (d := x9) (M.out.own.below hb9) (fun y hy k hk => ((M.out.own.2.2.1 y hy).lt k hk).2) (Nat.le_trans hbase Q.out.size) ht2N s1.2 s2.2 hap9 rfl; obtain ⟨⟨z0, z1, z2, p0, p1, p2, f0, f1, f2⟩, st1, st2⟩ := hst; have W9 := Lib.hid ((Q.out.trans (Wrote.of_below hb9)).trans st2); have D8 := Lib.hid (D.out.below hb9 D.out.lt); have F8 := Lib.hid (F.out.below hb9 F.out.lt); have D9 := Lib.hid (D8.out.set3 hGm (t2 * 3) (t2 * 3 + 1) (t2 * 3 + 2) (.bool g9) (.slice A9 l9.length c9) (.slice B9 x9.length d9)); have F9 := Lib.hid (F8.out.set3 hFG (t2 * 3) (t2 * 3 + 1) (t2 * 3 + 2) (.bool g9) (.slice A9 l9.length c9) (.slice B9 x9.length d9)); have OF9 := Lib.hid (wrote_own st2 (el_below OF.out hb9) (M.out.own.below hb9)); have HH9 : Hid (Has (L.set t2 ⟨g9, .slice A9 l9.length c9, l9.length, l9.map (.int .i64), .slice B9 x9.length d9, x9.length, x9.map (.int .i64)⟩) (divTo P K (mswap P K s.rs n i) n k (j + 1))) := (by rw [← divTo_set hn hltj hkj, ← HXC.out, ← HPC.out, ← HT2.out, ← rdiv_of (r := x) (s := p) hq9]; exact M.out.has.set t2 ⟨rfl, rfl, rfl, rfl, rfl⟩); have M9 := Lib.hid (M.out.changed st1 HH9.out ((FootIn.refl _ _).set (t := t2) (w2 := w9) (b := _) ⟨s1.2, s2.2, hap9⟩ (Nat.le_refl _)) ((Wrote.of_below hb9).trans st2)); clear hq9 s1 s2 hap9 hb9 st1 st2) | (go_at_call 105; (with_reducible refine (spec_l06AtC P K n j t2 G 0 N c x.g Ax x.xs.length cx Bx x.ds.length dx _ HT2.out.symm ht2N hN20 TX.out hx1 hx2 (Nat.lt_of_lt_of_le hG5 SZ.out) hn24 hK24).mono ?_); rintro e w6 ⟨rfl, hb6⟩; replace TX := Lib.hid (TX.out.below (Nat.lt_of_lt_of_le hG5 SZ.out) hb6); replace D := Lib.hid (D.out.below hb6 D.out.lt); replace F := Lib.hid (F.out.below hb6 F.out.lt); replace M := Lib.hid (M.out.below hb6); replace Q := Lib.hid (Q.out.trans (Wrote.of_below hb6)); replace OF := Lib.hid (el_below OF.out hb6); replace OX := Lib.hid (el_below OX.out hb6); replace SZ := Lib.hid (Nat.le_trans SZ.out hb6.size); clear hb6))
            all_goals
              clear hnu hut hw1 hw2 hw3 hw4
              go_wp2_with fail
              go_roundw
              case rel => exact ⟨j + 1, _, ⟨by omega, by omega⟩, by go_num, M9, D9, F9, OF9, W9⟩
              case measure => simp [intOf]; omega
          · obtain rfl : j = K := by omega
            have hdl := div_low hEO.out.mok hEO.out.low hni hi2 hk HPN.out
            have HDL := Lib.hid hdl
            have M_12 : Hid (RMem base wj G N c (mdiv P j (mswap P j s.rs n i) n k) L s.pv Ap n cp Af7 (nf6 + 1) cf7 Lf7) := by
              rw [← divTo_end HMS.out hn hk (by rw [← HPC.out]; exact HPN2.out) HDL.out.1]; exact hM
            have HGD : Hid (∀ r ∈ mdiv P j (mswap P j s.rs n i) n k, r.ok ∨ r = RD.zero) := by
              rw [← divTo_end HMS.out hn hk (by rw [← HPC.out]; exact HPN2.out) HDL.out.1]; exact divTo_good HMS.out.goods (mok_plen HMS.out)
            have hbj : base ≤ wj.heap.size := Nat.le_trans hbase hwj
            have ed0 := hD.out.cell 0
            have ed1 := hD.out.cell 1
            have ed2 := hD.out.cell 2
            simp at ed0 ed1 ed2
            clear hdl hM hX hOP
            go_wp2_with fail
            clear ed0 ed1 ed2
            refine (spec_l07Clear base G N c P j n k (mdiv P j (mswap P j s.rs n i) n k) L _ M_12.out.own M_12.out.has HN.out (by rw [mdiv_length, HN.out]) HGD.out HDL.out.2 hn hk hP24 hK24 hbj).mono ?_
            rintro e w12 ⟨rfl, ⟨L12, ho12, hh12, hf12⟩, hW12⟩
            have M_13 := Lib.hid (M_12.out.changed ho12 hh12 hf12 hW12)
            have D_13 := Lib.hid (wrote_box hW12 hD.out hGm)
            have W_13 := Lib.hid (hW.out.trans hW12)
            have hs12 := W_13.out.size
            have hbx : Below w12.heap.size w12 (w12.alloc (.cells #[.int .i64 k] 3)) := (Below.refl _ _).alloc (Nat.le_refl _) _
            have M_14 := Lib.hid (M_13.out.below hbx)
            have D_14 := Lib.hid (D_13.out.below hbx D_13.out.lt)
            have W_14 := Lib.hid (W_13.out.trans (Wrote.of_below hbx))
            have hb14 : base ≤ (w12.alloc (.cells #[.int .i64 k] 3)).heap.size := by simp; omega
            have h64 : n + 1 ≤ maxLen := by unfold maxLen; omega
            have hby9 : (n + 1) * 8 ≤ 140737488355328 := by omega
            clear ho12 hh12 hf12 hW12 hbx M_12 M_13 D_13 W_13 hD hW HGD
            go_wp2_with (at_builtin; refine wpList_append_own_at _ rfl _ _ 31 rfl base 3 j0 (.int .i64 0) 1 8 Tryz.underlying31 hj hy0 hy1 hy2 rfl (by decide) (.slice Ap n cp) n (ivals s.pv) rfl M_14.out.piv ⟨w12.heap.size, 0, none⟩ 1 1 [.int .i64 (k : Int)] rfl rfl (cell_one_new _ _ _) (by simp [Value.oneCell']) h64 hby9 hb14 ?_)
            intro v15 w15 s1 s2 _ s4
            rw [show w12.heap.size + 1 = (w12.alloc (.cells #[.int .i64 k] 3)).heap.size by simp] at s4
            obtain ⟨A15, c15, rfl⟩ := own_slice s1
            have M_15 := Lib.hid (M_14.out.pushP s1 s2 s4)
            have D_15 := Lib.hid (box_grown D_14.out s2 hNP.out)
            have W_15 := Lib.hid (wrote_grown W_14.out s2 hNP.out)
            have NP15 := Lib.hid (newB_of hNP.out s4 (by simp; omega))
            have HGP : Hid (∀ r ∈ mpiv P j s.rs n i k, r.ok ∨ r = RD.zero) := mpiv_good hEO.out.mok.goods (mok_plen hEO.out.mok) hn hi2
            have HI15 : Hid (InV w15 (some ⟨G, 0, none⟩) N (mpiv P j s.rs n i k)) := M_15.out.own.in_ M_15.out.has hN20 fun r hr => good_fits (HGP.out r hr)
            have HGG : Hid (Goods (mpiv P j s.rs n i k)) := ⟨by rw [mpiv_length, ← HN.out]; omega, HGP.out⟩
            have ed2 := D_15.out.cell 2
            simp at ed2
            clear s1 s2 s4 M_14 D_14 W_14 HGP
            go_wp2_with fail
            clear ed2
            refine (spec_l05Fine (some ⟨G, 0, none⟩) N c (mpiv P j s.rs n i k) _ HI15.out HGG.out).mono ?_
            rintro e w16 ⟨b16, rfl, hq16, hb16⟩
            have M_16 := Lib.hid (M_15.out.below hb16)
            have D_16 := Lib.hid (D_15.out.below hb16 D_15.out.lt)
            have W_16 := Lib.hid (W_15.out.trans (Wrote.of_below hb16))
            cases b16 with
            | false =>
              have hst := hEO.out.stop hn HFR.out hk fun hall => by have := hq16.2 hall; cases this
              have HF : Hid (RedEnd base G N c P j rs0 w w16 (.returned (.tuple #[.slice A15 (n + 1) c15, .slice Af7 (nf6 + 1) cf7]))) := ⟨enext P j s n i k, L12, Lf7, A15, Af7, n + 1, c15, nf6 + 1, cf7, rfl, hst, by simp [enext, hEO.out.len], hn, M_16.out, HF7.out, W_16.out⟩
              clear hst hq16 hb16
              go_wp2_with fail
              go_ret2
              exact HF.out
            | true =>
              have HEN := Lib.hid (hEO.out.next hn HFR.out hEO.out.none hk (hq16.1 rfl))
              clear hq16 hb16
              go_wp2_with fail
              go_roundw
              case rel => exact ⟨k + 1, enext P j s n i k, L12, Lf7, A15, Af7, n + 1, c15, nf6 + 1, cf7, hk, hn, by omega, by go_num, rfl, rfl, HEN, M_16, HF7, D_16, NP15, NF7, W_16⟩
              case measure => simp [intOf]; omega
end Go.Proofs.YthjbfdifeffilaaGreat
