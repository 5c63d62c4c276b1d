/- Lists of fractions as values: marked and held. -/
import Derived.Test.YtjggdbakbhacjaaVecMem
namespace Go.Proofs.Ytjggdbakbhacjaa
set_option maxRecDepth 100000
open Go.RowKit

theorem flat_setG : ∀ (L : List El) (i : Nat) (h : i < L.length) (x : Bool), flat (L.set i { L[i] with g := x }) = (flat L).set (i * 3) (.bool x)
  | e :: L, 0, _, x => by simp [flat_cons]
  | e :: L, i + 1, h, x => by
    have := flat_setG L i (by simpa using h) x
    rw [List.set_cons_succ, flat_cons, flat_cons, show (i + 1) * 3 = i * 3 + 1 + 1 + 1 by omega]
    simpa [List.set_cons_succ] using this
section
variable {w w' : World} {base : Nat} {V : Value} {n : Nat} {L : List El}
theorem OwnV.elem (h : OwnV w base V n L) {i : Nat} (hi : i < L.length) : L[i].own w base := h.2.2.1 _ (List.getElem_mem _)
theorem OwnV.setG {g c i : Nat} (h : OwnV w base (.slice (some ⟨g, 0, none⟩) n c) n L) (hi : i < L.length) (x : Bool) :
    OwnV (w.setCell ⟨g, i * 3, none⟩ (.bool x)) base (.slice (some ⟨g, 0, none⟩) n c) n (L.set i { L[i] with g := x }) ∧ Wrote (footV (.slice (some ⟨g, 0, none⟩) n c) L) w (w.setCell ⟨g, i * 3, none⟩ (.bool x)) := by
  have hgb : (Value.slice (some (⟨g, 0, none⟩ : Addr)) n c).ownBlock = some g := rfl
  have hW : Wrote (fun k => (Value.slice (some (⟨g, 0, none⟩ : Addr)) n c).ownBlock = some k) w (w.setCell ⟨g, i * 3, none⟩ (.bool x)) := Wrote.setCell (p := ⟨g, i * 3, none⟩) (Wrote.refl _ w) hgb _
  refine ⟨h.turn hi rfl rfl ?_ ?_ (hW.mono fun k _ hk => .inl hk), hW.mono fun k _ hk => .inl hk⟩
  · rw [flat_setG _ _ hi]; exact (h.2.1.stored _ _).1
  · have he := h.elem hi
    exact El.own.dep (e := L[i]) he fun k hk => hW.block k (he.lt k hk).2 fun hb => el_other he h.2.1 (by decide) k hk hb
theorem OwnV.setX {i : Nat} {xs : List Value} (h : OwnV w base V n L) (hi : i < L.length) (ho : w'.ownsRow base 3 1 L[i].v L[i].n xs) (hg : w.grownBy w' L[i].v.ownBlock) :
    OwnV w' base V n (L.set i { L[i] with xs := xs }) ∧ Wrote (footV V L) w w' := by
  have he := h.elem hi
  have hW : Wrote (fun k => V.ownBlock = some k ∨ L[i].foot k) w w' := (Wrote.of_grown hg).mono fun k _ hk => .inr (.inl hk)
  refine ⟨h.turn hi rfl rfl ?_ ⟨ho, he.2.1.kept hg (apart_of he.2.2), he.2.2⟩ hW, hW.mono fun k _ hk => ?_⟩
  · rw [show flat (L.set i { L[i] with xs := xs }) = flat L from flat_set_same (e := { L[i] with xs := xs }) hi rfl]; exact h.2.1.kept hg (apart_of (own_other h.2.1 he.1 (by decide)))
  · exact hk.elim .inl fun hk => .inr ⟨_, List.getElem_mem hi, hk⟩
theorem OwnV.setY {i : Nat} {ys : List Value} (h : OwnV w base V n L) (hi : i < L.length) (ho : w'.ownsRow base 3 1 L[i].u L[i].m ys) (hg : w.grownBy w' L[i].u.ownBlock) :
    OwnV w' base V n (L.set i { L[i] with ys := ys }) ∧ Wrote (footV V L) w w' := by
  have he := h.elem hi
  have hW : Wrote (fun k => V.ownBlock = some k ∨ L[i].foot k) w w' := (Wrote.of_grown hg).mono fun k _ hk => .inr (.inr hk)
  refine ⟨h.turn hi rfl rfl ?_ ⟨he.1.kept hg (apart_of he.2.2.symm), ho, he.2.2⟩ hW, hW.mono fun k _ hk => ?_⟩
  · rw [show flat (L.set i { L[i] with ys := ys }) = flat L from flat_set_same (e := { L[i] with ys := ys }) hi rfl]; exact h.2.1.kept hg (apart_of (own_other h.2.1 he.2.1 (by decide)))
  · exact hk.elim .inl fun hk => .inr ⟨_, List.getElem_mem hi, hk⟩
theorem OwnV.elem' {i : Nat} {e : El} (h : OwnV w base V n (L.set i e)) (hi : i < L.length) : e.own w base := by
  have := h.elem (i := i) (by simpa using hi)
  rwa [List.getElem_set_self] at this
theorem OwnV.setX' {i : Nat} {e : El} {xs : List Value} (h : OwnV w base V n (L.set i e)) (hi : i < L.length) (ho : w'.ownsRow base 3 1 e.v e.n xs) (hg : w.grownBy w' e.v.ownBlock) :
    OwnV w' base V n (L.set i { e with xs := xs }) ∧ Wrote (footV V (L.set i e)) w w' := by
  have := h.setX (i := i) (xs := xs) (by simpa using hi) (by rw [List.getElem_set_self]; exact ho) (by rw [List.getElem_set_self]; exact hg)
  rwa [List.getElem_set_self, List.set_set] at this
theorem OwnV.setY' {i : Nat} {e : El} {ys : List Value} (h : OwnV w base V n (L.set i e)) (hi : i < L.length) (ho : w'.ownsRow base 3 1 e.u e.m ys) (hg : w.grownBy w' e.u.ownBlock) :
    OwnV w' base V n (L.set i { e with ys := ys }) ∧ Wrote (footV V (L.set i e)) w w' := by
  have := h.setY (i := i) (ys := ys) (by simpa using hi) (by rw [List.getElem_set_self]; exact ho) (by rw [List.getElem_set_self]; exact hg)
  rwa [List.getElem_set_self, List.set_set] at this
theorem foot_set {i : Nat} {e : El} (hi : i < L.length) (hv : e.v = L[i].v) (hu : e.u = L[i].u) {k : Nat} (hk : footV V (L.set i e) k) : footV V L k := by
  refine foot_congr ?_ hk
  rw [List.map_set, hv, hu, ← List.getElem_map (f := fun e : El => (e.v, e.u)) (h := by simpa using hi), List.set_getElem_self]
end
def MarkVEnd (base : Nat) (V : Value) (n K : Nat) (L : List El) (w w' : World) (e : Ending) : Prop :=
  e = .returned (.int .i64 ((K + mtot L : Nat) : Int)) ∧ OwnV w' base V n (markL K L) ∧ Wrote (footV V L) w w'
set_option maxHeartbeats 1600000 in
theorem markRatS_own (base : Nat) (A : Option Addr) (n c K : Nat) (L : List El) (rs : List RD) (w : World) (hK : K + mtot L < maxLen) (h : OwnV w base (.slice A n c) n L) (hh : Has L rs) :
    Calls Try.prog 25 #[.slice A n c, .int .i64 K] w fun e w' => MarkVEnd base (.slice A n c) n K L w w' e := by
  have hlen := h.1
  have HL := Lib.hid hlen
  have HO := Lib.hid h
  have HH := Lib.hid hh
  have hn : n ≤ maxLen := by
    have := own_cap h.2.1
    omega
  unfold maxLen at hK hn
  clear hlen h hh
  go_enter Try.func25, Try.ntmps25
  go_wp2_with fail
  go_loopw [1, 5] (fun x y wr => ∃ i : Nat, i ≤ n ∧ x = .int .i64 ((K + mtot (L.take i) : Nat) : Int) ∧ y = .int .i64 i ∧ Hid (OwnV wr base (.slice A n c) n (markTo K L i)) ∧ Hid (Wrote (footV (.slice A n c) L) w wr)) (fun _ y _ => n - (intOf y).toNat)
  case atStart => exact ⟨0, Nat.zero_le _, by simp [mtot], rfl, by rw [markTo_zero]; exact HO, Wrote.refl _ _⟩
  case round =>
    obtain ⟨i, hi, rfl, rfl, ho, hW⟩ := hrel
    by_cases hlt : i < n
    · have hiL : i < L.length := by rw [HL.out]; exact hlt
      have hiM : i < (markTo K L i).length := by rw [markTo_length]; exact hiL
      have hM : (markTo K L i)[i] = L[i] := by
        have := markTo_at (K := K) hiL
        rw [List.getElem?_eq_getElem hiM] at this
        exact Option.some.inj this
      obtain ⟨g, rfl, _, hgs⟩ := own_at' ho.out.2.1 (by omega)
      obtain ⟨kk, hkk⟩ : ∃ kk, kk = K + mtot (L.take i) := ⟨_, rfl⟩
      have hms := mtot_succ hiL
      have hml := mtot_take_le L (i + 1)
      obtain ⟨c0, c1, c2⟩ := ho.out.cells hiM
      have f0 := ho.out.frozen (i * 3)
      obtain ⟨s1, g1⟩ := ho.out.setG hiM ((kk : Int) % 3 == 0)
      have hels := ho.out.elem hiM
      rw [hM] at s1 c0 c1 c2 hels
      have hri := HH.out.at_ i hiL (by rw [← HH.out.length]; exact hiL)
      obtain ⟨e, he⟩ : ∃ e, e = L[i] := ⟨_, rfl⟩
      rw [← he] at s1 c0 c1 c2 hels hri hms
      obtain ⟨A1, d1, hv⟩ := own_slice hels.1
      obtain ⟨A2, d2, hu⟩ := own_slice hels.2.1
      rw [hv] at c1
      rw [hu] at c2
      have hi0 : (0 : Int) ≤ (i : Int) := by omega
      have hi1 : (i : Int) < (n : Int) := by omega
      have hk0 : (0 : Int) ≤ (kk : Int) := by omega
      have hk1 : (kk : Int) + 1 + e.n + e.m ≤ 9223372036854775806 := by omega
      rw [← hkk]
      have HK := Lib.hid hkk
      have HE := Lib.hid he
      have HMS := Lib.hid hms
      have S1 := Lib.hid s1
      have G1 := Lib.hid g1
      have HR := Lib.hid hri
      have HEL := Lib.hid hels
      have HMx := Lib.hid hM
      have n0 : e.n + e.m ≤ 9223372036854775806 := by omega
      clear hkk he hms s1 g1 hri hels hM
      go_wp2_with fail
      have E1 := Lib.hid (S1.out.elem' hiM)
      refine (markIntS_own base A1 e.n d1 (kk + 1) e.xs _ (by unfold maxLen; omega) (by have := E1.out.1; rwa [show El.v _ = e.v from rfl, hv] at this) (by rw [HR.out.2.2.1]; exact ints_are _)).mono ?_
      rintro x w1 ⟨rfl, ho1, hg1⟩
      rw [← hv] at ho1 hg1
      obtain ⟨s2, g2⟩ := S1.out.setX' hiM ho1 hg1
      obtain ⟨q0, q1, q2⟩ := s2.cells (i := i) (by simpa using hiM)
      rw [List.getElem_set_self] at q0 q1 q2
      rw [show El.u _ = e.u from rfl, hu] at q2
      have S2 := Lib.hid s2
      have G2 := Lib.hid g2
      clear ho1 hg1 s2 g2 q0 q1
      go_wp2_with fail
      have E2 := Lib.hid (S2.out.elem' hiM)
      refine (markIntS_own base A2 e.m d2 (kk + 1 + e.n) e.ys _ (by unfold maxLen; omega) (by have := E2.out.2.1; rwa [show El.u _ = e.u from rfl, hu] at this) (by rw [HR.out.2.2.2.2]; exact ints_are _)).mono ?_
      rintro x w2 ⟨rfl, ho2, hg2⟩
      rw [← hu] at ho2 hg2
      obtain ⟨s3, g3⟩ := S2.out.setY' hiM ho2 hg2
      have hfin : OwnV w2 base (.slice (some ⟨g, 0, none⟩) n c) n (markTo K L (i + 1)) := by
        rw [← markTo_succ hiL, ← HE.out, ← HK.out]; exact s3
      have f2 : ∀ k, footV (.slice (some ⟨g, 0, none⟩) n c) ((markTo K L i).set i { e with g := ((kk : Int) % 3 == 0) }) k → footV (.slice (some ⟨g, 0, none⟩) n c) L k := fun k hk => foot_congr (markTo_vu K L i) (foot_set hiM (by rw [HMx.out, HE.out]) (by rw [HMx.out, HE.out]) hk)
      have f3 : ∀ k, footV (.slice (some ⟨g, 0, none⟩) n c) ((markTo K L i).set i { e with g := ((kk : Int) % 3 == 0), xs := marks markI (kk + 1) e.n }) k → footV (.slice (some ⟨g, 0, none⟩) n c) L k := fun k hk => foot_congr (markTo_vu K L i) (foot_set hiM (by rw [HMx.out, HE.out]) (by rw [HMx.out, HE.out]) hk)
      have HW := Lib.hid (hW.out.trans ((G1.out.mono fun k _ hk => foot_congr (markTo_vu K L i) hk).trans ((G2.out.mono fun k _ hk => f2 k hk).trans (g3.mono fun k _ hk => f3 k hk))))
      have HF := Lib.hid hfin
      have HN : Hid (kk + 1 + e.n + e.m = K + mtot (L.take (i + 1))) := by have := HMS.out; have := HK.out; unfold Hid; omega
      clear ho2 hg2 s3 g3 hfin f2 f3
      go_wp2_with fail
      go_roundw
      case rel => exact ⟨i + 1, by omega, by rw [← HN.out]; go_num, by go_num, HF, HW⟩
      case measure => simp [intOf]; omega
    · obtain rfl : i = n := by omega
      have HF : Hid (MarkVEnd base (.slice A i c) i K L w wr (.returned (.int .i64 ((K + mtot (L.take i) : Nat) : Int)))) := by
        have h1 := ho.out
        rw [markTo_all HL.out] at h1
        refine ⟨?_, h1, hW.out⟩
        rw [List.take_of_length_le (by rw [HL.out]; omega)]
      go_wp2_with fail
      go_ret
      exact HF.out
theorem markL_at {K : Nat} : ∀ {L : List El} {i : Nat} (h : i < L.length), (markL K L)[i]? = some (L[i].marked (K + mtot (L.take i)))
  | e :: L, 0, _ => by simp [markL, mtot]
  | e :: L, i + 1, h => by
    have := markL_at (K := K + (1 + e.n + e.m)) (L := L) (i := i) (by simpa using h)
    rw [markL, List.getElem?_cons_succ, this, List.getElem_cons_succ, List.take_succ_cons, mtot, show K + (1 + e.n + e.m) + mtot (L.take i) = K + (1 + e.n + e.m + mtot (L.take i)) by omega]
set_option maxHeartbeats 1600000 in
theorem heldRatS_same (base : Nat) (A : Option Addr) (n c K : Nat) (L : List El) (w : World) (hK : K + mtot L < maxLen) (h : OwnV w base (.slice A n c) n (markL K L)) :
    Calls Try.prog 26 #[.slice A n c, .int .i64 K] w fun e w' => e = .returned (.int .i64 ((K + mtot L : Nat) : Int)) ∧ Below w.heap.size w w' := by
  have hlen : L.length = n := by rw [← h.1, markL_length]
  have HL := Lib.hid hlen
  have HO := Lib.hid h
  have hn : n ≤ maxLen := by
    have := own_cap h.2.1
    omega
  unfold maxLen at hK hn
  clear hlen h
  go_enter Try.func26, Try.ntmps26
  go_wp2_with fail
  go_loopw [1, 5] (fun x y wr => ∃ i : Nat, i ≤ n ∧ x = .int .i64 ((K + mtot (L.take i) : Nat) : Int) ∧ y = .int .i64 i ∧ Hid (Below w.heap.size w wr)) (fun _ y _ => n - (intOf y).toNat)
  case atStart => exact ⟨0, Nat.zero_le _, by simp [mtot], rfl, Below.refl _ _⟩
  case round =>
    obtain ⟨i, hi, rfl, rfl, hb⟩ := hrel
    by_cases hlt : i < n
    · have hiL : i < L.length := by rw [HL.out]; exact hlt
      have ho := HO.out.below hb.out
      have hiM : i < (markL K L).length := by rw [markL_length]; exact hiL
      have hM : (markL K L)[i] = L[i].marked (K + mtot (L.take i)) := by
        have := markL_at (K := K) hiL
        rw [List.getElem?_eq_getElem hiM] at this
        exact Option.some.inj this
      obtain ⟨g, rfl, _, hgs⟩ := own_at' ho.2.1 (by omega)
      obtain ⟨kk, hkk⟩ : ∃ kk, kk = K + mtot (L.take i) := ⟨_, rfl⟩
      have hms := mtot_succ hiL
      have hml := mtot_take_le L (i + 1)
      obtain ⟨c0, c1, c2⟩ := ho.cells hiM
      have hels := ho.elem hiM
      rw [hM, ← hkk] at c0 c1 c2 hels
      obtain ⟨e, he⟩ : ∃ e, e = L[i] := ⟨_, rfl⟩
      rw [← he] at c0 c1 c2 hels hms
      obtain ⟨A1, d1, hv⟩ := own_slice hels.1
      obtain ⟨A2, d2, hu⟩ := own_slice hels.2.1
      have R1 := hels.1
      have R2 := hels.2.1
      rw [hv] at c1 R1
      rw [hu] at c2 R2
      have Q1 := Lib.hid (Reads.of_own R1)
      have Q2 := Lib.hid (Reads.of_own R2)
      have c0' : wr.cell? ⟨g, i * 3, none⟩ = some (.bool ((kk : Int) % 3 == 0)) := c0
      have c1' : wr.cell? ⟨g, i * 3 + 1, none⟩ = some (.slice A1 e.n d1) := c1
      have c2' : wr.cell? ⟨g, i * 3 + 2, none⟩ = some (.slice A2 e.m d2) := c2
      have hi0 : (0 : Int) ≤ (i : Int) := by omega
      have hi1 : (i : Int) < (n : Int) := by omega
      have hk0 : (0 : Int) ≤ (kk : Int) := by omega
      have hk1 : (kk : Int) + 1 + e.n + e.m ≤ 9223372036854775806 := by omega
      rw [← hkk]
      have HK := Lib.hid hkk
      have HMS := Lib.hid hms
      have n0 : e.n + e.m ≤ 9223372036854775806 := by omega
      have hbb : (((kk : Int) % 3 == 0) != ((kk : Int) % 3 == 0)) = false := by simp
      clear hkk he hms hels hM c0 c1 c2 R1 R2 hv hu ho
      go_wp2_with fail
      refine (heldIntS_same A1 e.n d1 (kk + 1) _ (by unfold maxLen; omega) Q1.out).mono ?_
      rintro x w1 ⟨rfl, hb1⟩
      have P0 := Lib.hid (At3.below ⟨c0', c1', c2'⟩ hgs hb1)
      have Q3 := Lib.hid (Q2.out.below hb1)
      have HB := Lib.hid (hb.out.trans (hb1.mono hb.out.size))
      clear hb1 c0' c1' c2'
      have p2 := P0.out.2.2
      go_wp2_with fail
      refine (heldIntS_same A2 e.m d2 (kk + 1 + e.n) _ (by unfold maxLen; omega) Q3.out).mono ?_
      rintro x w2 ⟨rfl, hb1⟩
      have HB2 := Lib.hid (HB.out.trans (hb1.mono HB.out.size))
      have HN : Hid (kk + 1 + e.n + e.m = K + mtot (L.take (i + 1))) := by have := HMS.out; have := HK.out; unfold Hid; omega
      clear hb1
      go_wp2_with fail
      go_roundw
      case rel => exact ⟨i + 1, by omega, by rw [← HN.out]; go_num, by go_num, HB2⟩
      case measure => simp [intOf]; omega
    · obtain rfl : i = n := by omega
      have HF : Hid (Ending.returned (.int .i64 ((K + mtot (L.take i) : Nat) : Int)) = Ending.returned (.int .i64 ((K + mtot L : Nat) : Int)) ∧ Below w.heap.size w wr) := ⟨by rw [List.take_of_length_le (by rw [HL.out]; omega)], hb.out⟩
      go_wp2_with fail
      go_ret
      exact HF.out
end Go.Proofs.Ytjggdbakbhacjaa
