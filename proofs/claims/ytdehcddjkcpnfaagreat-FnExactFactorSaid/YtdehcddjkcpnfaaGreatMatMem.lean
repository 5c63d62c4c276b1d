/- Matrices as values: a matrix that came in, opened; what the helpers of the laws do with one (counted, copied, equal, marked, held). -/
import Derived.Test.YtdehcddjkcpnfaaGreatGV
import Derived.Test.YtdehcddjkcpnfaaGreatMatC
import Derived.Lib.SmallJoins
namespace Go.Proofs.YtdehcddjkcpnfaaGreat
set_option maxRecDepth 100000
open Go.RowKit Go.ChangeShapes Go.WideShapes Go.Deep Go.Joins

section
variable {P : Program} {H : Type} {enc : TypeId × Value → H} {w : World} {sp : Nat → Bool} {hd : Bool}
theorem open_mat {r : Reach} {b0 : Nat} {M T t e : TypeId} {q0 q1 q2 f0 f1 k0 k1 : Field} {v : Value} {d : DataW H} {ps : List MemPlace} (hM : P.underlying M = some (.struct #[q0, q1, q2])) (hone3 : oneCellFields P #[q0, q1, q2] = true) (hC3 : P.cellsOf M = 3)
    (hi0 : P.underlying q0.type = some (.int .i64)) (hi1 : P.underlying q1.type = some (.int .i64)) (hqT : q2.type = T)
    (hT : P.underlying T = some (.slice t)) (hs : P.underlying t = some (.struct #[f0, f1])) (ho0 : f0.offset = 0) (ho1 : f1.offset = 2) (hC : P.cellsOf t = 3)
    (hsb : P.underlying f0.type = some (.struct #[k0, k1])) (hone : oneCellFields P #[k0, k1] = true) (hCb : P.cellsOf f0.type = 2) (hc1 : P.cellsOf f1.type = 1)
    (hb : P.underlying k0.type = some .bool) (hsl : P.underlying k1.type = some (.slice e)) (hsl1 : P.underlying f1.type = some (.slice e)) (he : P.underlying e = some (.int .i64)) (hc : P.cellsOf e = 1)
    (hv : Value.okWide P w r b0 M v) (h : DataW.Trod enc P w 0 sp hd M v d ps) :
    ∃ p k A len cap rs, v = .agg #[.int .i64 p, .int .i64 k, .slice A len cap] ∧ (Lit.int .i64 p).wf = true ∧ (Lit.int .i64 k).wf = true ∧ IsV w A len rs := by
  obtain ⟨v0, v1, v2, y0, y1, y2, n, rfl, _, _, t0, t1, t2⟩ := Joins.open_agg3 hM hone3 hC3 hv h
  obtain ⟨p, hp, _, wp⟩ := DataW.trod_int hi0 t0
  obtain ⟨k, hk, _, wk⟩ := DataW.trod_int hi1 t1
  obtain rfl : v0 = .int .i64 p := by simpa using hp
  obtain rfl : v1 = .int .i64 k := by simpa using hk
  rw [hqT] at t2
  obtain ⟨A, len, cap, hA⟩ := slice_form hT t2
  obtain rfl : v2 = .slice A len cap := by simpa using hA
  obtain ⟨rs, hr⟩ := isV_of hT hs ho0 ho1 hC hsb hone hCb hc1 hb hsl hsl1 he hc (⟨n, by simpa [Value.cells] using t2⟩ : DataW.Trod enc P w 0 sp hd T (Value.slice A len cap) y2.1 y2.2)
  exact ⟨p, k, A, len, cap, rs, rfl, wp, wk, hr⟩
end

set_option maxHeartbeats 800000 in
theorem szMatrix_any (p k : Int) (A : Option Addr) (n c : Nat) (rs : List RD) (left : Int) (w : World) (h : IsV w A n rs) (h0 : 0 ≤ left) (hl : left ≤ 1048576) :
    Calls Tryz.prog 24 #[.agg #[.int .i64 p, .int .i64 k, .slice A n c], .int .i64 left] w fun e w' => SzEnd left (n + tot rs) w w' e := by
  obtain ⟨W0, hW0⟩ : ∃ W, W = (w.alloc (.cells #[.int .i64 p, .int .i64 k, .slice A n c] 44)) := ⟨_, rfl⟩
  have hm0_0 : Hid (Box W0 (w.heap.size) 44 #[.int .i64 p, .int .i64 k, .slice A n c]) := by rw [hW0]; exact (Box.at' (by simp))
  have BW_0 : Hid (Below w.heap.size w W0) := by rw [hW0]; exact ((Below.refl w.heap.size w).alloc (by simp) _)
  have hsz0 : w.heap.size + 1 ≤ W0.heap.size := by rw [hW0]; simp
  have HV := Lib.hid h
  clear h
  go_enter Tryz.func24, Tryz.ntmps24
  go_wp2_with fail
  rw [← hW0]
  clear hW0
  refine (szRatS_any A n c rs left _ (HV.out.below BW_0.out) h0 hl).mono ?_
  rintro e w1 ⟨r, rfl, hr, hb⟩
  have hm0_1 := Lib.hid (hm0_0.out.below hb hm0_0.out.lt)
  have BW_1 := Lib.hid (BW_0.out.trans (hb.mono BW_0.out.size))
  clear hb
  rcases hr with rfl | ⟨hr0, hr1⟩
  · go_wp2_with fail
    go_ret
    exact ⟨-1, rfl, .inl rfl, BW_1.out⟩
  · have HR := Lib.hid hr1
    clear hr1
    go_wp2_with fail
    go_ret
    exact ⟨r, rfl, .inr ⟨hr0, HR.out⟩, BW_1.out⟩
def ToMEnd (p k : Int) (n : Nat) (rs : List RD) (w w' : World) (e : Ending) : Prop := ∃ V L, e = .returned (.agg #[.int .i64 p, .int .i64 k, V]) ∧ OwnV w' w.heap.size V n L ∧ Has L rs ∧ Below w.heap.size w w'
set_option maxHeartbeats 1600000 in
theorem toMatrix_any (p k : Int) (A : Option Addr) (n c : Nat) (rs : List RD) (w : World) (h : IsV w A n rs) (hm : n + tot rs ≤ 1048576) :
    Calls Tryz.prog 26 #[.agg #[.int .i64 p, .int .i64 k, .slice A n c]] w fun e w' => ToMEnd p k n rs w w' e := by
  obtain ⟨W, hW⟩ : ∃ W, W = (((w.alloc (.cells #[.int .i64 p, .int .i64 k, .slice A n c] 44)).alloc (.cells #[.int .i64 0, .int .i64 0, .slice none 0 0] 47)).alloc (.cells #[.int .i64 p, .int .i64 k, .slice none 0 0] 47)) := ⟨_, rfl⟩
  have ht_0 : Hid (Box W (w.heap.size + 1) 47 #[.int .i64 0, .int .i64 0, .slice none 0 0]) := by rw [hW]; exact (Box.at' (by simp)).alloc _
  have hm1_0 : Hid (Box W (w.heap.size + 1 + 1) 47 #[.int .i64 p, .int .i64 k, .slice none 0 0]) := by rw [hW]; exact Box.at' (by simp)
  have BW_0 : Hid (Below w.heap.size w W) := by rw [hW]; exact (((Below.refl _ _).alloc (Nat.le_refl _) _).alloc (by simp) _).alloc (by simp; omega) _
  have hWs : W.heap.size = w.heap.size + 1 + 1 + 1 := by rw [hW]; simp
  have HV := Lib.hid (h.below BW_0.out)
  clear h
  go_enter Tryz.func26, Tryz.ntmps26
  go_wp2_with fail
  rw [← hW]
  clear hW
  refine (toRatS_any A n c rs _ HV.out hm).mono ?_
  rintro e w1 ⟨V, L, rfl, ho, hh, hb⟩
  have hm1_1 := Lib.hid (hm1_0.out.below hb hm1_0.out.lt)
  have ht_1 := Lib.hid (ht_0.out.below hb ht_0.out.lt)
  have BW_1 := Lib.hid (BW_0.out.trans (hb.mono BW_0.out.size))
  obtain ⟨A1, c1, rfl⟩ := ho.slice
  have HO := Lib.hid ho
  have HH := Lib.hid hh
  have hz : W.heap.size ≤ w1.heap.size := hb.size
  clear ho hh hb
  have ehm10 := hm1_1.out.cell 0
  have ehm11 := hm1_1.out.cell 1
  have ehm12 := hm1_1.out.cell 2
  have eht0 := ht_1.out.cell 0
  have eht1 := ht_1.out.cell 1
  have eht2 := ht_1.out.cell 2
  have fht0 := ht_1.out.free 0
  have fht1 := ht_1.out.free 1
  have fht2 := ht_1.out.free 2
  simp at ehm10 ehm11 ehm12 eht0 eht1 eht2
  have fm2 := hm1_1.out.free 2
  go_wp2_with fail
  refine bodyPost_ret (v := .agg #[.int .i64 p, .int .i64 k, .slice A1 n c1]) (by simp [results, Tryz.results26, eht0, eht1, eht2, go_sem]) rfl ?_
  have ht_4 := ht_1.out.far (p := ⟨w.heap.size + 1 + 1, 2, none⟩) (by dsimp only; omega) (.slice A1 n c1)
  refine ⟨_, L, rfl, ?_, HH.out, ?_⟩
  · exact ((HO.out.box_set hm1_1.out _).box_set3 ht_4 _ _ _).lower (by omega)
  · exact below_store3 (BW_1.out.setCell (by dsimp only; omega) _) (by omega) _ _ _
set_option maxHeartbeats 800000 in
theorem eqMatrix_same (p k : Int) (A1 A2 : Option Addr) (n c1 c2 : Nat) (rs : List RD) (w : World) (h1 : InV w A1 n rs) (h2 : InV w A2 n rs) :
    Calls Tryz.prog 28 #[.agg #[.int .i64 p, .int .i64 k, .slice A1 n c1], .agg #[.int .i64 p, .int .i64 k, .slice A2 n c2]] w fun e w' => e = .returned (.bool true) ∧ Below w.heap.size w w' := by
  obtain ⟨W0, hW0⟩ : ∃ W, W = ((w.alloc (.cells #[.int .i64 p, .int .i64 k, .slice A1 n c1] 47)).alloc (.cells #[.int .i64 p, .int .i64 k, .slice A2 n c2] 47)) := ⟨_, rfl⟩
  have hm0_0 : Hid (Box W0 (w.heap.size) 47 #[.int .i64 p, .int .i64 k, .slice A1 n c1]) := by rw [hW0]; exact ((Box.at' (by simp)).alloc _)
  have hm1_0 : Hid (Box W0 (w.heap.size + 1) 47 #[.int .i64 p, .int .i64 k, .slice A2 n c2]) := by rw [hW0]; exact (Box.at' (by simp))
  have BW_0 : Hid (Below w.heap.size w W0) := by rw [hW0]; exact (((Below.refl w.heap.size w).alloc (by simp) _).alloc (by simp) _)
  have hsz0 : w.heap.size + 1 + 1 ≤ W0.heap.size := by rw [hW0]; simp
  have H1 := Lib.hid (h1.below BW_0.out)
  have H2 := Lib.hid (h2.below BW_0.out)
  clear h1 h2
  have hpp : (p != p) = false := by simp
  have hkk : (k != k) = false := by simp
  go_enter Tryz.func28, Tryz.ntmps28
  go_wp2_with fail
  rw [← hW0]
  clear hW0
  refine (eqRatS_same A1 A2 n c1 c2 rs _ H1.out H2.out).mono ?_
  rintro e w1 ⟨rfl, hb⟩
  have hm0_1 := Lib.hid (hm0_0.out.below hb hm0_0.out.lt)
  have BW_1 := Lib.hid (BW_0.out.trans (hb.mono BW_0.out.size))
  clear hb
  go_wp2_with fail
  go_ret
  exact ⟨rfl, BW_1.out⟩
def MarkMaEnd (base : Nat) (V : Value) (n K m : Nat) (L : List El) (w w' : World) (e : Ending) : Prop :=
  e = .returned (.int .i64 ((K + m : Nat) : Int)) ∧ OwnV w' base V n (markL K L) ∧ Wrote (footV V L) w w'
set_option maxHeartbeats 800000 in
theorem markMatrix_m (base : Nat) (p k : Int) (A : Option Addr) (n c K m : Nat) (L : List El) (rs : List RD) (w : World) (hm : Hid (mtot L = m)) (hK : K + m < maxLen) (h : OwnV w base (.slice A n c) n L) (hh : Has L rs) :
    Calls Tryz.prog 30 #[.agg #[.int .i64 p, .int .i64 k, .slice A n c], .int .i64 K] w fun e w' => MarkMaEnd base (.slice A n c) n K m L w w' e := by
  obtain ⟨W0, hW0⟩ : ∃ W, W = (w.alloc (.cells #[.int .i64 p, .int .i64 k, .slice A n c] 47)) := ⟨_, rfl⟩
  have hm0_0 : Hid (Box W0 (w.heap.size) 47 #[.int .i64 p, .int .i64 k, .slice A n c]) := by rw [hW0]; exact (Box.at' (by simp))
  have BW_0 : Hid (Below w.heap.size w W0) := by rw [hW0]; exact ((Below.refl w.heap.size w).alloc (by simp) _)
  have hsz0 : w.heap.size + 1 ≤ W0.heap.size := by rw [hW0]; simp
  have HO := Lib.hid (h.below (BW_0.out.mono (Nat.le_refl _)))
  have HH := Lib.hid hh
  have HW0 : Hid (Wrote (footV (.slice A n c) L) w W0) := Wrote.of_below BW_0.out
  clear h hh
  go_enter Tryz.func30, Tryz.ntmps30
  go_wp2_with fail
  rw [← hW0]
  clear hW0
  refine (markRatS_m base A n c K m L rs _ hm hK HO.out HH.out).mono ?_
  rintro e w1 ⟨rfl, ho, hW⟩
  have HF : Hid (MarkMaEnd base (.slice A n c) n K m L w w1 (.returned (.int .i64 ((K + m : Nat) : Int)))) := ⟨rfl, ho, HW0.out.trans hW⟩
  clear ho hW
  go_wp2_with fail
  go_ret
  exact HF.out
set_option maxHeartbeats 800000 in
theorem heldMatrix_m (base : Nat) (p k : Int) (A : Option Addr) (n c K m : Nat) (L : List El) (w : World) (hm : Hid (mtot L = m)) (hK : K + m < maxLen) (h : OwnV w base (.slice A n c) n (markL K L)) :
    Calls Tryz.prog 32 #[.agg #[.int .i64 p, .int .i64 k, .slice A n c], .int .i64 K] w fun e w' => e = .returned (.int .i64 ((K + m : Nat) : Int)) ∧ Below w.heap.size w w' := by
  obtain ⟨W0, hW0⟩ : ∃ W, W = (w.alloc (.cells #[.int .i64 p, .int .i64 k, .slice A n c] 47)) := ⟨_, rfl⟩
  have hm0_0 : Hid (Box W0 (w.heap.size) 47 #[.int .i64 p, .int .i64 k, .slice A n c]) := by rw [hW0]; exact (Box.at' (by simp))
  have BW_0 : Hid (Below w.heap.size w W0) := by rw [hW0]; exact ((Below.refl w.heap.size w).alloc (by simp) _)
  have hsz0 : w.heap.size + 1 ≤ W0.heap.size := by rw [hW0]; simp
  have HO := Lib.hid (h.below (BW_0.out.mono (Nat.le_refl _)))
  clear h
  have hK2 : K + m < 9223372036854775807 := by unfold maxLen at hK; omega
  go_enter Tryz.func32, Tryz.ntmps32
  go_wp2_with fail
  rw [← hW0]
  clear hW0
  refine (heldRatS_m base A n c K m L _ hm hK HO.out).mono ?_
  rintro e w1 ⟨rfl, hb⟩
  have hm0_1 := Lib.hid (hm0_0.out.below hb hm0_0.out.lt)
  have BW_1 := Lib.hid (BW_0.out.trans (hb.mono BW_0.out.size))
  clear hb
  go_wp2_with fail
  go_ret
  exact ⟨rfl, BW_1.out⟩
end Go.Proofs.YtdehcddjkcpnfaaGreat
