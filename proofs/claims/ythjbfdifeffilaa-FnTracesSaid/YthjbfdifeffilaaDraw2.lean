/- Contracts of the model's draws of vectors and matrices. -/
import Derived.Test.YthjbfdifeffilaaDraw
import Derived.Test.YthjbfdifeffilaaMatC
namespace Go.Proofs.Ythjbfdifeffilaa
set_option maxRecDepth 100000
open Go.RowKit

theorem new_elG {wr w2 : World} {base n g0 : Nat} {V : Value} {L : List El} {g : Bool} {r d : List Int} {A B : Option Addr} {N M c2 d2 : Nat} (ho : OwnV wr base V n L) (hs : base ≤ wr.heap.size) (hgb : wr.grownBy w2 (some g0)) (hg0 : g0 < base)
    (h1 : ResI wr w2 (.slice A N c2) r) (h2 : ResI wr w2 (.slice B M d2) d) (hap : Apart (.slice B M d2) (.slice A N c2)) :
    OwnV w2 base V n L ∧ (El.mk g (.slice A N c2) r.length (r.map (.int .i64)) (.slice B M d2) d.length (d.map (.int .i64))).own w2 base ∧
      (∀ x ∈ L, Far x (El.mk g (.slice A N c2) r.length (r.map (.int .i64)) (.slice B M d2) d.length (d.map (.int .i64)))) := by
  have he0 : (El.mk g (.slice A N c2) r.length (r.map (.int .i64)) (.slice B M d2) d.length (d.map (.int .i64))).own w2 wr.heap.size := ⟨h1.2, h2.2, hap⟩
  exact ⟨ho.drawn hgb hg0, he0.lower hs, ho.far_new he0 (Nat.le_refl _)⟩
theorem small_goods {rs : List RD} {n : Nat} (h : ∀ r ∈ rs, Small 20 r) (hn : rs.length = n) (h5 : n ≤ 1024) : Goods rs := ⟨by omega, fun r hr => by obtain ⟨q, hq⟩ := h r hr; exact .inl hq.ok⟩
theorem small_ok {rs : List RD} (h : ∀ r ∈ rs, Small 20 r) : ∀ r ∈ rs, r.ok := fun r hr => by obtain ⟨q, hq⟩ := h r hr; exact hq.ok
theorem small_snoc {rs : List RD} {r : RD} (h : ∀ r ∈ rs, Small 20 r) (k : Small 20 r) : ∀ x ∈ rs ++ [r], Small 20 x := fun x hx => by
  rcases List.mem_append.1 hx with hx | hx
  · exact h x hx
  · rw [List.mem_singleton] at hx; subst hx; exact k
/-- The length in a slot: for a loop's measure. -/
def lenOf : Value → Nat | .slice _ n _ => n | _ => 0
def DrawEnd (n B g : Nat) (w : World) (e : Ending) (w' : World) : Prop := ∃ rs V, e = .returned V ∧ rs.length = n ∧ (∀ r ∈ rs, Small 20 r) ∧ ResV w w' V rs ∧ Cur w' B g ∧ w.grownBy w' (some g)
set_option maxHeartbeats 3200000 in
theorem spec_draw (n B g : Nat) (w : World) (hn : n ≤ 1000) (hc : Cur w B g) :
    Calls Try.prog 69 #[.pointer (some ⟨g, 0, none⟩), .int .i64 n] w (DrawEnd n B g w) := by
  obtain ⟨i0, hi, hz0, hz1, hz2⟩ := info_parts Try.infoR
  have C0 := Lib.hid (hc.below ((Below.refl w.heap.size w).alloc (Nat.le_refl _) (.cells #[] 31)))
  have G0 : Hid (w.grownBy (w.alloc (.cells #[] 31)) (some g)) := grownBy_alloc _ _ _
  have hgw := hc.blk.2
  have hBg := hc.blk.1
  clear hc
  go_enter Try.func69, Try.ntmps69
  go_wp2_with fail
  go_loopw [5] (fun x wr => ∃ (i : Nat) (rs : List RD) (L : List El) (A1 : Option Addr) (c1 : Nat), i ≤ n ∧ x = .slice A1 i c1 ∧ Hid (rs.length = i) ∧ Hid (∀ r ∈ rs, Small 20 r) ∧ Hid (OwnV wr w.heap.size (.slice A1 i c1) i L) ∧ Hid (Has L rs) ∧ Hid (Cur wr B g) ∧ Hid (w.grownBy wr (some g))) (fun x _ => n - lenOf x)
  case atStart => exact ⟨0, [], [], _, _, Nat.zero_le _, rfl, rfl, (by intro r hr; cases hr), OwnV.empty _ _, trivial, C0, G0⟩
  case round =>
    obtain ⟨i, rs, L, A1, c1, hle, rfl, hl, hsm, ho, hh, hcr, hgr⟩ := hrel
    by_cases hlt : i < n
    · have hi1 : (i : Int) < (n : Int) := by omega
      go_wp2_with fail
      refine (spec_number B g _ hcr.out).mono ?_
      rintro e w2 ⟨s, l, v, d, u, rfl, hs, q1, q2, hap, hc2, hgb⟩
      obtain ⟨A2, c2, rfl⟩ := own_slice q1.2
      obtain ⟨B2, d2, rfl⟩ := own_slice q2.2
      obtain ⟨s1, s2, s3⟩ := new_elG (g := s) ho.out hgr.out.size hgb hgw q1 q2 hap
      have HO := Lib.hid s1
      have HE := Lib.hid s2
      have HFR := Lib.hid s3
      have C2 := Lib.hid hc2
      have G2 := Lib.hid (grownBy_trans hgr.out hgb)
      have hsz2 : w.heap.size ≤ w2.heap.size := G2.out.size
      have HS2 : Hid (∀ x ∈ rs ++ [RD.mk s l d], Small 20 x) := small_snoc hsm.out hs
      have HL2 : Hid ((rs ++ [RD.mk s l d]).length = i + 1) := by unfold Hid; rw [List.length_append, hl.out]; rfl
      have HH2 : Hid (Has (L ++ [El.mk s (.slice A2 l.length c2) l.length (l.map (.int .i64)) (.slice B2 d.length d2) d.length (d.map (.int .i64))]) (rs ++ [RD.mk s l d])) := hh.out.append ⟨⟨rfl, rfl, rfl, rfl, rfl⟩, trivial⟩
      clear s1 s2 s3 q1 q2 hap hs hc2 hgb
      go_wp2_with (at_builtin; refine wpList_append_el rfl _ _ 23 rfl w.heap.size i0 (.agg #[.bool false, .slice none 0 0, .slice none 0 0]) 56 Try.underlying23 hi hz0 hz1 hz2 rfl _ i L rfl HO.out ⟨s, .slice A2 l.length c2, l.length, l.map (.int .i64), .slice B2 d.length d2, d.length, d.map (.int .i64)⟩ rfl HE.out HFR.out rfl rfl (by unfold maxLen; omega) (by omega) hsz2 _ ?_)
      intro V' w3 s1 hg
      obtain ⟨A5, c5, rfl⟩ := s1.slice
      have HO3 := Lib.hid s1
      have C3 := Lib.hid ((C2.out.below ((Below.refl w2.heap.size w2).alloc (Nat.le_refl _) _)).moved hg (fun j hj => by have := (HO.out.2.1.lt j hj).1; omega) hBg)
      have G3 := Lib.hid (gb_app G2.out hg (fun k hk => (HO.out.2.1.lt k hk).1))
      clear s1 hg
      go_wp2_with fail
      go_roundw
      case rel => exact ⟨i + 1, _, _, A5, c5, by omega, rfl, HL2, HS2, HO3, HH2, C3, G3⟩
      case measure => simp [lenOf]; omega
    · obtain rfl : i = n := by omega
      have HF : Hid (DrawEnd i B g w (.returned (.slice A1 i c1)) wr) := ⟨rs, _, rfl, hl.out, hsm.out, resV_mk (small_goods hsm.out hl.out (by omega)) hl.out ho.out hh.out, hcr.out, hgr.out⟩
      go_wp2_with fail
      go_ret
      exact HF.out
def DrawMEnd (P K g : Nat) (w : World) (e : Ending) (w' : World) : Prop := ∃ rs V, e = .returned (.agg #[.int .i64 P, .int .i64 K, V]) ∧ rs.length = P * K ∧ (∀ r ∈ rs, Small 20 r) ∧ ResV w w' V rs ∧ w.grownBy w' (some g)
set_option maxHeartbeats 3200000 in
theorem spec_l06Draw (P K B g : Nat) (w : World) (hP : P ≤ 24) (hK : K ≤ 24) (hc : Cur w B g) :
    Calls Try.prog 35 #[.pointer (some ⟨g, 0, none⟩), .int .i64 P, .int .i64 K] w (DrawMEnd P K g w) := by
  obtain ⟨W0, hW0⟩ : ∃ W, W = (w.alloc (.cells #[.int .i64 0, .int .i64 0, .slice none 0 0] 25)) := ⟨_, rfl⟩
  have ht_0 : Hid (Box W0 (w.heap.size) 25 #[.int .i64 0, .int .i64 0, .slice none 0 0]) := by rw [hW0]; exact (Box.at' (by simp))
  have BW_0 : Hid (Below w.heap.size w W0) := by rw [hW0]; exact ((Below.refl w.heap.size w).alloc (by simp) _)
  have hsz0 : w.heap.size + 1 ≤ W0.heap.size := by rw [hW0]; simp
  have C0 := Lib.hid (hc.below BW_0.out)
  have hgw := hc.blk.2
  have hg1 : some w.heap.size ≠ some g := fun e => by cases e; omega
  have G0 : Hid (w.grownBy W0 (some g)) := grownBy_of_below BW_0.out _
  obtain ⟨N, hN⟩ : ∃ N, N = P * K := ⟨_, rfl⟩
  have hN5 : N ≤ 576 := by rw [hN]; exact mul_le_576 hP hK
  have hNI : ((P : Int) * (K : Int)) = (N : Int) := by rw [hN]; exact (Int.natCast_mul _ _).symm
  have hNN := Lib.hid hN
  clear hc hN
  go_enter Try.func35, Try.ntmps35
  go_wp2_with fail
  rw [← hW0]
  clear hW0
  refine (spec_draw N B g _ (by omega) C0.out).mono ?_
  rintro e w1 ⟨rs, V, rfl, hl, hsm, ⟨hl1, hf1, L, ho, hh⟩, hc1, hgb⟩
  rw [hl] at ho
  obtain ⟨A1, c1, rfl⟩ := ho.slice
  have ht_1 := Lib.hid (ht_0.out.grown hgb hg1)
  have HL := Lib.hid hl
  have HS := Lib.hid hsm
  have HO := Lib.hid ((ho.lower (BW_0.out.size)).box_set3 ht_1.out (.int .i64 P) (.int .i64 K) (.slice A1 N c1))
  have HH := Lib.hid hh
  have G1 := Lib.hid (gb_set (gb_set (gb_set (grownBy_trans G0.out hgb) (p := ⟨w.heap.size, 0, none⟩) (Nat.le_refl _) (.int .i64 P)) (p := ⟨w.heap.size, 1, none⟩) (Nat.le_refl _) (.int .i64 K)) (p := ⟨w.heap.size, 2, none⟩) (Nat.le_refl _) (.slice A1 N c1))
  clear hl hsm hl1 hf1 ho hh hc1 hgb hNI
  have eht0 := ht_1.out.cell 0
  have eht1 := ht_1.out.cell 1
  have eht2 := ht_1.out.cell 2
  have fht0 := ht_1.out.free 0
  have fht1 := ht_1.out.free 1
  have fht2 := ht_1.out.free 2
  simp at eht0 eht1 eht2
  go_wp2_with fail
  refine bodyPost_ret (v := .agg #[.int .i64 P, .int .i64 K, .slice A1 N c1]) (by simp [results, Try.results35, eht0, eht1, eht2, go_sem]) rfl ?_
  exact ⟨rs, _, rfl, by rw [HL.out]; exact hNN.out, HS.out, resV_mk (small_goods HS.out HL.out (by omega)) HL.out HO.out HH.out, G1.out⟩
end Go.Proofs.Ythjbfdifeffilaa
