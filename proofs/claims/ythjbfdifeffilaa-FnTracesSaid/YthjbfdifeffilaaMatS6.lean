/- Contracts of matrices, by the model: applied to a vector; the product. -/
import Derived.Test.YthjbfdifeffilaaMatS4
import Derived.Test.YthjbfdifeffilaaMatS5
import Derived.Test.YthjbfdifeffilaaVecB3
import Derived.Deep.RegionLaw
namespace Go.Proofs.Ythjbfdifeffilaa
set_option maxRecDepth 100000
open Go.RowKit

theorem applyS_no {p k : Int} {rs v : List RD} (h : ¬ (MOk p k rs ∧ VOk v ∧ (v.length : Int) = k)) : ApplyMatrixIs p k rs v [] false := done_no h
theorem mulS_no {p k p' k' : Int} {rs ss : List RD} (h : ¬ (MOk p k rs ∧ MOk p' k' ss ∧ k = p')) : MultiplyIs p k rs p' k' ss 0 0 [] false := matDone_no fun h2 => h h2.1
/-- An element that a call has handed back, about to be appended to a list that is told with its base. -/
theorem new_elB {wr w2 : World} {base n : Nat} {V : Value} {L : List El} {g : Bool} {r d : List Int} {A B : Option Addr} {N M c2 d2 : Nat} (ho : OwnV wr base V n L) (hs : base ≤ wr.heap.size) (hb2 : Below wr.heap.size wr w2)
    (h1 : ResI wr w2 (.slice A N c2) r) (h2 : ResI wr w2 (.slice B M d2) d) (hap : Apart (.slice B M d2) (.slice A N c2)) :
    OwnV w2 base V n L ∧ (El.mk g (.slice A N c2) r.length (r.map (.int .i64)) (.slice B M d2) d.length (d.map (.int .i64))).own w2 base ∧
      (∀ x ∈ L, Far x (El.mk g (.slice A N c2) r.length (r.map (.int .i64)) (.slice B M d2) d.length (d.map (.int .i64)))) := by
  have he0 : (El.mk g (.slice A N c2) r.length (r.map (.int .i64)) (.slice B M d2) d.length (d.map (.int .i64))).own w2 wr.heap.size := ⟨h1.2, h2.2, hap⟩
  exact ⟨ho.below hb2, he0.lower hs, ho.far_new he0 (Nat.le_refl _)⟩
/-- The blocks from lo on, up to hi, are as they were; no block has gone. -/
def Same (lo hi : Nat) (a b : World) : Prop := (∀ k, lo ≤ k → k < hi → b.heap[k]? = a.heap[k]?) ∧ a.heap.size ≤ b.heap.size
theorem Same.refl (lo hi : Nat) (a : World) : Same lo hi a a := ⟨fun _ _ _ => rfl, Nat.le_refl _⟩
theorem Same.below {lo hi B : Nat} {a b c : World} (h : Same lo hi a b) (hb : Below B b c) (hB : hi ≤ B) : Same lo hi a c := ⟨fun k h1 h2 => (hb.block k (Nat.lt_of_lt_of_le h2 hB)).trans (h.1 k h1 h2), Nat.le_trans h.2 hb.size⟩
theorem Same.setCell {lo hi : Nat} {a b : World} (h : Same lo hi a b) {p : Addr} (hp : p.block < lo) (u : Value) : Same lo hi a (b.setCell p u) := ⟨fun k h1 h2 => (Below.heap_setCell _ _ _ _ (by omega)).trans (h.1 k h1 h2), Nat.le_trans h.2 (by simp [World.setCell])⟩
theorem Same.drew {lo hi : Nat} {a b : World} (h : Same lo hi a b) : Same lo hi a b.drew := h
theorem Same.own {lo hi base n : Nat} {a b : World} {V : Value} {L : List El} (h : Same lo hi a b) (ho : OwnV a base V n L) (h1 : lo ≤ base) (h2 : a.heap.size ≤ hi) : OwnV b base V n L :=
  ho.dep fun k hk => h.1 k (Nat.le_trans h1 (ho.lt k hk).1) (Nat.lt_of_lt_of_le (ho.lt k hk).2 h2)
theorem Same.box {lo hi g : Nat} {t : TypeId} {cs : Array Value} {a b : World} (h : Same lo hi a b) (hb : Box a g t cs) (h1 : lo ≤ g) (h2 : a.heap.size ≤ hi) : Box b g t cs := (h.1 g h1 (Nat.lt_of_lt_of_le hb.lt h2)).trans hb
theorem Same.grown {lo hi base n : Nat} {a b w' : World} {V : Value} {L : List El} {o : Obj} (h : Same lo hi a b) (hl : OwnV b base V n L) (hg : (b.alloc o).grownBy w' V.ownBlock) (hB : hi ≤ base) (hs : hi ≤ b.heap.size) : Same lo hi a w' :=
  ⟨fun k h1 h2 => ((hg.block k (by simp; omega) (fun e => by have := (hl.2.1.lt k e.symm).1; omega)).trans (Below.heap_alloc _ _ _ (by omega))).trans (h.1 k h1 h2), Nat.le_trans h.2 (Nat.le_trans (by simp) hg.size)⟩
theorem below_appB {w w2 w' : World} {base n : Nat} {V : Value} {L : List El} {o : Obj} (hb : Below w.heap.size w w2) (h : OwnV w2 base V n L) (hg : (w2.alloc o).grownBy w' V.ownBlock) (hB : w.heap.size ≤ base) : Below w.heap.size w w' :=
  (hb.alloc hb.size o).grown hg (by have := hb.size; simp; omega) fun k hk => Nat.le_trans hB (h.2.1.lt k hk).1
set_option maxHeartbeats 12800000 in
theorem spec_l06Multiply (P K Q : Nat) (A : Option Addr) (n c : Nat) (rs : List RD) (B : Option Addr) (m d : Nat) (ss : List RD) (w : World) (h1 : InV w A n rs) (hc : n ≤ c) (hm : MOk P K rs) (h2 : InV w B m ss) (hm2 : MOk K Q ss) :
    Calls Try.prog 36 #[.agg #[.int .i64 P, .int .i64 K, .slice A n c], .agg #[.int .i64 K, .int .i64 Q, .slice B m d]] w fun e w' => MatEnd (fun p k r => p = P ∧ k = Q ∧ r = mmul P K Q rs ss) w w' e := by
  obtain ⟨i0, hi, hz0, hz1, hz2⟩ := info_parts Try.infoR
  obtain ⟨W0, hW0⟩ : ∃ W, W = (((w.alloc (.cells #[.int .i64 P, .int .i64 K, .slice A n c] 25)).alloc (.cells #[.int .i64 K, .int .i64 Q, .slice B m d] 25)).alloc (.cells #[.int .i64 0, .int .i64 0, .slice none 0 0] 25)) := ⟨_, rfl⟩
  have hm0_0 : Hid (Box W0 (w.heap.size) 25 #[.int .i64 P, .int .i64 K, .slice A n c]) := by rw [hW0]; exact (((Box.at' (by simp)).alloc _).alloc _)
  have hm1_0 : Hid (Box W0 (w.heap.size + 1) 25 #[.int .i64 K, .int .i64 Q, .slice B m d]) := by rw [hW0]; exact ((Box.at' (by simp)).alloc _)
  have ht_0 : Hid (Box W0 (w.heap.size + 1 + 1) 25 #[.int .i64 0, .int .i64 0, .slice none 0 0]) := by rw [hW0]; exact (Box.at' (by simp))
  have BW_0 : Hid (Below w.heap.size w W0) := by rw [hW0]; exact ((((Below.refl w.heap.size w).alloc (by simp) _).alloc (by simp) _).alloc (by simp; omega) _)
  have hsz0 : w.heap.size + 1 + 1 + 1 ≤ W0.heap.size := by rw [hW0]; simp
  have hn := h1.2.1
  have hPb := hm.1
  have hKb := hm.2.1
  have hQb := hm2.2.1
  have hP24 : P ≤ 24 := by omega
  have hK24 : K ≤ 24 := by omega
  have hQ24 : Q ≤ 24 := by omega
  have HV := Lib.hid (h1.below BW_0.out)
  have HS := Lib.hid (h2.below BW_0.out)
  have HM := Lib.hid hm
  have HM2 := Lib.hid hm2
  have HNPK : Hid (n = P * K) := by unfold Hid; rw [← h1.1]; exact hm.plen
  obtain ⟨zs, hzs⟩ : ∃ zs, zs = mmul P K Q rs ss := ⟨_, rfl⟩
  have HZ := Lib.hid hzs
  obtain ⟨N, hN⟩ : ∃ N, N = P * Q := ⟨_, rfl⟩
  have HN := Lib.hid hN
  have HZL : Hid (zs.length = N) := by unfold Hid; rw [hzs, mmul_length, hN]
  have hN5 : N ≤ 576 := by rw [hN]; exact mul_le_576 hP24 hQ24
  have HGD : Hid (Goods zs) := ⟨by rw [HZL.out]; omega, fun x hx => by rw [hzs] at hx; exact mem_mmul hx⟩
  have hlt0 := hm0_0.out.lt
  have hlt1 := hm1_0.out.lt
  have hltt := ht_0.out.lt
  have hsz0 := BW_0.out.size
  clear h1 h2 hm hm2 hzs hN
  go_enter Try.func36, Try.ntmps36
  obtain ⟨W2, hW2⟩ : ∃ W, W = W0.alloc (.cells #[.int .i64 P, .int .i64 Q, .slice none 0 0] 25) := ⟨_, rfl⟩
  have X_2 : Hid (Box W2 (w.heap.size + 1 + 1 + 1) 25 #[.int .i64 P, .int .i64 Q, .slice none 0 0]) := by rw [hW2]; exact Box.at' (by rw [hW0]; simp)
  have BZ : Hid (Below W0.heap.size W0 W2) := by rw [hW2]; exact (Below.refl _ _).alloc (Nat.le_refl _) _
  have hW0s : W0.heap.size = w.heap.size + 1 + 1 + 1 := by rw [hW0]; simp
  have HW0 : Hid (W2 = ((((w.alloc (.cells #[.int .i64 P, .int .i64 K, .slice A n c] 25)).alloc (.cells #[.int .i64 K, .int .i64 Q, .slice B m d] 25)).alloc (.cells #[.int .i64 0, .int .i64 0, .slice none 0 0] 25)).alloc (.cells #[.int .i64 P, .int .i64 Q, .slice none 0 0] 25))) := Lib.hid (by rw [hW2, hW0])
  clear hW0 hW2
  go_wp2_with fail
  rw [← HW0.out]
  clear HW0
  refine (spec_l06Transpose K Q B m d ss _ (HS.out.below BZ.out) HM2.out).mono ?_
  rintro e w5 ⟨q5, j5, tr, V, rfl, ⟨rfl, rfl, htr⟩, ⟨hl5, hf5, LT, hoT, hhT⟩, hb5⟩
  have HTR := Lib.hid htr
  obtain ⟨NT, hNT⟩ : ∃ N, N = tr.length := ⟨_, rfl⟩
  rw [← hNT] at hoT
  obtain ⟨AT, cT, rfl⟩ := hoT.slice
  have hNT2 : NT = Q * K := by rw [hNT, htr, trans_length]
  have HNT2 := Lib.hid hNT2
  have hnT : NT ≤ 1048576 := by have := mul_le_576 hQ24 hK24; omega
  have MT : Hid (MOk Q K tr) := by rw [htr]; exact HM2.out.trans
  have HFT : Hid (∀ r ∈ tr, r.fits) := hf5
  have hcT : NT ≤ cT := own_le hoT.2.1
  have HHT := Lib.hid hhT
  have hXl := X_2.out.lt
  have h25 := hb5.size
  have X_5 := Lib.hid (X_2.out.below hb5 X_2.out.lt)
  have B5 := Lib.hid (BZ.out.trans (hb5.mono BZ.out.size))
  have OT := Lib.hid hoT
  clear htr hl5 hf5 hoT hhT hb5 hNT hNT2
  obtain ⟨W6, hW6⟩ : ∃ W, W = w5.alloc (.cells #[.int .i64 Q, .int .i64 K, .slice AT NT cT] 25) := ⟨_, rfl⟩
  have hbx : Below w5.heap.size w5 W6 := by rw [hW6]; exact (Below.refl _ _).alloc (Nat.le_refl _) _
  have Y_6 : Hid (Box W6 w5.heap.size 25 #[.int .i64 Q, .int .i64 K, .slice AT NT cT]) := by rw [hW6]; exact Box.new _ _ _
  have T_6 := Lib.hid (OT.out.below hbx)
  have X_6 := Lib.hid (X_5.out.below hbx X_5.out.lt)
  have B6 : Hid (Below W0.heap.size W0 W6) := B5.out.trans (hbx.mono B5.out.size)
  have h26 : W2.heap.size ≤ W6.heap.size := Nat.le_trans h25 hbx.size
  have h06 : W0.heap.size ≤ W6.heap.size := B6.out.size
  have HI6 : Hid (InV W6 AT NT tr) := T_6.out.in_ HHT.out (by omega) HFT.out
  clear hbx OT X_5 B5
  go_wp2_with fail
  rw [← hW6]
  clear hW6
  go_loopw [7] (fun y wr => ∃ (i u : Nat) (L : List El) (A1 : Option Addr) (c1 : Nat), i ≤ P ∧ y = .int .i64 i ∧ Hid (u = i * Q) ∧ Hid (OwnV wr W6.heap.size (.slice A1 u c1) u L) ∧ Hid (Has L (zs.take u)) ∧ Hid (Box wr (w.heap.size + 1 + 1 + 1) 25 #[.int .i64 P, .int .i64 Q, .slice A1 u c1]) ∧ Hid (Same W2.heap.size W6.heap.size W6 wr) ∧ Hid (Below W0.heap.size W0 wr)) (fun y _ => P - (intOf y).toNat)
  case atStart => exact ⟨0, 0, [], none, 0, Nat.zero_le _, rfl, by simp [Hid], OwnV.none_ _ _, by rw [List.take_zero]; exact trivial, X_6, Same.refl _ _ _, B6⟩
  case round =>
    obtain ⟨i, u0, L, A1, c1, hle, rfl, hu0, ho, hh, hX, hS, hb⟩ := hrel
    by_cases hlt : i < P
    · obtain ⟨wo, rfl⟩ : ∃ wo : World, wo = wr := ⟨_, rfl⟩
      have hi0 : (0 : Int) ≤ (i : Int) := by omega
      have hi1 : (i : Int) < (P : Int) := by omega
      have hm0_o := Lib.hid (hm0_0.out.below hb.out hm0_0.out.lt)
      have ehm00 := hm0_o.out.cell 0
      have ehm01 := hm0_o.out.cell 1
      have ehm02 := hm0_o.out.cell 2
      simp at ehm00 ehm01 ehm02
      have U0 : Hid (u0 = i * Q + 0) := hu0
      go_wp2_with fail
      clear ehm00 ehm01 ehm02
      go_loopw [8] (fun x wr => ∃ (j u : Nat) (L : List El) (A1 : Option Addr) (c1 : Nat), j ≤ Q ∧ x = .int .i64 j ∧ Hid (u = i * Q + j) ∧ Hid (OwnV wr W6.heap.size (.slice A1 u c1) u L) ∧ Hid (Has L (zs.take u)) ∧ Hid (Box wr (w.heap.size + 1 + 1 + 1) 25 #[.int .i64 P, .int .i64 Q, .slice A1 u c1]) ∧ Hid (Same W2.heap.size W6.heap.size W6 wr) ∧ Hid (Below W0.heap.size W0 wr)) (fun x _ => Q - (intOf x).toNat)
      case atStart => exact ⟨0, u0, L, A1, c1, Nat.zero_le _, rfl, U0, ho, hh, hX, hS, hb⟩
      case round =>
        clear ho hh hX hS hb
        obtain ⟨j, u, L, A1, c1, hlej, rfl, hu, ho, hh, hX, hS, hb⟩ := hrel
        obtain ⟨wi, rfl⟩ : ∃ wi : World, wi = wr := ⟨_, rfl⟩
        have hm0_i := Lib.hid (hm0_0.out.below hb.out hm0_0.out.lt)
        have hm1_i := Lib.hid (hm1_0.out.below hb.out hm1_0.out.lt)
        by_cases hltj : j < Q
        · have hj0 : (0 : Int) ≤ (j : Int) := by omega
          have hj1 : (j : Int) < (Q : Int) := by omega
          have hir : i * K + K ≤ n := by rw [HNPK.out]; exact row_le hlt
          have hjr : j * K + K ≤ NT := by rw [HNT2.out]; exact row_le hltj
          have HPO : Hid (PairOk (mrow K rs i) (mrow K tr j)) := ⟨mrow_ok HM.out rfl HM.out.plen hlt, mrow_ok MT.out rfl MT.out.plen hltj, by rw [mrow_length HM.out.plen hlt, mrow_length MT.out.plen hltj]⟩
          have HZI : Hid (zs[u]? = some (rinner (mrow K rs i) (mrow K tr j))) := by unfold Hid; rw [hu.out, HZ.out, HTR.out]; exact mmul_at hlt hltj
          have huN : u < N := by rw [hu.out, HN.out]; exact cell_lt hlt hltj
          have hux : Hid (u + 1 = i * Q + (j + 1)) := by have := hu.out; unfold Hid; omega
          have hW6r : W6.heap.size ≤ wi.drew.heap.size := hS.out.2
          have X_0 := Lib.hid hX.out.drew
          have Y_0 := Lib.hid (hS.out.box Y_6.out h25 (Nat.le_refl _)).drew
          have T_0 := Lib.hid (OwnV.drew (hS.out.own T_6.out (Nat.le_refl _) (Nat.le_refl _)))
          have S_0 := Lib.hid hS.out.drew
          have OD := Lib.hid (OwnV.drew ho.out)
          have BD := Lib.hid hb.out.drew
          have ex2 := X_0.out.cell 2
          have ew0 := Y_0.out.cell 0
          have ew1 := Y_0.out.cell 1
          have ew2 := Y_0.out.cell 2
          have em0 := hm0_i.out.cell 0
          have em1 := hm0_i.out.cell 1
          have em2 := hm0_i.out.cell 2
          have en1 := hm1_i.out.cell 1
          simp at ex2 ew0 ew1 ew2 em0 em1 em2 en1
          go_wp2_with fail
          clear en1
          go_region_law (first | (refine step_append_el rfl _ _ 23 rfl W6.heap.size i0 (.agg #[.bool false, .slice none 0 0, .slice none 0 0]) 56 Try.underlying23 hi hz0 hz1 hz2 rfl _ u L rfl HO.out ⟨g, .slice A2 l.length c2, l.length, l.map (.int .i64), .slice B2 dd.length d2, dd.length, dd.map (.int .i64)⟩ rfl HE.out HFR.out rfl rfl (by unfold maxLen; omega) (by omega) hb3 _ ?_; intro V' w10 s1 hg; obtain ⟨A5, c5, rfl⟩ := s1.slice; have X_5 := Lib.hid (X_4.out.grown hg (box_main X_3.out HO.out)); have HO3 := Lib.hid s1; have HB3 := Lib.hid (below_appB HB.out HO.out hg h06); have S_5 := Lib.hid (S_3.out.grown HO.out hg (Nat.le_refl _) S_3.out.2); have ez0 := X_5.out.cell 0; have ez1 := X_5.out.cell 1; have ez2 := X_5.out.cell 2; simp at ez0 ez1 ez2; have fz2 := X_5.out.free 2; clear s1 hg) | (go_simp; go_at_call 70; (with_reducible refine (spec_l05Inner A8 K c8 (mrow K rs i) A9 K c9 (mrow K tr j) _ RA_2.out RT_2.out HPO.out).mono ?_); rintro e w9 ⟨g, l, v, dd, q, rfl, hq, q1, q2, hap, hc2⟩; obtain ⟨A2, c2, rfl⟩ := own_slice q1.2; obtain ⟨B2, d2, rfl⟩ := own_slice q2.2; obtain ⟨s1, s2, s3⟩ := new_elB (g := g) O_2.out S_2.out.2 hc2 q1 q2 hap; have HH := Lib.hid (has_append (g := g) (r := l) (d := dd) (v := .slice A2 l.length c2) (u := .slice B2 dd.length d2) hh.out (by rw [hq]; exact HZI.out)); have HO := Lib.hid s1; have HE := Lib.hid s2; have HFR := Lib.hid s3; have HB := Lib.hid (B_2.out.trans (hc2.mono B_2.out.size)); have S_3 := Lib.hid (S_2.out.below hc2 S_2.out.2); have hb3 := S_3.out.2; have X_3 := Lib.hid (X_2.out.below hc2 X_2.out.lt); have X_4 := Lib.hid (X_3.out.alloc (.cells #[.bool g, .slice A2 l.length c2, .slice B2 dd.length d2] 31)); have eu3 := X_3.out.cell 2; simp at eu3; have ev2 : (w9.alloc (.cells #[.bool g, .slice A2 l.length c2, .slice B2 dd.length d2] 31)).cell? ⟨w.heap.size + 1 + 1 + 1, 2, none⟩ = some (.slice A1 u c1) := X_4.out.cell 2; clear s1 s2 s3 q1 q2 hap hc2 hq) | (go_simp; go_at_call 71; first | ((with_reducible refine (spec_l06Row P K i A n c _ hir hn hc HV.out.some_ (by omega) hK24).mono ?_); rintro e w7 ⟨A8, c8, rfl, hc8, hat8, hb8⟩; have RA_1 := Lib.hid ((HV.out.row hat8 hir hK24).below (BD.out.trans (hb8.mono BD.out.size))); have X_1 := Lib.hid (X_0.out.below hb8 X_0.out.lt); have Y_1 := Lib.hid (Y_0.out.below hb8 Y_0.out.lt); have T_1 := Lib.hid (T_0.out.below hb8); have O_1 := Lib.hid (OD.out.below hb8); have B_1 := Lib.hid (BD.out.trans (hb8.mono BD.out.size)); have S_1 := Lib.hid (S_0.out.below hb8 hW6r); have et2 := X_1.out.cell 2; have ey0 := Y_1.out.cell 0; have ey1 := Y_1.out.cell 1; have ey2 := Y_1.out.cell 2; simp at et2 ey0 ey1 ey2; clear hat8 hb8) | ((with_reducible refine (spec_l06Row Q K j AT NT cT _ hjr hnT hcT HI6.out.some_ (by omega) hK24).mono ?_); rintro e w8 ⟨A9, c9, rfl, hc9, hat9, hb9⟩; have RT_2 := Lib.hid (((T_1.out.in_ HHT.out (by omega) HFT.out).row hat9 hjr hK24).below hb9); have RA_2 := Lib.hid (RA_1.out.below hb9); have X_2 := Lib.hid (X_1.out.below hb9 X_1.out.lt); have O_2 := Lib.hid (O_1.out.below hb9); have B_2 := Lib.hid (B_1.out.trans (hb9.mono B_1.out.size)); have S_2 := Lib.hid (S_1.out.below hb9 S_1.out.2); have eu2 := X_2.out.cell 2; simp at eu2; clear hat9 hb9)))
          all_goals
            have X_7 := Lib.hid (X_5.out.setAt2 (.slice A5 (u + 1) c5))
            have HO5 := Lib.hid (HO3.out.box_set X_5.out (i := 2) (.slice A5 (u + 1) c5))
            have HB5 := Lib.hid (HB3.out.setCell (p := ⟨w.heap.size + 1 + 1 + 1, 2, none⟩) (by dsimp only; omega) (.slice A5 (u + 1) c5))
            have S_7 := Lib.hid (S_5.out.setCell (p := ⟨w.heap.size + 1 + 1 + 1, 2, none⟩) hXl (.slice A5 (u + 1) c5))
            go_wp2_with fail
            go_roundw
            case rel => exact ⟨j + 1, u + 1, _, A5, c5, by omega, by go_num, hux, HO5, HH, X_7, S_7, HB5⟩
            case measure => simp [intOf]; omega
        · obtain rfl : j = Q := by omega
          have hu2 : Hid (u = (i + 1) * j) := by have := hu.out; rw [Nat.add_mul, Nat.one_mul]; exact this
          have ehm10 := hm1_i.out.cell 0
          have ehm11 := hm1_i.out.cell 1
          have ehm12 := hm1_i.out.cell 2
          simp at ehm10 ehm11 ehm12
          go_wp2_with fail
          go_roundw
          case rel => exact ⟨i + 1, u, L, A1, c1, by omega, by go_num, hu2, ho, hh, hX, hS, hb⟩
          case measure => simp [intOf]; omega
    · obtain rfl : i = P := by omega
      obtain rfl : u0 = N := by rw [hu0.out, HN.out]
      have hm0_o := Lib.hid (hm0_0.out.below hb.out hm0_0.out.lt)
      have HH : Hid (Has L zs) := by have := hh.out; rwa [List.take_of_length_le (by rw [HZL.out]; omega)] at this
      have ht_3 := Lib.hid (ht_0.out.below hb.out ht_0.out.lt)
      have BW_3 := Lib.hid (BW_0.out.trans (hb.out.mono BW_0.out.size))
      have ehm00 := hm0_o.out.cell 0
      have ehm01 := hm0_o.out.cell 1
      have ehm02 := hm0_o.out.cell 2
      simp at ehm00 ehm01 ehm02
      have eht0 := ht_3.out.cell 0
      have eht1 := ht_3.out.cell 1
      have eht2 := ht_3.out.cell 2
      have fht0 := ht_3.out.free 0
      have fht1 := ht_3.out.free 1
      have fht2 := ht_3.out.free 2
      simp at eht0 eht1 eht2
      have ex0 := hX.out.cell 0
      have ex1 := hX.out.cell 1
      have ex2 := hX.out.cell 2
      simp at ex0 ex1 ex2
      go_wp2_with fail
      refine bodyPost_ret (v := .agg #[.int .i64 i, .int .i64 Q, .slice A1 u0 c1]) (by simp [results, Try.results36, eht0, eht1, eht2, go_sem]) rfl ?_
      exact matEnd_store ht_3.out (by omega) BW_3.out ⟨rfl, rfl, HZ.out⟩ HGD.out HZL.out ho.out (Nat.le_trans hsz0 h06) HH.out
end Go.Proofs.Ythjbfdifeffilaa
