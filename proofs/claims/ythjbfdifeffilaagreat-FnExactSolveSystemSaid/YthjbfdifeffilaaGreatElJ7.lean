/- Contracts of the elimination, by the program: a system solved (solveFor), Inverse, SolveSystem. -/
import Derived.Test.YthjbfdifeffilaaGreatElJ6
import Derived.Test.YthjbfdifeffilaaGreatED
import Derived.Test.YthjbfdifeffilaaGreatMatI3
import Derived.Test.YthjbfdifeffilaaGreatElimF
import Derived.Deep.DeepCutAuto
namespace Go.Proofs.YthjbfdifeffilaaGreat
set_option maxRecDepth 100000
open Go.RowKit Go.Deep

theorem OwnV.spliceM {w w' : World} {base G N c m o : Nat} {L M : List El} {cur : Array Value} (h : OwnV w base (.slice (some ⟨G, 0, none⟩) N c) N L) (hm : M.length = m) (he : ∀ y ∈ M, y.own w base) (hp : M.Pairwise Far) (hf : ∀ x ∈ L, ∀ y ∈ M, Far x y) (ho : o + m ≤ N)
    (hg : w.heap[G]? = some (.cells cur 35 (0, 0))) (hw : w' = w.setRow G (cur.toList.take (o * 3) ++ flat M ++ cur.toList.drop (o * 3 + (flat M).length)).toArray) :
    OwnV w' base (.slice (some ⟨G, 0, none⟩) N c) N (L.take o ++ M ++ L.drop (o + m)) := by
  subst hw
  have hl := h.1
  have hfl : (flat M).length = m * 3 := by rw [flat_length, hm]
  have key : ∀ x : El, x.own w base → x.own (w.setRow G (cur.toList.take (o * 3) ++ flat M ++ cur.toList.drop (o * 3 + (flat M).length)).toArray) base := fun x hx => hx.dep fun k hk => setRow_other w G k _ fun e => by
    subst e
    exact el_other hx h.2.1 (by decide) k hk rfl
  refine ⟨by simp only [List.length_append, List.length_take, List.length_drop]; omega, ?_, fun x hx => ?_, ?_⟩
  · obtain ⟨hlen, hor⟩ := h.2.1
    refine ⟨by rw [flat_length]; simp only [List.length_append, List.length_take, List.length_drop]; omega, ?_⟩
    rcases hor with ⟨hv, _⟩ | ⟨g, cap, cur', hv, h1, h2, h3, h4, h5, h6⟩
    · cases hv
    · cases hv
      rw [hg] at h2
      injection h2 with h2
      injection h2 with h2
      subst h2
      have hcl : cur.toList.length = c * 3 := by simpa using h5
      refine .inr ⟨G, c, _, rfl, h1, setRow_heap w G _ _ _ _ hg, h3, h4, ?_, ?_⟩
      · rw [List.size_toArray, splice_len (by rw [hcl, hfl]; omega), hcl]
      · rw [List.toList_toArray, take_splice (by rw [hfl]; omega) (by rw [hcl]; omega), h6, flat_append, flat_append, flat_take, flat_drop, hfl, Nat.add_mul]
  · rcases List.mem_append.1 hx with hx | hx
    · rcases List.mem_append.1 hx with hx | hx
      · exact key x (h.2.2.1 x (List.mem_of_mem_take hx))
      · exact key x (he x hx)
    · exact key x (h.2.2.1 x (List.mem_of_mem_drop hx))
  · exact pairwise_splice (fun _ _ k => k.symm) h.2.2.2 hp hf _ _ (by omega)
section
variable {P : Program} {w : World} {ops : Array Oper} {o : Oper} {a : Act}
theorem step_copy_own {K : Act → World → Prop} {Q : Exit → Act → World → Prop} {E : Prop} (hgd : o.guard = none) (d s : Operand) (dT sT : TypeId)
    (ho : o.op = .call { callee := .builtin .copy, args := #[d, s], argTypes := #[dT, sT] }) (hu : P.underlying dT = some (.slice 35)) (hsz : (P.info? 35).map (·.size) = some 3)
    (G off o3 N c m dl dc sc : Nat) (ad : Addr) (hd : a.eval d = .slice (some ⟨G, o3, none⟩) dl dc) (h3 : o3 = off * 3) (hs : a.eval s = .slice (some ad) m sc) (hmd : m ≤ dl)
    (base : Nat) (L M : List El) (h : OwnV w base (.slice (some ⟨G, 0, none⟩) N c) N L) (hm : M.length = m) (hc : ∀ k v, (flat M)[k]? = some v → w.cell? (ad.add k) = some v) (he : ∀ y ∈ M, y.own w base) (hp : M.Pairwise Far) (hf : ∀ x ∈ L, ∀ y ∈ M, Far x y) (hle : off + m ≤ N)
    (k : ∀ w', OwnV w' base (.slice (some ⟨G, 0, none⟩) N c) N (L.take off ++ M ++ L.drop (off + m)) → Wrote (fun k => k = G) w w' → K (a.put o.dst (goInt m)) w') :
    if Region.wanted o (yielded ops a.tmps) = true then Oper.wp P o a w K Q else E := by
  have hw : Region.wanted o (yielded ops a.tmps) = true := by simp [Region.wanted, hgd]
  rw [if_pos hw]
  subst h3
  have hfl : (flat M).length = m * 3 := by rw [flat_length, hm]
  have hmin : Nat.min m dl = m := Nat.min_eq_left hmd
  obtain ⟨hlen, hor⟩ := h.2.1
  rcases hor with ⟨hv, _⟩ | ⟨g, cap, cur, hv, h1, h2, h3, h4, h5, h6⟩
  · cases hv
  cases hv
  have hrun := run_copy3 (P := P) w dT sT o.type 35 G (off * 3) dl dc ad m sc cur 35 (flat M) hu hsz h2 (by rw [hfl, hmin]) hc (by rw [h5, hfl]; omega) (els_one_cell he)
  rw [hmin] at hrun
  have hsp := h.spliceM (o := off) (m := m) (M := M) hm he hp hf hle h2 rfl
  have hWr : Wrote (fun k => k = G) w (w.setRow G (cur.toList.take (off * 3) ++ flat M ++ cur.toList.drop (off * 3 + (flat M).length)).toArray) := ⟨rfl, rfl, rfl, by simp [World.setRow], fun j _ hj => setRow_other w G j _ hj⟩
  unfold Oper.wp execOp
  simp only [ho, resolve, invoke, builtin, Sem.run_bind, Sem.run_pure, Result.andThen_ok, List.map_toArray, List.map_cons, List.map_nil, hd, hs, hrun]
  exact k _ hsp hWr
end
theorem rt_window {α : Type} {K o k i : Nat} {L : List α} (h : i * K + o + k ≤ L.length) : ((L.drop (i * K + o)).take k).length = k ∧ ∀ j, j < ((L.drop (i * K + o)).take k).length → ((L.drop (i * K + o)).take k)[j]? = L[i * K + o + j]? := by
  have hl : ((L.drop (i * K + o)).take k).length = k := by rw [List.length_take, List.length_drop]; omega
  refine ⟨hl, fun j hj => ?_⟩
  rw [hl] at hj
  rw [List.getElem?_take_of_lt hj, List.getElem?_drop]
/-- What is known of the last columns of the rows of a list of the call's own, row by row. -/
theorem rt_far {k K o i : Nat} {L : List El} (h : L.Pairwise Far) (hk : o + k ≤ K) : (∀ x ∈ rt k K o i L, ∀ y ∈ (L.drop (i * K + o)).take k, Far x y) ∧ ((L.drop (i * K + o)).take k).Pairwise Far := by
  have h1 := h.sublist (rt_sublist (k := k) (o := o) (i := i + 1) (L := L) hk)
  rw [rt_succ, List.pairwise_append] at h1
  exact ⟨h1.2.2, h1.2.1⟩
theorem far_zero (y : El) : Far El.zero y := fun k hk => absurd hk (El.foot_zero k)
def SolveForIs (p k : Int) (rs : List RD) (q j : Int) (ss : List RD) (a b : Int) (r : List RD) (ok : Bool) : Prop :=
  (((MOk p k rs ∧ MOk q j ss ∧ p = k ∧ p ≤ 12) ∧ SysOk p.toNat j.toNat rs ss) ∧ a = q ∧ b = j ∧ r = sysR p.toNat j.toNat rs ss ∧ ok = true) ∨
    (¬ ((MOk p k rs ∧ MOk q j ss ∧ p = k ∧ p ≤ 12) ∧ SysOk p.toNat j.toNat rs ss) ∧ a = 0 ∧ b = 0 ∧ r = [] ∧ ok = false)
theorem solveFor_no {p k : Int} {rs : List RD} {q j : Int} {ss : List RD} (h : ¬ (MOk p k rs ∧ MOk q j ss ∧ p = k ∧ p ≤ 12)) : SolveForIs p k rs q j ss 0 0 [] false := .inr ⟨fun h1 => h h1.1, rfl, rfl, rfl, rfl⟩
theorem elim_sys {P M Q : Nat} {rs ss : List RD} (hQ : Q = P + M) (hm : MOk P Q (besTo P M rs ss P)) : (Elim P Q (besTo P M rs ss P) ↔ AllOk (sysE P M rs ss).rs) ∧ fin P Q (besTo P M rs ss P) = sysE P M rs ss := by
  subst hQ
  refine ⟨⟨fun h => (Elim.nat.1 h).2, fun h => Elim.nat.2 ⟨hm, h⟩⟩, fin_nat' _ _ _⟩
set_option maxHeartbeats 12800000 in
theorem impl_solveFor (p k : Int) (A : Option Addr) (n c : Nat) (rs : List RD) (q j : Int) (B : Option Addr) (m d : Nat) (ss : List RD) (w : World) (h1 : InV w A n rs) (hp : -9223372036854775808 ≤ p ∧ p ≤ 9223372036854775807) (hk : -9223372036854775808 ≤ k ∧ k ≤ 9223372036854775807) (hcn : n ≤ c) (h2 : InV w B m ss) (hq : -9223372036854775808 ≤ q ∧ q ≤ 9223372036854775807) (hj : -9223372036854775808 ≤ j ∧ j ≤ 9223372036854775807) (hcm : m ≤ d)
    (hqp : MOk p k rs → MOk q j ss → q = p) (hj12 : MOk p k rs → MOk q j ss → p ≤ 12 → j ≤ 12 ∧ (0 < p → 0 < j)) :
    Calls Tryz.prog 97 #[.agg #[.int .i64 p, .int .i64 k, .slice A n c], .agg #[.int .i64 q, .int .i64 j, .slice B m d]] w fun e w' => MatOkEnd (SolveForIs p k rs q j ss) w w' e := by
  have hsz : (Tryz.prog.info? 35).map (·.size) = some 3 := by kernel_rfl
  have HSZ := Lib.hid hsz
  obtain ⟨W0, hW0⟩ : ∃ W, W = (((w.alloc (.cells #[.int .i64 p, .int .i64 k, .slice A n c] 25)).alloc (.cells #[.int .i64 q, .int .i64 j, .slice B m d] 25)).alloc (.cells #[.int .i64 0, .int .i64 0, .slice none 0 0] 25)) := ⟨_, rfl⟩
  have hm0_0 : Hid (Box W0 (w.heap.size) 25 #[.int .i64 p, .int .i64 k, .slice A n c]) := by rw [hW0]; exact (((Box.at' (by simp)).alloc _).alloc _)
  have hm1_0 : Hid (Box W0 (w.heap.size + 1) 25 #[.int .i64 q, .int .i64 j, .slice B m d]) := by rw [hW0]; exact ((Box.at' (by simp)).alloc _)
  have ht_0 : Hid (Box W0 (w.heap.size + 1 + 1) 25 #[.int .i64 0, .int .i64 0, .slice none 0 0]) := by rw [hW0]; exact (Box.at' (by simp))
  have BW_0 : Hid (Below w.heap.size w W0) := by rw [hW0]; exact ((((Below.refl w.heap.size w).alloc (by simp) _).alloc (by simp) _).alloc (by simp; omega) _)
  have hsz0 : w.heap.size + 1 + 1 + 1 ≤ W0.heap.size := by rw [hW0]; simp
  have H1 := Lib.hid (h1.below BW_0.out)
  have H2 := Lib.hid (h2.below BW_0.out)
  have HQP := Lib.hid hqp
  have HJ := Lib.hid hj12
  clear h1 h2 hqp hj12 hsz
  go_enter Tryz.func97, Tryz.ntmps97
  go_wp2_with fail
  rw [← hW0]
  clear hW0
  refine (impl_matrixOk0 p k A n c rs _ H1.out hp hk hcn).mono ?_
  rintro e w1 ⟨b, rfl, hb1, hb⟩
  have hm0_1 := Lib.hid (hm0_0.out.below hb hm0_0.out.lt)
  have hm1_1 := Lib.hid (hm1_0.out.below hb hm1_0.out.lt)
  have ht_1 := Lib.hid (ht_0.out.below hb ht_0.out.lt)
  have BW_1 := Lib.hid (BW_0.out.trans (hb.mono BW_0.out.size))
  replace H1 := Lib.hid (H1.out.below hb)
  replace H2 := Lib.hid (H2.out.below hb)
  clear hb
  have ehm00 := hm0_1.out.cell 0
  have ehm01 := hm0_1.out.cell 1
  have ehm02 := hm0_1.out.cell 2
  have ehm10 := hm1_1.out.cell 0
  have ehm11 := hm1_1.out.cell 1
  have ehm12 := hm1_1.out.cell 2
  have eht0 := ht_1.out.cell 0
  have eht1 := ht_1.out.cell 1
  have eht2 := ht_1.out.cell 2
  have fht0 := ht_1.out.free 0
  have fht1 := ht_1.out.free 1
  have fht2 := ht_1.out.free 2
  simp at ehm00 ehm01 ehm02 ehm10 ehm11 ehm12 eht0 eht1 eht2
  cases b
  case false =>
    have HZ : Hid (SolveForIs p k rs q j ss 0 0 [] false) := solveFor_no fun h => (by have h1 := hb1.2 h.1; cases h1)
    clear hb1
    go_wp2_with fail
    refine bodyPost_ret (v := .tuple #[.agg #[.int .i64 0, .int .i64 0, .slice none 0 0], .bool false]) (by simp [results, Tryz.results97, eht0, eht1, eht2, go_sem]) rfl ?_
    exact matOkEnd_zero HZ.out BW_1.out (by omega) _ _ _
  have M1 := Lib.hid (hb1.1 rfl)
  clear hb1
  go_wp2_with fail
  clear ehm00 ehm01 ehm02 ehm10 ehm11 ehm12 eht0 fht0 eht1 fht1 eht2 fht2
  refine (impl_matrixOk0 q j B m d ss _ H2.out hq hj hcm).mono ?_
  rintro e w2 ⟨b, rfl, hb2, hb⟩
  have hm0_2 := Lib.hid (hm0_1.out.below hb hm0_1.out.lt)
  have hm1_2 := Lib.hid (hm1_1.out.below hb hm1_1.out.lt)
  have ht_2 := Lib.hid (ht_1.out.below hb ht_1.out.lt)
  have BW_2 := Lib.hid (BW_1.out.trans (hb.mono BW_1.out.size))
  replace H1 := Lib.hid (H1.out.below hb)
  replace H2 := Lib.hid (H2.out.below hb)
  clear hb
  have ehm00 := hm0_2.out.cell 0
  have ehm01 := hm0_2.out.cell 1
  have ehm02 := hm0_2.out.cell 2
  have ehm10 := hm1_2.out.cell 0
  have ehm11 := hm1_2.out.cell 1
  have ehm12 := hm1_2.out.cell 2
  have eht0 := ht_2.out.cell 0
  have eht1 := ht_2.out.cell 1
  have eht2 := ht_2.out.cell 2
  have fht0 := ht_2.out.free 0
  have fht1 := ht_2.out.free 1
  have fht2 := ht_2.out.free 2
  simp at ehm00 ehm01 ehm02 ehm10 ehm11 ehm12 eht0 eht1 eht2
  cases b
  case false =>
    have HZ : Hid (SolveForIs p k rs q j ss 0 0 [] false) := solveFor_no fun h => (by have h1 := hb2.2 h.2.1; cases h1)
    clear hb2
    go_wp2_with fail
    refine bodyPost_ret (v := .tuple #[.agg #[.int .i64 0, .int .i64 0, .slice none 0 0], .bool false]) (by simp [results, Tryz.results97, eht0, eht1, eht2, go_sem]) rfl ?_
    exact matOkEnd_zero HZ.out BW_2.out (by omega) _ _ _
  have M2 := Lib.hid (hb2.1 rfl)
  clear hb2
  by_cases hpk : p = k
  case neg =>
    have hf : (p != k) = true := by simp; exact hpk
    have HZ : Hid (SolveForIs p k rs q j ss 0 0 [] false) := solveFor_no fun h => hpk h.2.2.1
    clear hpk
    go_wp2_with fail
    refine bodyPost_ret (v := .tuple #[.agg #[.int .i64 0, .int .i64 0, .slice none 0 0], .bool false]) (by simp [results, Tryz.results97, eht0, eht1, eht2, go_sem]) rfl ?_
    exact matOkEnd_zero HZ.out BW_2.out (by omega) _ _ _
  subst hpk
  have hf : (p != p) = false := by simp
  by_cases hp12 : 12 < p
  · have HZ : Hid (SolveForIs p p rs q j ss 0 0 [] false) := solveFor_no fun h => (by have := h.2.2.2; omega)
    go_wp2_with fail
    refine bodyPost_ret (v := .tuple #[.agg #[.int .i64 0, .int .i64 0, .slice none 0 0], .bool false]) (by simp [results, Tryz.results97, eht0, eht1, eht2, go_sem]) rfl ?_
    exact matOkEnd_zero HZ.out BW_2.out (by omega) _ _ _
  obtain rfl : q = p := HQP.out M1.out M2.out
  have hpb := M1.out.1
  have hjb := M2.out.2.1
  obtain ⟨hj12, hj0⟩ := HJ.out M1.out M2.out (by omega)
  obtain ⟨P, rfl⟩ : ∃ P : Nat, q = P := ⟨q.toNat, by omega⟩
  obtain ⟨M, rfl⟩ : ∃ P : Nat, j = P := ⟨j.toNat, by omega⟩
  obtain ⟨Q, hQ⟩ : ∃ Q, Q = P + M := ⟨_, rfl⟩
  obtain ⟨N, hN⟩ : ∃ N, N = P * Q := ⟨_, rfl⟩
  have hP12 : P ≤ 12 := by omega
  have hM12 : M ≤ 12 := by omega
  have hP24 : P ≤ 24 := by omega
  have hM24 : M ≤ 24 := by omega
  have hQ24 : Q ≤ 24 := by omega
  have hN5 : N ≤ 576 := by rw [hN]; exact mul_le_576 hP24 hQ24
  have hN20 : N ≤ 1048576 := by omega
  have HQQ := Lib.hid hQ
  have HNN := Lib.hid hN
  have hnP : n = P * P := by have h1 := M1.out.plen; rw [H1.out.1] at h1; exact h1
  have hmP : m = P * M := by have h1 := M2.out.plen; rw [H2.out.1] at h1; exact h1
  have HM0 : Hid (0 < P → 0 < M) := fun h => by have := hj0 (by omega); omega
  have MZ : Hid (MOk P Q (besTo P M rs ss P)) := by rw [hQ]; exact besTo_mok M1.out M2.out (by omega)
  have HE := Lib.hid (elim_sys HQQ.out MZ.out)
  have HNP := Lib.hid hnP
  have HMP := Lib.hid hmP
  have HBZ : Hid (besTo P M rs ss P = besTo P M rs ss P) := rfl
  clear hj0 hQ hN hnP hmP
  go_wp2_with fail
  clear ehm00 ehm01 ehm02 ehm10 ehm11 ehm12 eht0 fht0 eht1 fht1 eht2 fht2
  refine (impl_beside P P M Q N A n c rs B m d ss _ H1.out H2.out HNP.out HMP.out hcn hcm hP24 (fun h => h) HM0.out HQQ.out hQ24 HNN.out).mono ?_
  rintro e w3 ⟨G, rfl, hi, hb⟩
  have HI := Lib.hid hi
  have hm0_3 := Lib.hid (hm0_2.out.below hb hm0_2.out.lt)
  have hm1_3 := Lib.hid (hm1_2.out.below hb hm1_2.out.lt)
  have ht_3 := Lib.hid (ht_2.out.below hb ht_2.out.lt)
  have BW_3 := Lib.hid (BW_2.out.trans (hb.mono BW_2.out.size))
  clear hb
  clear hi
  go_wp2_with fail
  refine (impl_reduce0 P Q (some ⟨G, 0, none⟩) N N (besTo P M rs ss P) _ HI.out (by omega) (by omega) (Nat.le_refl _)).mono ?_
  rintro e w4 ⟨q4, j4, rr, V, l, v, b, rfl, hqr, ⟨hl1, hl2, hl3, L2, ho, hh, hv, hof⟩, hb⟩
  obtain ⟨A1, c1, rfl⟩ := ho.slice
  obtain ⟨B1, d1, rfl⟩ := own_slice hv
  have hsz3 := BW_3.out.size
  have HQR := Lib.hid hqr
  obtain ⟨N4, hN4⟩ : ∃ N4, N4 = rr.length := ⟨_, rfl⟩
  obtain ⟨n4, hn4⟩ : ∃ N4, N4 = l.length := ⟨_, rfl⟩
  rw [← hN4] at ho ⊢
  rw [← hn4] at hv ⊢
  have HN4 := Lib.hid hN4
  have Hn4 := Lib.hid hn4
  obtain ⟨W5, hW5⟩ : ∃ W, W = w4.alloc (.cells #[.int .i64 q4, .int .i64 j4, .slice A1 N4 c1] 25) := ⟨_, rfl⟩
  have hbx : Below w4.heap.size w4 W5 := by rw [hW5]; exact (Below.refl _ _).alloc (Nat.le_refl _) _
  have X_5 : Hid (Box W5 w4.heap.size 25 #[.int .i64 q4, .int .i64 j4, .slice A1 N4 c1]) := by rw [hW5]; exact Box.new _ _ _
  have hn420 : n4 ≤ 1048576 := by omega
  have OL := Lib.hid ((ho.lower hsz3).below hbx)
  have HH2 := Lib.hid hh
  have HV5 : Hid (Reads W5 B1 (l.map (.int .i64))) := Reads.of_own (own_below hv hbx)
  have hb : Below w3.heap.size w3 W5 := hb.trans (hbx.mono hb.size)
  have hm0_5 := Lib.hid (hm0_3.out.below hb hm0_3.out.lt)
  have hm1_5 := Lib.hid (hm1_3.out.below hb hm1_3.out.lt)
  have ht_5 := Lib.hid (ht_3.out.below hb ht_3.out.lt)
  have BW_5 := Lib.hid (BW_3.out.trans (hb.mono BW_3.out.size))
  clear hb
  have hem := hm0_5
  rw [hW5] at hem
  have em0 := hem.out.cell 0
  have em1 := hem.out.cell 1
  have em2 := hem.out.cell 2
  have eth := ht_5
  rw [hW5] at eth
  have eht0 := eth.out.cell 0
  have eht1 := eth.out.cell 1
  have eht2 := eth.out.cell 2
  have fht0 := eth.out.free 0
  have fht1 := eth.out.free 1
  have fht2 := eth.out.free 2
  simp at em0 em1 em2 eht0 eht1 eht2
  clear hqr hl1 hl2 hl3 ho hh hv hof hbx hN4 hn4 hem eth
  cases b
  case false =>
    have HZ : Hid (SolveForIs P P rs P M ss 0 0 [] false) := .inr ⟨fun h => (by
      rcases HQR.out with ⟨_, _, _, _, _, h1⟩ | ⟨h1, _⟩
      · cases h1
      · exact h1 (HE.out.1.2 h.2.1)), rfl, rfl, rfl, rfl⟩
    go_wp2_with fail
    rw [← hW5]
    refine bodyPost_ret (v := .tuple #[.agg #[.int .i64 0, .int .i64 0, .slice none 0 0], .bool false]) (by simp [results, Tryz.results97, hW5, eht0, eht1, eht2, go_sem]) rfl ?_
    exact matOkEnd_zero HZ.out BW_5.out (by omega) _ _ _
  obtain ⟨HEL, rfl, rfl, hrr, hll⟩ : Elim P Q (besTo P M rs ss P) ∧ q4 = P ∧ j4 = Q ∧ rr = (sysE P M rs ss).rs ∧ l = pvs (sysE P M rs ss).pv := by
    rcases HQR.out with ⟨h1, h2, h3, h4, h5, _⟩ | ⟨_, _, _, _, _, h6⟩
    · rw [HE.out.2] at h4 h5; exact ⟨h1, h2, h3, h4, h5⟩
    · cases h6
  obtain ⟨pv, hpv⟩ : ∃ pv, pv = (sysE P M rs ss).pv := ⟨_, rfl⟩
  have HPV := Lib.hid hpv
  rw [← hpv] at hll
  have HRR := Lib.hid hrr
  have HAL : Hid (AllOk (sysE P M rs ss).rs) := HE.out.1.1 HEL
  have hpl : pv.length = n4 := by rw [Hn4.out, hll, pvs_length]
  have HV6 : Hid (Reads W5 B1 (ivals pv)) := by have h1 := HV5.out; rw [hll, pvs_vals] at h1; exact h1
  have HPLN := Lib.hid hpl
  clear hpv hll hrr hpl HEL HQR HV5
  go_wp2_with fail
  rw [← hW5]
  clear em0 em1 em2 eht0 eht1 eht2 fht0 fht1 fht2
  refine (impl_areFirstColumns B1 n4 d1 pv P _ HPLN.out hn420 (by omega) HV6.out).mono ?_
  rintro e w5' ⟨b, rfl, hfc, rfl⟩
  clear hW5
  have ehm00 := hm0_5.out.cell 0
  have ehm01 := hm0_5.out.cell 1
  have ehm02 := hm0_5.out.cell 2
  have ehm10 := hm1_5.out.cell 0
  have ehm11 := hm1_5.out.cell 1
  have ehm12 := hm1_5.out.cell 2
  have eht0 := ht_5.out.cell 0
  have eht1 := ht_5.out.cell 1
  have eht2 := ht_5.out.cell 2
  have fht0 := ht_5.out.free 0
  have fht1 := ht_5.out.free 1
  have fht2 := ht_5.out.free 2
  simp at ehm00 ehm01 ehm02 ehm10 ehm11 ehm12 eht0 eht1 eht2
  cases b
  case false =>
    have HZ : Hid (SolveForIs P P rs P M ss 0 0 [] false) := .inr ⟨fun h => (by
      have h1 := hfc.2 (by rw [HPV.out]; exact h.2.2)
      cases h1), rfl, rfl, rfl, rfl⟩
    clear hfc
    go_wp2_with fail
    refine bodyPost_ret (v := .tuple #[.agg #[.int .i64 0, .int .i64 0, .slice none 0 0], .bool false]) (by simp [results, Tryz.results97, eht0, eht1, eht2, go_sem]) rfl ?_
    exact matOkEnd_zero HZ.out BW_5.out (by omega) _ _ _
  have HSY : Hid (SysOk P M rs ss) := ⟨HAL.out, by rw [← HPV.out]; exact hfc.1 rfl⟩
  clear hfc
  obtain ⟨zs, hzs⟩ : ∃ zs, zs = sysR P M rs ss := ⟨_, rfl⟩
  have HZS := Lib.hid hzs
  have hEl : (sysE P M rs ss).rs.length = P * (P + M) := by
    have h1 := (est_good (P := P) (K := Q) MZ.out Q (Nat.le_refl _)).2
    rw [HQQ.out] at h1
    exact h1
  obtain ⟨N3, hN3⟩ : ∃ N3, N3 = P * M := ⟨_, rfl⟩
  have HN3 := Lib.hid hN3
  have hN35 : N3 ≤ 576 := by rw [hN3]; exact mul_le_576 hP24 hM24
  have HZL : Hid (zs.length = N3) := by unfold Hid; rw [hzs, hN3]; exact sysR_length hEl
  have HN4P : Hid (N4 = P * Q) := by unfold Hid; rw [HN4.out, HRR.out, hEl, HQQ.out]
  have hN4le : N4 ≤ 576 := by rw [HN4P.out]; exact mul_le_576 hP24 hQ24
  have HGD : Hid (Goods zs) := ⟨by rw [HZL.out]; omega, fun x hx => .inl (sysR_ok HSY.out x (by rw [← hzs]; exact hx))⟩
  have HQF : Hid (SolveForIs P P rs P M ss P M zs true) := .inl ⟨⟨⟨M1.out, M2.out, rfl, by omega⟩, HSY.out⟩, rfl, rfl, by rw [HZS.out]; rfl, rfl⟩
  have hlt50 := hm0_5.out.lt
  have hlt51 := hm1_5.out.lt
  have hlt5t := ht_5.out.lt
  have hlt5x := X_5.out.lt
  clear hzs hN3 hEl
  go_wp2_with fail
  clear ehm00 ehm01 ehm02 ehm10 ehm11 ehm12 eht0 fht0 eht1 fht1 eht2 fht2
  refine (impl_newMatrix P M _ hP24 hM24).mono ?_
  rintro e w6 ⟨G3, rfl, ho, hb⟩
  rw [← HN3.out] at ho ⊢
  have hG1 : W5.heap.size ≤ G3 := (own_at0 ho.2.1).1
  have hG2 : G3 < w6.heap.size := (own_at0 ho.2.1).2
  obtain ⟨W7, hW7⟩ : ∃ W, W = w6.alloc (.cells #[.int .i64 P, .int .i64 M, .slice (some ⟨G3, 0, none⟩) N3 N3] 25) := ⟨_, rfl⟩
  have hbx : Below w6.heap.size w6 W7 := by rw [hW7]; exact (Below.refl _ _).alloc (Nat.le_refl _) _
  have X_7 : Hid (Box W7 w6.heap.size 25 #[.int .i64 P, .int .i64 M, .slice (some ⟨G3, 0, none⟩) N3 N3]) := by rw [hW7]; exact Box.new _ _ _
  have hb57 : Below W5.heap.size W5 W7 := hb.trans (hbx.mono hb.size)
  have OD7 : Hid (OwnV W7 w.heap.size (.slice (some ⟨G3, 0, none⟩) N3 N3) N3 (List.replicate N3 El.zero)) := (ho.below hbx).lower BW_5.out.size
  have OS7 := Lib.hid (OL.out.below hb57)
  have OSlt : Hid (∀ k, footV (.slice A1 N4 c1) L2 k → k < W5.heap.size) := fun k hk => (OL.out.lt k hk).2
  have hb := hb57
  have R_7 := Lib.hid (X_5.out.below hb57 X_5.out.lt)
  have hm0_7 := Lib.hid (hm0_5.out.below hb hm0_5.out.lt)
  have hm1_7 := Lib.hid (hm1_5.out.below hb hm1_5.out.lt)
  have ht_7 := Lib.hid (ht_5.out.below hb ht_5.out.lt)
  have BW_7 := Lib.hid (BW_5.out.trans (hb.mono BW_5.out.size))
  clear hb
  have hem := hm1_7
  rw [hW7] at hem
  have em0 := hem.out.cell 0
  have em1 := hem.out.cell 1
  have em2 := hem.out.cell 2
  simp at em0 em1 em2
  clear ho hbx hb57 hem
  go_wp2_with fail
  rw [← hW7]
  clear em0 em1 em2 hW7
  go_loopw [57] (fun y wr => ∃ (i u : Nat) (L3 : List El), i ≤ P ∧ y = .int .i64 i ∧ Hid (u = i * M) ∧ Hid (OwnV wr w.heap.size (.slice (some ⟨G3, 0, none⟩) N3 N3) N3 L3) ∧ Hid (L3 = rt M Q P i L2 ++ List.replicate (N3 - u) El.zero) ∧ Hid (Wrote (fun k => k = G3) W7 wr)) (fun y _ => P - (intOf y).toNat)
  case atStart => exact ⟨0, 0, _, Nat.zero_le _, rfl, by simp [Hid], OD7, by simp [Hid, rt_zero], Wrote.refl _ _⟩
  case round =>
    obtain ⟨i, u, L3, hle, rfl, hu, hO, hL3, hW⟩ := hrel
    have Mm : Hid (Box wr w.heap.size 25 #[.int .i64 P, .int .i64 P, .slice A n c]) := (hW.out.block _ hm0_7.out.lt (by omega)).trans hm0_7.out
    have Rr : Hid (Box wr w4.heap.size 25 #[.int .i64 P, .int .i64 Q, .slice A1 N4 c1]) := (hW.out.block _ R_7.out.lt (by omega)).trans R_7.out
    have Xx : Hid (Box wr w6.heap.size 25 #[.int .i64 P, .int .i64 M, .slice (some ⟨G3, 0, none⟩) N3 N3]) := (hW.out.block _ X_7.out.lt (by omega)).trans X_7.out
    have Os : Hid (OwnV wr w.heap.size (.slice A1 N4 c1) N4 L2) := OS7.out.dep fun k hk => hW.out.block k (OS7.out.lt k hk).2 (fun e => by have h1 := OSlt.out k hk; omega)
    by_cases hlt : i < P
    · have hi0 : (0 : Int) ≤ (i : Int) := by omega
      have hi1 : (i : Int) < (P : Int) := by omega
      have hi24 : i ≤ 24 := by omega
      have hM0 := HM0.out (by omega)
      have hQPM : Q = P + M := HQQ.out
      have hiQ : i * Q + Q ≤ N4 := by rw [HN4P.out]; exact row_le hlt
      have hiM : i * M + M ≤ N3 := by rw [HN3.out]; exact row_le hlt
      have hiu : u + M ≤ N3 := by rw [hu.out]; exact hiM
      obtain ⟨GR, hGR, _, _⟩ := own_at' Os.out.2.1 (by omega)
      obtain ⟨v, hv⟩ : ∃ v, v = i * Q := ⟨_, rfl⟩
      have HV := Lib.hid hv
      have HU := hu
      have hlen2 : L2.length = N4 := Os.out.1
      obtain ⟨Mw, hMw⟩ : ∃ Mw, Mw = (L2.drop (i * Q + P)).take M := ⟨_, rfl⟩
      obtain ⟨hml, hmat⟩ := rt_window (K := Q) (o := P) (k := M) (i := i) (L := L2) (by omega)
      rw [← hMw] at hml hmat
      rw [← hv] at hmat
      obtain ⟨hfr, hpw⟩ := rt_far (k := M) (K := Q) (o := P) (i := i) Os.out.2.2.2 (by omega)
      rw [← hMw] at hfr hpw
      have hme : ∀ y ∈ Mw, y ∈ L2 := fun y hy => by rw [hMw] at hy; exact List.mem_of_mem_drop (List.mem_of_mem_take hy)
      have hFar : ∀ x ∈ L3, ∀ y ∈ Mw, Far x y := fun x hx y hy => by
        rw [hL3.out] at hx
        rcases List.mem_append.1 hx with hx | hx
        · have h1 := hfr x hx y hy
          exact h1
        · rw [(List.mem_replicate.1 hx).2]; exact far_zero y
      have HML := Lib.hid hml
      have HMA := Lib.hid hmat
      have HPW := Lib.hid hpw
      have HME := Lib.hid hme
      have HFA := Lib.hid hFar
      have HMW := Lib.hid hMw
      have hrt : (rt M Q P i L2).length = u := by rw [rt_length (by omega) i (by rw [hlen2]; omega), hu.out]
      have HL4 : Hid (L3.take u ++ Mw ++ L3.drop (u + M) = rt M Q P (i + 1) L2 ++ List.replicate (N3 - (u + M)) El.zero) := by
        unfold Hid
        rw [hL3.out, take_pre hrt, drop_pre hrt, rt_succ, hMw, Nat.sub_sub]
      have HUN : Hid (u + M = (i + 1) * M) := by unfold Hid; rw [Nat.add_mul, Nat.one_mul, hu.out]
      subst hGR
      have hvP : v + Q ≤ N4 := by rw [hv]; exact hiQ
      have HSP : Hid (v * 3 + P * 3 = (v + P) * 3) := by unfold Hid; omega
      have hPQ1 : (0 : Int) ≤ (P : Int) := by omega
      have hPQ2 : (P : Int) ≤ (Q : Int) := by omega
      have hMQ : Q - P = M := by omega
      have hPltQ : P < Q := by omega
      have hMle : M ≤ M := Nat.le_refl _
      have ex0 := Xx.out.cell 0
      have ex1 := Xx.out.cell 1
      have ex2 := Xx.out.cell 2
      have er0 := Rr.out.cell 0
      have er1 := Rr.out.cell 1
      have er2 := Rr.out.cell 2
      have ep0 := Mm.out.cell 0
      have ep1 := Mm.out.cell 1
      have ep2 := Mm.out.cell 2
      simp at ex0 ex1 ex2 er0 er1 er2 ep0 ep1 ep2
      replace Xx := Lib.hid Xx.out.drew
      replace Rr := Lib.hid Rr.out.drew
      replace Mm := Lib.hid Mm.out.drew
      replace Os := Lib.hid Os.out.drew
      have Od := Lib.hid hO.out.drew
      have Ww : Hid (Wrote (fun k => k = G3) W7 wr.drew) := hW.out.trans (Wrote.of_below (Below.refl _ _).drew)
      have hN4c : N4 ≤ c1 := own_le Os.out.2.1
      have hN420 : N4 ≤ 1048576 := by omega
      have hN320 : N3 ≤ 1048576 := by omega
      clear hv hml hmat hfr hpw hme hFar hMw hrt hu hlen2 hQPM
      go_wp2_with fail
      go_region_law (first | (refine step_copy_own rfl (.tmp 62) (.tmp 68) 23 23 rfl Tryz.underlying23 HSZ.out G3 u (u * 3) N3 N3 M M _ _ ⟨GR, v * 3 + P * 3, none⟩ rfl rfl (by first | rfl | rw [hMQ]) hMle w.heap.size L3 Mw Od.out HML.out (fun k x hx => by have h1 := OwnV.source (j := v + P) Os.out HMA.out k x hx; rw [← HSP.out] at h1; exact h1) (fun y hy => Os.out.2.2.1 y (HME.out y hy)) HPW.out HFA.out hiu ?_; intro w9 ho9 hw9; have Od9 := Lib.hid ho9; have Ww9 := Lib.hid (Ww.out.trans hw9); clear ho9 hw9) | (go_simp; go_at_call 72; first | ((with_reducible refine (impl_rowAt P M i (some ⟨G3, 0, none⟩) N3 N3 _ hiM hN320 (Nat.le_refl _) (fun _ => ⟨G3, 0, rfl⟩) hi24 hM24).mono ?_); rintro e w7 ⟨A9, c9, rfl, hc9, hat9, hb9⟩; rw [← HU.out] at hat9; obtain rfl : A9 = some ⟨G3, u * 3, none⟩ := (by rcases hat9 with h0 | ⟨bb, oo, hA, hA'⟩; (exfalso; omega); (cases hA; rw [hA', Nat.zero_add])); replace Xx := Lib.hid (Xx.out.below hb9 Xx.out.lt); replace Mm := Lib.hid (Mm.out.below hb9 Mm.out.lt); replace Rr := Lib.hid (Rr.out.below hb9 Rr.out.lt); replace Os := Lib.hid (Os.out.below hb9); replace Od := Lib.hid (Od.out.below hb9); replace Ww := Lib.hid (Ww.out.trans (Wrote.of_below hb9)); have hx0 := Xx.out.cell 0; have hx1 := Xx.out.cell 1; have hx2 := Xx.out.cell 2; have hp0 := Mm.out.cell 0; have hp1 := Mm.out.cell 1; have hp2 := Mm.out.cell 2; have hn0 := Rr.out.cell 0; have hn1 := Rr.out.cell 1; have hn2 := Rr.out.cell 2; simp at hx0 hx1 hx2 hp0 hp1 hp2 hn0 hn1 hn2; clear hat9 hb9) | ((with_reducible refine (impl_rowAt P Q i (some ⟨GR, 0, none⟩) N4 c1 _ hiQ hN420 hN4c (fun _ => ⟨GR, 0, rfl⟩) hi24 hQ24).mono ?_); rintro e w8 ⟨A10, c10, rfl, hc10, hat10, hb10⟩; rw [← HV.out] at hat10; obtain rfl : A10 = some ⟨GR, v * 3, none⟩ := (by rcases hat10 with h0 | ⟨bb, oo, hA, hA'⟩; (exfalso; omega); (cases hA; rw [hA', Nat.zero_add])); have hc10i : (Q : Int) ≤ (c10 : Int) := (by omega); have hc10K : ¬ c10 = P := (by omega); replace Xx := Lib.hid (Xx.out.below hb10 Xx.out.lt); replace Mm := Lib.hid (Mm.out.below hb10 Mm.out.lt); replace Rr := Lib.hid (Rr.out.below hb10 Rr.out.lt); replace Os := Lib.hid (Os.out.below hb10); replace Od := Lib.hid (Od.out.below hb10); replace Ww := Lib.hid (Ww.out.trans (Wrote.of_below hb10)); have ix0 := Xx.out.cell 0; have ix1 := Xx.out.cell 1; have ix2 := Xx.out.cell 2; have ip0 := Mm.out.cell 0; have ip1 := Mm.out.cell 1; have ip2 := Mm.out.cell 2; have in0 := Rr.out.cell 0; have in1 := Rr.out.cell 1; have in2 := Rr.out.cell 2; simp at ix0 ix1 ix2 ip0 ip1 ip2 in0 in1 in2; clear hat10 hb10)))
      all_goals
        go_wp2_with fail
        go_roundw
        case rel => exact ⟨i + 1, u + M, _, by omega, by go_num, HUN, Od9, HL4, Ww9⟩
        case measure => simp [intOf]; omega
    · obtain rfl : i = P := by omega
      have huN : u = N3 := by rw [hu.out, HN3.out]
      have ht_9 : Hid (Box wr (w.heap.size + 1 + 1) 25 #[.int .i64 0, .int .i64 0, .slice none 0 0]) := (hW.out.block _ ht_7.out.lt (by omega)).trans ht_7.out
      have BW_9 : Hid (Below w.heap.size w wr) := Wrote.below BW_7.out hW.out (fun k hk => by have := BW_5.out.size; omega) BW_7.out.size
      have hO9 : OwnV wr w.heap.size (.slice (some ⟨G3, 0, none⟩) N3 N3) N3 (rt M Q i i L2) := by have h1 := hO.out; rw [hL3.out, huN, Nat.sub_self] at h1; simpa using h1
      have HO9 := Lib.hid hO9
      have HH9 : Hid (Has (rt M Q i i L2) zs) := by
        rw [HZS.out]
        unfold sysR
        have h1 := HH2.out.rt M Q i i
        rw [HRR.out] at h1
        have h2 := HQQ.out
        subst h2
        exact h1
      have hsz0' : w.heap.size ≤ w.heap.size := Nat.le_refl _
      have ex0 := Xx.out.cell 0
      have ex1 := Xx.out.cell 1
      have ex2 := Xx.out.cell 2
      simp at ex0 ex1 ex2
      have eht0 := ht_9.out.cell 0
      have eht1 := ht_9.out.cell 1
      have eht2 := ht_9.out.cell 2
      have fht0 := ht_9.out.free 0
      have fht1 := ht_9.out.free 1
      have fht2 := ht_9.out.free 2
      simp at eht0 eht1 eht2
      clear huN hO9
      go_wp2_with fail
      refine bodyPost_ret (v := .tuple #[.agg #[.int .i64 i, .int .i64 M, .slice (some ⟨G3, 0, none⟩) N3 N3], .bool true]) (by simp [results, Tryz.results97, eht0, eht1, eht2, go_sem]) rfl ?_
      exact matOkEnd_store ht_9.out (by omega) BW_9.out HQF.out HGD.out HZL.out HO9.out hsz0' HH9.out
end Go.Proofs.YthjbfdifeffilaaGreat
