/- The program that searches for a certificate of infeasibility, by the program: farkas.search. -/
import Derived.Test.YtcmbfgaojlnjcaaFarI4
import Derived.Test.YtcmbfgaojlnjcaaMkD
import Derived.Test.YtcmbfgaojlnjcaaTA
namespace Go.Proofs.Ytcmbfgaojlnjcaa
set_option maxRecDepth 100000
open Go.RowKit

section
variable {P : Program} {ops : Array Oper} {Q : Exit → Act → World → Prop} {o : Oper} {a : Act} {w : World} {K : Act → World → Prop} {E : Prop}
/-- What a list that may be read holds, behind one of the call's own, as a step of a drawn region; where the new list lies. -/
theorem step_append_reads_at (hgd : o.guard = none) (s x : Operand) (t : TypeId)
    (ho : o.op = .call { callee := .builtin .append, args := #[s, x], argTypes := #[t, t] })
    (base : Nat) (e : TypeId) (i : TypeInfo) (z : Value) (bytes : Nat) (ht : P.underlying t = some (.slice e)) (hi : P.info? e = some i) (hz : i.zero = some z)
    (hsize : i.size = 1) (hby : i.bytes = bytes) (hzs : z.cells.size = 1)
    (v : Value) (n : Nat) (xs : List Value) (hs : a.eval s = v) (hown : w.ownsRow base e 1 v n xs)
    (A : Option Addr) (m c : Nat) (news : List Value) (hx : a.eval x = .slice A m c) (hl : news.length = m) (hr : Reads w A news) (h1 : ∀ u ∈ news, u.oneCell' = true)
    (h63 : n + m ≤ maxLen) (hbytes : (n + m) * bytes ≤ 140737488355328) (hbase : base ≤ w.heap.size)
    (h : ∀ v' w', w'.ownsRow base e 1 v' (n + m) (xs ++ news) → w.grownBy w' v.ownBlock → (v'.ownBlock = v.ownBlock ∨ v'.ownBlock = some w.heap.size) → K (a.put o.dst v') w') :
    if Region.wanted o (yielded ops a.tmps) = true then Oper.wp P o a w K Q else E := by
  have hw : Region.wanted o (yielded ops a.tmps) = true := by simp [Region.wanted, hgd]
  rw [if_pos hw]
  cases A with
  | some ad =>
    obtain ⟨v', w', hrun, h2, h3, _, h4⟩ := run_append_own_at (P := P) w base t o.type e i z 1 bytes ht hi hz hsize hby hzs (by decide) v n xs hown ad m c news (by omega) (fun j u hu => by
      rcases hr with rfl | ⟨b, of, he, _, hc⟩
      · simp at hu
      · cases he
        obtain ⟨hj, rfl⟩ := List.getElem?_eq_some_iff.1 hu
        rw [Addr.add_lit]
        exact hc j hj) h1 h63 hbytes hbase
    unfold Oper.wp execOp
    simp only [ho, resolve, invoke, builtin, Sem.run_bind, Sem.run_pure, Result.andThen_ok, List.map_toArray, List.map_cons, List.map_nil, hs, hx, hrun]
    exact h v' w' h2 h3 h4
  | none =>
    have hn0 : news = [] := by
      rcases hr with h | ⟨b, of, he, _⟩
      · exact h
      · cases he
    subst hn0
    obtain rfl : m = 0 := by simpa using hl.symm
    have hrun := run_append_none (P := P) w base t o.type e i ht hi v n xs (by rw [hsize]; exact hown) c
    unfold Oper.wp execOp
    simp only [ho, resolve, invoke, builtin, Sem.run_bind, Sem.run_pure, Result.andThen_ok, List.map_toArray, List.map_cons, List.map_nil, hs, hx, hrun]
    exact h v w (by simpa using hown) (World.grownBy.refl _ _) (.inl rfl)
end
theorem arr2 {x y u v : Value} (h : x = y) (k : u = v) : #[x, u] = #[y, v] := by rw [h, k]
/-- A program as a value. -/
def RProg (p k : Int) (n : Nat) (la : List Int) (m : Nat) (lb : List Int) (l : Nat) (lc : List Int) (lo : Nat) (v : Value) (w : World) : Prop :=
  ∃ A c B d C f, v = .agg #[.int .i64 p, .int .i64 k, .slice A n c, .slice B m d, .slice C l f] ∧ OwnP w lo A n c (la.map (.int .i64)) B m d (lb.map (.int .i64)) C l f (lc.map (.int .i64))
theorem RProg.keep {p k : Int} {n : Nat} {la : List Int} {m : Nat} {lb : List Int} {l : Nat} {lc : List Int} {lo : Nat} {v : Value} {w w' : World} (h : RProg p k n la m lb l lc lo v w) (hb : Below w.heap.size w w') : RProg p k n la m lb l lc lo v w' := by
  obtain ⟨A, c, B, d, C, f, h1, h2⟩ := h
  exact ⟨A, c, B, d, C, f, h1, h2.below hb⟩
theorem box5_2 {w : World} {g g1 base : Nat} {t : TypeId} {a0 a1 a2 a3 a4 : Value} {p k : Int} {A B C : Option Addr} {n c m d l e : Nat} {la lb lc : List Int} (h : Hid (Box w g t #[a0, a1, a2, a3, a4])) (h1 : Hid (PM base w g1 p k A n c la B m d lb C l e lc)) :
    w.cell? ⟨g, 0, none⟩ = some a0 ∧ w.cell? ⟨g, 1, none⟩ = some a1 ∧ w.cell? ⟨g, 2, none⟩ = some a2 ∧ w.cell? ⟨g, 3, none⟩ = some a3 ∧ w.cell? ⟨g, 4, none⟩ = some a4 ∧ w.cell? ⟨g1, 2, none⟩ = some (.slice A n c) :=
  ⟨h.out.cell 0, h.out.cell 1, h.out.cell 2, h.out.cell 3, h.out.cell 4, h1.out.box.cell 2⟩
theorem box5_b {w : World} {g g1 : Nat} {t t1 : TypeId} {a0 a1 a2 a3 a4 b0 b1 b2 b3 b4 : Value} (h : Hid (Box w g t #[a0, a1, a2, a3, a4])) (h1 : Hid (Box w g1 t1 #[b0, b1, b2, b3, b4])) :
    w.cell? ⟨g, 0, none⟩ = some a0 ∧ w.cell? ⟨g, 1, none⟩ = some a1 ∧ w.cell? ⟨g, 2, none⟩ = some a2 ∧ w.cell? ⟨g, 3, none⟩ = some a3 ∧ w.cell? ⟨g, 4, none⟩ = some a4 ∧ w.cell? ⟨g1, 2, none⟩ = some b2 :=
  ⟨h.out.cell 0, h.out.cell 1, h.out.cell 2, h.out.cell 3, h.out.cell 4, h1.out.cell 2⟩
set_option maxHeartbeats 12800000 in
theorem impl_farkasSearch (P K : Nat) (A : Option Addr) (n c : Nat) (la : List Int) (B : Option Addr) (d : Nat) (lb : List Int) (C : Option Addr) (l f : Nat) (w : World) (hA : InI w A n la) (h : InI w B P lb) (hl : n = P * K) (hP : P ≤ 9) (hK : K ≤ 16) (he : Ent la) (heb : Ent lb) (hnc : n ≤ c) :
    Calls Try.prog 112 #[.agg #[], .agg #[.int .i64 P, .int .i64 K, .slice A n c, .slice B P d, .slice C l f]] w fun e w' => ToPEnd ((K : Int) + 1) (2 * (P : Int) + (K : Int)) ((frows K la P K).length + (P + P + K)) (frows K la P K ++ (lb ++ wneg lb ++ List.replicate K 0)) (K + 1) (List.replicate K 0 ++ [-1]) (2 * P + K) (List.replicate (2 * P + K) 0) w w' e := by
  obtain ⟨i0, hi, hz0, hz1, hz2⟩ := info_parts Try.infoI
  obtain ⟨j0, hj', hy0, hy1, hy2⟩ := info_parts Try.infoLP
  obtain ⟨W0, hW0⟩ : ∃ W, W = (((w.alloc (.cells #[] 72)).alloc (.cells #[.int .i64 P, .int .i64 K, .slice A n c, .slice B P d, .slice C l f] 102)).alloc (.cells #[.int .i64 0, .int .i64 0, .slice none 0 0, .slice none 0 0, .slice none 0 0] 26)) := ⟨_, rfl⟩
  have hp0_0 : Hid (Box W0 (w.heap.size + 1) 102 #[.int .i64 P, .int .i64 K, .slice A n c, .slice B P d, .slice C l f]) := by rw [hW0]; exact ((Box.at' (by simp)).alloc _)
  have hpr_0 : Hid (Box W0 (w.heap.size + 1 + 1) 26 #[.int .i64 0, .int .i64 0, .slice none 0 0, .slice none 0 0, .slice none 0 0]) := by rw [hW0]; exact (Box.at' (by simp))
  have BW_0 : Hid (Below w.heap.size w W0) := by rw [hW0]; exact ((((Below.refl w.heap.size w).alloc (by simp) _).alloc (by simp) _).alloc (by simp; omega) _)
  have hsz0 : w.heap.size + 1 + 1 + 1 ≤ W0.heap.size := by rw [hW0]; simp
  have HI := Lib.hid (hA.below BW_0.out)
  have HX := Lib.hid (h.below BW_0.out)
  have HLB : Hid (lb.length = P) := h.1
  have hP9 := hP
  have hK16 := hK
  have hmK : K ≤ 1048576 := by omega
  have HL := Lib.hid hl
  have HE := Lib.hid he
  have HEB := Lib.hid heb
  have hwp3 : IntKind.i64.wrap ((K : Int) + 1) = (K : Int) + 1 := by rw [IntKind.wrap_i64]; omega
  have hNAf : (frows K la P K).length ≤ 544 := frows_le (Nat.le_refl _) hP hK
  have HNF := Lib.hid hNAf
  clear hA h hl he heb hP hK hNAf
  go_enter Try.func112, Try.ntmps112
  go_upto_region 1 with fail
  rw [← hW0]
  clear hW0
  go_cut [5] (fun s5 wx => ∃ (g NA : Nat) (A1 : Option Addr) (c1 : Nat) (B1 : Option Addr) (c2 : Nat) (C1 : Option Addr) (c3 : Nat), s5 = .pointer (some ⟨g, 0, none⟩) ∧ W0.heap.size ≤ g ∧ Hid (NA = (frows K la P K).length) ∧ PM W0.heap.size wx g K (2 * P + K) A1 NA c1 (frows K la P K) B1 K c2 (List.replicate K 0) C1 (2 * P + K) c3 (List.replicate (2 * P + K) 0) ∧ Below W0.heap.size W0 wx)
  case first =>
    have BD : Hid (Below W0.heap.size W0 W0.drew) := (Below.refl _ _).drew
    have XB := Lib.hid hp0_0.out.drew
    have HA : Hid (InI W0.drew A n la) := HI.out.below (Below.refl _ _).drew
    have hw1 : w.heap.size + 1 + 1 < W0.heap.size := hpr_0.out.lt
    clear hp0_0 HI HX hpr_0 BW_0
    refine wp_region_held_drew (S := (fun w' => w'.cell? ⟨w.heap.size + 1, 0, none⟩ = some (.int .i64 P) ∧ w'.cell? ⟨w.heap.size + 1, 1, none⟩ = some (.int .i64 K) ∧ w'.cell? ⟨w.heap.size + 1, 2, none⟩ = some (.slice A n c) ∧ w'.cell? ⟨w.heap.size + 1, 3, none⟩ = some (.slice B P d) ∧ w'.cell? ⟨w.heap.size + 1, 4, none⟩ = some (.slice C l f))) (by kernel_rfl) ?_ (fun hHeld => ?_)
    · (try dsimp only); (first | with_reducible exact box5 XZ | with_reducible exact box5 XB | with_reducible exact box5_far XZ hnb)
    refine wpAnyH_go (i := 0) (d := some 6) (v := ?_) (by rfl) (by kernel_rfl) (by kernel_rfl) (by kernel_rfl) (fun _ _ _ h => h) (by assumption) ?_ ?_
    rotate_left 1
    · (intro oS hoS wS hSw; obtain rfl := Option.some.inj hoS; (try dsimp only at hSw); go_simp; try with_reducible rfl)
    (try simp only [Act.put, List.setIfInBounds_toArray, List.set_cons_zero, List.set_cons_succ])
    refine wpAnyH_go (i := 1) (d := some 7) (v := ?_) (by rfl) (by kernel_rfl) (by kernel_rfl) (by kernel_rfl) (fun _ _ _ h => h) (by assumption) ?_ ?_
    rotate_left 1
    · (intro oS hoS wS hSw; obtain rfl := Option.some.inj hoS; (try dsimp only at hSw); go_simp; try with_reducible rfl)
    (try simp only [Act.put, List.setIfInBounds_toArray, List.set_cons_zero, List.set_cons_succ])
    refine wpAnyH_go (i := 2) (d := some 8) (v := ?_) (by rfl) (by kernel_rfl) (by kernel_rfl) (by kernel_rfl) (fun _ _ _ h => h) (by assumption) ?_ ?_
    rotate_left 1
    · (intro oS hoS wS hSw; obtain rfl := Option.some.inj hoS; (try dsimp only at hSw); go_simp; try with_reducible rfl)
    (try simp only [Act.put, List.setIfInBounds_toArray, List.set_cons_zero, List.set_cons_succ])
    refine wpAnyH_go (i := 3) (d := some 9) (v := ?_) (by rfl) (by kernel_rfl) (by kernel_rfl) (by kernel_rfl) (fun _ _ _ h => h) (by assumption) ?_ ?_
    rotate_left 1
    · (intro oS hoS wS hSw; obtain rfl := Option.some.inj hoS; (try dsimp only at hSw); go_simp; try with_reducible rfl)
    (try simp only [Act.put, List.setIfInBounds_toArray, List.set_cons_zero, List.set_cons_succ])
    refine wpAnyH_makersD (fuel := 1) 3 [4, 5, 6] [10, 11, 5] [1] [[], [0], []] (fun j Y lo hi w' => match j with | 0 => RRow K ((List.replicate K (0 : Int)).map (.int .i64)) lo hi (Y 0) w' | 1 => RProg K (2 * P + K) (frows K la P K).length (frows K la P K) K (List.replicate K 0) (2 * P + K) (List.replicate (2 * P + K) 0) lo (Y 1) w' | _ => RBox 26 (Value.cells (.agg #[.int .i64 0, .int .i64 0, .slice none 0 0, .slice none 0 0, .slice none 0 0])) lo hi (Y 2) w') (by kernel_rfl) (by kernel_rfl) (by kernel_rfl) (fun w1 hb1 => box5 (Lib.hid (XB.out.below hb1 XB.out.lt))) ?_ ?_ ?_ ?_
    · intro j hj Y Z lo hi w1 h hz hd
      match j, hj with
      | 0, _ => exact (by show RRow _ _ lo hi (Z 0) w1; rw [hz]; exact h)
      | 1, _ => exact (by show RProg _ _ _ _ _ _ _ _ lo (Z 1) w1; rw [hz]; exact h)
      | 2, _ => exact (by show RBox _ _ lo hi (Z 2) w1; rw [hz]; exact h)
    · intro j hj Y lo hi w1 w2 h1 h2 h3
      match j, hj with
      | 0, _ => exact RRow.keep h1 h3
      | 1, _ => exact RProg.keep h1 h3
      | 2, _ => exact RBox.keep h1 h3
    · intro j hj
      match j, hj with
      | 0, _ =>
        intro oS hoS Y LO HI wy hby hdeps K' hK
        simp only [List.getD_cons_zero, List.getElem?_toArray, List.getElem?_cons_zero, List.getElem?_cons_succ, Option.some.injEq] at hoS
        subst hoS
        exact step_makeI rfl 22 (.tmp 9) rfl i0 Try.underlying22 hi hz0 hz1 hz2 K (K : Int) ((actB_off (by kernel_rfl)).trans rfl) rfl hmK fun v wv hbv hro => hK.out _ _ hbv hro
      | 1, _ =>
        intro oS hoS Y LO HI wy hby hdeps K' hK
        simp only [List.getD_cons_zero, List.getD_cons_succ, List.getElem?_toArray, List.getElem?_cons_zero, List.getElem?_cons_succ, Option.some.injEq] at hoS
        subst hoS
        have h0 := (hdeps 0 (by decide)).1
        have h0r : RRow K ((List.replicate K (0 : Int)).map (.int .i64)) (LO 0) (HI 0) (Y 0) wy := h0
        obtain ⟨A0, c0, hy⟩ := own_slice h0r.1
        have h0i : InI wy A0 K (List.replicate K 0) := by have h2 := h0r.1; rw [hy] at h2; exact ⟨by simp, hmK, Reads.of_own h2, (ent_zeros K).i64⟩
        constructor
        refine (step_call_at rfl 113 Try.func113 (by kernel_rfl) #[.tmp 6, .tmp 10] _ rfl #[.agg #[.int .i64 P, .int .i64 K, .slice A n c, .slice B P d, .slice C l f], .slice A0 K c0] (by simp only [List.map_toArray, List.map_cons, List.map_nil]; exact arr2 ((actB_off (by kernel_rfl)).trans rfl) ((actB_at (j := 0) (by decide) rfl (by simp) (by kernel_rfl)).trans hy)) ?_).out
        refine (impl_weightProgram P K A n c la B P d C l f A0 K c0 (List.replicate K 0) _ (HA.out.below hby) h0i HL.out hP9 hK16 HE.out hnc (by omega)).mono ?_
        rintro e wv ⟨A1, c1, B1, d1, C1, f1, rfl, ho, hb⟩
        exact ⟨_, rfl, hK.out _ _ hb ⟨A1, c1, B1, d1, C1, f1, rfl, ho⟩⟩
      | 2, _ =>
        intro oS hoS Y LO HI wy hby hdeps K' hK
        simp only [List.getD_cons_zero, List.getD_cons_succ, List.getElem?_toArray, List.getElem?_cons_zero, List.getElem?_cons_succ, Option.some.injEq] at hoS
        subst hoS
        exact need_alloc rfl 26 rfl j0 _ hj' hy0 fun v wv hbv hro => hK.out _ _ hbv hro
    · intro D Y LO HI wz hstop hbz hres hdis hdd
      simp only [stopB, List.all_cons, List.all_nil, Bool.and_true] at hstop
      have hdone1 := hstop
      have hdone0 := hdd 1 (by decide) hdone1 0 (by decide)
      clear hdd
      have hr0 : RRow K ((List.replicate K (0 : Int)).map (.int .i64)) (LO 0) (HI 0) (Y 0) wz := (hres 0 (by decide) hdone0).1
      have hb0 := (hres 0 (by decide) hdone0).2
      have hr1 : RProg K (2 * P + K) (frows K la P K).length (frows K la P K) K (List.replicate K 0) (2 * P + K) (List.replicate (2 * P + K) 0) (LO 1) (Y 1) wz := (hres 1 (by decide) hdone1).1
      have hb1 := (hres 1 (by decide) hdone1).2
      have hd01 := hdis 0 1 (by decide) (by decide) (by decide) hdone0 hdone1
      cases hdone2 : D 2
      case true =>
        simp only [leftB, lstB, hdone0, hdone1, hdone2, if_true, List.getD_cons_zero, List.getD_cons_succ]
        simp only [actB, List.getD_cons_zero, List.getD_cons_succ, Act.put, List.setIfInBounds_toArray, List.set_cons_zero, List.set_cons_succ]
        have hr2 : RBox 26 (Value.cells (.agg #[.int .i64 0, .int .i64 0, .slice none 0 0, .slice none 0 0, .slice none 0 0])) (LO 2) (HI 2) (Y 2) wz := (hres 2 (by decide) hdone2).1
        have hb2 := (hres 2 (by decide) hdone2).2
        clear hres hdis
        generalize Y 0 = y0 at hr0 ⊢
        generalize Y 1 = y1 at hr1 ⊢
        generalize Y 2 = y2 at hr2 ⊢
        obtain ⟨A1, c1, B1, c2, C1, c3, rfl, ho⟩ := hr1
        obtain ⟨NA, hNA⟩ : ∃ N, N = (frows K la P K).length := ⟨_, rfl⟩
        have HNA := Lib.hid hNA
        rw [← hNA] at ho ⊢
        have OO := Lib.hid (ho.lower hb1.1)
        have BD' := Lib.hid (BD.out.trans (hbz.mono BD.out.size))
        have XZ := Lib.hid (XB.out.below hbz XB.out.lt)
        have hHeld := box5 XZ
        clear hr0 ho hNA hb0 hb1 hd01 hbz
        obtain ⟨g, rfl, hg1, hg2, hN⟩ := hr2
        have hN1 := hb2.1
        have NN := Lib.hid hN
        have hg0 : W0.heap.size ≤ g := Nat.le_trans hN1 hg1
        have hnb : w.heap.size + 1 ≠ g := by omega
        clear hN hN1 hb2 hg1 hg2
        have eN0 := NN.out.cell 0
        have eN1 := NN.out.cell 1
        have eN2 := NN.out.cell 2
        have eN3 := NN.out.cell 3
        have eN4 := NN.out.cell 4
        simp [Value.cells] at eN0 eN1 eN2 eN3 eN4
        have fN0 := NN.out.free 0
        have fN1 := NN.out.free 1
        have fN2 := NN.out.free 2
        have fN3 := NN.out.free 3
        have fN4 := NN.out.free 4
        refine wpAnyH_ready (rs := [7]) (by kernel_rfl) (by simp) ?_
        refine AllReadyH.cons rfl (fun KK hK => ?_) AllReadyH.nil
        go_simp
        refine hK.out _ _ ?_ (fun hHeld => ?_)
        · (try dsimp only); (first | with_reducible exact box5 XZ | with_reducible exact box5 XB | with_reducible exact box5_far XZ hnb)
        clear hK KK
        (try simp only [Act.put, List.setIfInBounds_toArray])
        refine wpAnyH_done (by kernel_rfl) ?_ _
        go_wp2_with fail
        go_meet
        exact ⟨g, NA, A1, c1, B1, c2, C1, c3, rfl, hg0, HNA, pm_store5 NN.out OO.out _ _, below_store5 BD'.out hg0 _ _ _ _ _⟩
      case false =>
        simp only [leftB, lstB, hdone0, hdone1, hdone2, if_true, if_false, Bool.false_eq_true, List.getD_cons_zero, List.getD_cons_succ]
        simp only [actB, List.getD_cons_zero, List.getD_cons_succ, Act.put, List.setIfInBounds_toArray, List.set_cons_zero, List.set_cons_succ]
        clear hres hdis
        generalize Y 0 = y0 at hr0 ⊢
        generalize Y 1 = y1 at hr1 ⊢
        generalize Y 2 = y2 at ⊢
        obtain ⟨A1, c1, B1, c2, C1, c3, rfl, ho⟩ := hr1
        obtain ⟨NA, hNA⟩ : ∃ N, N = (frows K la P K).length := ⟨_, rfl⟩
        have HNA := Lib.hid hNA
        rw [← hNA] at ho ⊢
        have OO := Lib.hid (ho.lower hb1.1)
        have BD' := Lib.hid (BD.out.trans (hbz.mono BD.out.size))
        have XZ := Lib.hid (XB.out.below hbz XB.out.lt)
        have hHeld := box5 XZ
        clear hr0 ho hNA hb0 hb1 hd01 hbz
        refine wpAnyH_ready (rs := [6]) (by kernel_rfl) (by simp) ?_
        refine AllReadyH.cons rfl (fun K' hK => ?_) AllReadyH.nil
        go_simp
        obtain ⟨wN, hwN⟩ : ∃ W, W = wz.alloc (.cells #[.int .i64 0, .int .i64 0, .slice none 0 0, .slice none 0 0, .slice none 0 0] 26) := ⟨_, rfl⟩
        obtain ⟨g, hg⟩ : ∃ g, g = wz.heap.size := ⟨_, rfl⟩
        have hb : Below wz.heap.size wz wN := by rw [hwN]; exact (Below.refl _ _).alloc (Nat.le_refl _) _
        have NB : Box wN g 26 #[.int .i64 0, .int .i64 0, .slice none 0 0, .slice none 0 0, .slice none 0 0] := by rw [hwN, hg]; exact Box.new _ _ _
        have hg1 : wz.heap.size ≤ g := by omega
        rw [← hwN, ← hg]
        clear hwN hg
        have hg0 : W0.heap.size ≤ g := Nat.le_trans BD'.out.size hg1
        have hnb : w.heap.size + 1 ≠ g := by omega
        have NN := Lib.hid NB
        replace XZ := Lib.hid (XZ.out.below hb XZ.out.lt)
        replace OO := Lib.hid (OO.out.below hb)
        replace BD' := Lib.hid (BD'.out.trans (hb.mono BD'.out.size))
        clear hg1 NB hb
        refine hK.out _ _ ?_ (fun hHeld => ?_)
        · (try dsimp only); (first | with_reducible exact box5 XZ | with_reducible exact box5 XB | with_reducible exact box5_far XZ hnb)
        clear hK K'
        (try simp only [Act.put, List.setIfInBounds_toArray, List.set_cons_zero, List.set_cons_succ])
        have eN0 := NN.out.cell 0
        have eN1 := NN.out.cell 1
        have eN2 := NN.out.cell 2
        have eN3 := NN.out.cell 3
        have eN4 := NN.out.cell 4
        simp at eN0 eN1 eN2 eN3 eN4
        have fN0 := NN.out.free 0
        have fN1 := NN.out.free 1
        have fN2 := NN.out.free 2
        have fN3 := NN.out.free 3
        have fN4 := NN.out.free 4
        refine wpAnyH_ready (rs := [7]) (by kernel_rfl) (by simp) ?_
        refine AllReadyH.cons rfl (fun KK hK => ?_) AllReadyH.nil
        go_simp
        refine hK.out _ _ ?_ (fun hHeld => ?_)
        · (try dsimp only); (first | with_reducible exact box5 XZ | with_reducible exact box5 XB | with_reducible exact box5_far XZ hnb)
        clear hK KK
        (try simp only [Act.put, List.setIfInBounds_toArray])
        refine wpAnyH_done (by kernel_rfl) ?_ _
        go_wp2_with fail
        go_meet
        exact ⟨g, NA, A1, c1, B1, c2, C1, c3, rfl, hg0, HNA, pm_store5 NN.out OO.out _ _, below_store5 BD'.out hg0 _ _ _ _ _⟩
  obtain ⟨g, NA, A1, c1, B1, c2, C1, c3, rfl, hg0, HNA, hpm, hbw⟩ := hcut
  obtain ⟨wx, rfl⟩ : ∃ q, q = wc := ⟨_, rfl⟩
  have hNA : NA ≤ 544 := by have := HNA.out; have := HNF.out; omega
  have hw1 : w.heap.size + 1 + 1 < W0.heap.size := hpr_0.out.lt
  have hngp : w.heap.size + 1 ≠ g := by omega
  have hngr : w.heap.size + 1 + 1 ≠ g := by omega
  have P1 := Lib.hid hpm
  have B3 := Lib.hid hbw
  have q0 := hpm.box.cell 0
  have q0f := hpm.box.free 0
  simp at q0
  clear hpm hbw
  go_upto_region 3 with fail
  clear q0 q0f
  obtain ⟨w1, hw1'⟩ : ∃ W, W = wx.setCell ⟨g, 0, none⟩ (.int .i64 ((K : Int) + 1)) := ⟨_, rfl⟩
  have P2' : Hid (PM W0.heap.size w1 g ((K : Int) + 1) (2 * P + K) A1 NA c1 (frows K la P K) B1 K c2 (List.replicate K 0) C1 (2 * P + K) c3 (List.replicate (2 * P + K) 0)) := by rw [hw1']; exact P1.out.setP _
  have B2' : Hid (Below W0.heap.size W0 w1) := by rw [hw1']; exact B3.out.setCell hg0 _
  rw [← hw1'] 
  clear hw1' P1 B3
  have PD := Lib.hid (P2'.out.below (Below.refl _ _).drew)
  have BD : Hid (Below W0.heap.size W0 w1.drew) := B2'.out.drew
  have XB := Lib.hid (hp0_0.out.below BD.out hp0_0.out.lt)
  have XI := Lib.hid (HX.out.below BD.out)
  clear P2' B2'
  refine wp_region_last (S := (fun w' => w'.cell? ⟨w.heap.size + 1, 0, none⟩ = some (.int .i64 P) ∧ w'.cell? ⟨w.heap.size + 1, 1, none⟩ = some (.int .i64 K) ∧ w'.cell? ⟨w.heap.size + 1, 2, none⟩ = some (.slice A n c) ∧ w'.cell? ⟨w.heap.size + 1, 3, none⟩ = some (.slice B P d) ∧ w'.cell? ⟨w.heap.size + 1, 4, none⟩ = some (.slice C l f) ∧ w'.cell? ⟨g, 2, none⟩ = some (.slice A1 NA c1))) 8 (by kernel_rfl) ?_ (fun hHeld => ?_)
  · (try dsimp only); (first | with_reducible exact box5_b XL3 Q3 | with_reducible exact box5_2 XL P2 | with_reducible exact box5_2 XB PD)
  refine wpAnyL_go (i := 0) (d := some 16) (v := ?_) (y := 6) [1, 0] (by rfl) (by kernel_rfl) (fun _ _ _ h => h) (by assumption) ?_ ?_
  rotate_left 1
  · (intro oS hoS wS hSw; obtain rfl := Option.some.inj hoS; (try dsimp only at hSw); go_simp; try with_reducible rfl)
  (try simp only [Act.put, List.setIfInBounds_toArray])
  refine wpAnyL_go (i := 1) (d := some 17) (v := ?_) (y := 6) [1] (by rfl) (by kernel_rfl) (fun _ _ _ h => h) (by assumption) ?_ ?_
  rotate_left 1
  · (intro oS hoS wS hSw; obtain rfl := Option.some.inj hoS; (try dsimp only at hSw); go_simp; try with_reducible rfl)
  (try simp only [Act.put, List.setIfInBounds_toArray])
  refine wpAnyL_go (i := 2) (d := some 18) (v := ?_) (y := 6) [5, 2] (by rfl) (by kernel_rfl) (fun _ _ _ h => h) (by assumption) ?_ ?_
  rotate_left 1
  · (intro oS hoS wS hSw; obtain rfl := Option.some.inj hoS; (try dsimp only at hSw); go_simp; try with_reducible rfl)
  (try simp only [Act.put, List.setIfInBounds_toArray])
  refine wpAnyL_go (i := 3) (d := some 19) (v := ?_) (y := 6) [5, 4, 3] (by rfl) (by kernel_rfl) (fun _ _ _ h => h) (by assumption) ?_ ?_
  rotate_left 1
  · (intro oS hoS wS hSw; obtain rfl := Option.some.inj hoS; (try dsimp only at hSw); go_simp; try with_reducible rfl)
  (try simp only [Act.put, List.setIfInBounds_toArray])
  refine wpAnyL_go (i := 4) (d := some 20) (v := ?_) (y := 6) [5, 4] (by rfl) (by kernel_rfl) (fun _ _ _ h => h) (by assumption) ?_ ?_
  rotate_left 1
  · (intro oS hoS wS hSw; obtain rfl := Option.some.inj hoS; (try dsimp only at hSw); go_simp; try with_reducible rfl)
  (try simp only [Act.put, List.setIfInBounds_toArray])
  refine wpAnyL_one 5 (by kernel_rfl) (by decide) rfl (fun KK hK => ?_)
  go_simp
  refine (impl_weighted (P : Int) K A n c B P d C l f B P d lb _ XI.out (by omega) (by omega)).mono ?_
  rintro e w2 ⟨v2, rfl, ⟨_, hv2⟩, hb2⟩
  have hwl3 : (lb ++ wneg lb ++ List.replicate K (0 : Int)).length = P + P + K := by rw [List.length_append, List.length_append, wneg_length, List.length_replicate, HLB.out]
  rw [hwl3] at hv2
  clear hwl3
  obtain ⟨A2, c2', rfl⟩ := own_slice hv2
  have XL := Lib.hid (XB.out.below hb2 XB.out.lt)
  have P2 := Lib.hid (PD.out.below hb2)
  have B2 := Lib.hid (BD.out.trans (hb2.mono BD.out.size))
  have O2 := Lib.hid hv2
  clear hv2 hb2
  (try go_wp2_with fail)
  refine hK.out _ _ ?_ (fun hHeld => ?_)
  · (try dsimp only); (first | with_reducible exact box5_b XL3 Q3 | with_reducible exact box5_2 XL P2 | with_reducible exact box5_2 XB PD)
  clear hK KK
  (try simp only [Act.put, List.setIfInBounds_toArray])
  refine wpAnyL_one 6 (by kernel_rfl) (by decide) rfl (fun KK hK => ?_)
  refine step_append_reads_at rfl (.tmp 17) (.tmp 21) 22 rfl W0.heap.size 3 i0 (.int .i64 0) 8 Try.underlying22 hi hz0 hz1 hz2 rfl _ _ _ rfl P2.out.own.1 A2 (P + P + K) c2' ((lb ++ wneg lb ++ List.replicate K (0 : Int)).map (.int .i64)) rfl (by have h2 := O2.out.1; simpa using h2) (Reads.of_own O2.out) (fun u hu => by obtain ⟨z, _, rfl⟩ := List.mem_map.1 hu; rfl) (by unfold maxLen; omega) (by omega) B2.out.size ?_
  intro v3 w3 hown hg hat
  obtain ⟨A3, c4, rfl⟩ := own_slice hown
  have hb3 := P2.out.box.grown hg P2.out.ne.1
  have P3 : Hid (PM W0.heap.size (w3.setCell ⟨g, 2, none⟩ (.slice A3 (NA + (P + P + K)) c4)) g ((K : Int) + 1) (2 * P + K) A3 (NA + (P + P + K)) c4 (frows K la P K ++ (lb ++ wneg lb ++ List.replicate K 0)) B1 K c2 (List.replicate K 0) C1 (2 * P + K) c3 (List.replicate (2 * P + K) 0)) := P2.out.setA (by rw [List.map_append]; exact hown) hg hat
  have B3 : Hid (Below W0.heap.size W0 (w3.setCell ⟨g, 2, none⟩ (.slice A3 (NA + (P + P + K)) c4))) := ((B2.out.grown hg B2.out.size (fun k hk => (P2.out.own.1.lt k hk).1)).setCell hg0 _)
  have Q3 := Lib.hid hb3
  have XL3 := Lib.hid (XL.out.grown hg (ne_own XL.out P2.out.own.1 (by decide)))
  have q2 := hb3.cell 2
  have q2f := hb3.free 2
  simp at q2
  clear hown hg hat hb3
  refine hK.out _ _ ?_ (fun hHeld => ?_)
  · (try dsimp only); (first | with_reducible exact box5_b XL3 Q3 | with_reducible exact box5_2 XL P2 | with_reducible exact box5_2 XB PD)
  clear hK KK
  (try simp only [Act.put, List.setIfInBounds_toArray])
  refine wpAnyL_go (i := 7) (d := some 23) (v := ?_) (y := 7) [] (by rfl) (by kernel_rfl) (fun _ _ _ h => h) (by assumption) ?_ ?_
  rotate_left 1
  · (intro oS hoS wS hSw; obtain rfl := Option.some.inj hoS; (try dsimp only at hSw); go_simp; try with_reducible rfl)
  (try simp only [Act.put])
  refine wpAnyL_last (by kernel_rfl) rfl (fun KK hK => ?_)
  go_simp
  refine hK.out _ _ ?_
  clear hK KK
  (try simp only [Act.put, List.setIfInBounds_toArray])
  refine wpAnyL_done (by kernel_rfl) ?_ _
  clear q2 q2f Q3 XL3 O2 B2 P2 XL XB XI PD BD
  go_upto_region 4 with fail
  obtain ⟨w4, hw4⟩ : ∃ W, W = w3.setCell ⟨g, 2, none⟩ (.slice A3 (NA + (P + P + K)) c4) := ⟨_, rfl⟩
  rw [← hw4] at P3 B3 ⊢
  clear hw4
  have hs6 : W0.heap.size ≤ w4.heap.size := B3.out.size
  obtain ⟨wa, hwa⟩ : ∃ W, W = w4.alloc (.cells #[.int .i64 (-1)] 3) := ⟨_, rfl⟩
  have hba : Below w4.heap.size w4 wa := by rw [hwa]; exact (Below.refl _ _).alloc (Nat.le_refl _) _
  have PA := Lib.hid (P3.out.below hba)
  have HBA := Lib.hid hba
  have q3 := P3.out.box.cell 3
  simp at q3
  clear hba
  go_wp2_with (at_builtin; refine wpList_append_own_at _ rfl _ _ 22 rfl W0.heap.size 3 i0 (.int .i64 0) 1 8 Try.underlying22 hi hz0 hz1 hz2 rfl (by decide) _ _ _ rfl (P3.out.own.2.1.alloc _) ⟨w4.heap.size, 0, none⟩ 1 1 [.int .i64 (-1)] rfl rfl ?e1 ?e2 ?e3 ?e4 ?e5 ?_)
  case e1 => exact cell_one_new _ _ _
  case e2 => intro u hu; simp at hu; subst hu; rfl
  case e3 => unfold maxLen; omega
  case e4 => omega
  case e5 => simp; omega
  intro v7 w7 hown hg hnil hat
  obtain ⟨A7, c7, rfl⟩ := own_slice hown
  rw [← hwa] at hg
  rw [show w4.heap.size + 1 = wa.heap.size by rw [hwa]; simp] at hat
  have hsa : W0.heap.size ≤ wa.heap.size := Nat.le_trans hs6 HBA.out.size
  have hb7 := PA.out.box.grown hg PA.out.ne.2.1
  have P7 : Hid (PM W0.heap.size (w7.setCell ⟨g, 3, none⟩ (.slice A7 (K + 1) c7)) g ((K : Int) + 1) (2 * P + K) A3 (NA + (P + P + K)) c4 (frows K la P K ++ (lb ++ wneg lb ++ List.replicate K 0)) A7 (K + 1) c7 (List.replicate K 0 ++ [-1]) C1 (2 * P + K) c3 (List.replicate (2 * P + K) 0)) := PA.out.setB (by simpa using hown) hg hat
  have B7 : Hid (Below W0.heap.size W0 (w7.setCell ⟨g, 3, none⟩ (.slice A7 (K + 1) c7))) := (((B3.out.trans (HBA.out.mono hs6)).grown hg hsa (fun k hk => (PA.out.own.2.1.lt k hk).1)).setCell hg0 _)
  have q3 := hb7.cell 3
  have q3f := hb7.free 3
  simp at q3
  clear hown hg hat hnil hb7 PA HBA P3 B3
  go_upto_region 5 with fail
  clear q3 q3f
  obtain ⟨w8, hw8⟩ : ∃ W, W = w7.setCell ⟨g, 3, none⟩ (.slice A7 (K + 1) c7) := ⟨_, rfl⟩
  rw [← hw8] at P7 B7 ⊢
  clear hw8
  have XR := Lib.hid (hpr_0.out.below B7.out hpr_0.out.lt)
  have HZ : Hid (ToPEnd ((K : Int) + 1) (2 * (P : Int) + (K : Int)) ((frows K la P K).length + (P + P + K)) (frows K la P K ++ (lb ++ wneg lb ++ List.replicate K 0)) (K + 1) (List.replicate K 0 ++ [-1]) (2 * P + K) (List.replicate (2 * P + K) 0) w (((((w8.setCell ⟨w.heap.size + 1 + 1, 0, none⟩ (.int .i64 ((K : Int) + 1))).setCell ⟨w.heap.size + 1 + 1, 1, none⟩ (.int .i64 (2 * (P : Int) + (K : Int)))).setCell ⟨w.heap.size + 1 + 1, 2, none⟩ (.slice A3 (NA + (P + P + K)) c4)).setCell ⟨w.heap.size + 1 + 1, 3, none⟩ (.slice A7 (K + 1) c7)).setCell ⟨w.heap.size + 1 + 1, 4, none⟩ (.slice C1 (2 * P + K) c3)) (.returned (.agg #[.int .i64 ((K : Int) + 1), .int .i64 (2 * (P : Int) + (K : Int)), .slice A3 (NA + (P + P + K)) c4, .slice A7 (K + 1) c7, .slice C1 (2 * P + K) c3]))) := by
    have o := PM.own (pm_store5 XR.out P7.out.own ((K : Int) + 1) (2 * (P : Int) + (K : Int)))
    have hws : w.heap.size ≤ W0.heap.size := by omega
    rw [← HNA.out]
    exact ⟨A3, c4, A7, c7, C1, c3, rfl, ⟨own_base o.1 hws, own_base o.2.1 hws, own_base o.2.2.1 hws, o.2.2.2⟩, below_store5 (BW_0.out.trans (B7.out.mono hws)) (by omega) _ _ _ _ _⟩
  have q0 := P7.out.box.cell 0
  have q1 := P7.out.box.cell 1
  have q2 := P7.out.box.cell 2
  have q3 := P7.out.box.cell 3
  have q4 := P7.out.box.cell 4
  simp at q0 q1 q2 q3 q4
  have hpr_2 := XR
  have ehpr0 := hpr_2.out.cell 0
  have ehpr1 := hpr_2.out.cell 1
  have ehpr2 := hpr_2.out.cell 2
  have ehpr3 := hpr_2.out.cell 3
  have ehpr4 := hpr_2.out.cell 4
  have fhpr0 := hpr_2.out.free 0
  have fhpr1 := hpr_2.out.free 1
  have fhpr2 := hpr_2.out.free 2
  have fhpr3 := hpr_2.out.free 3
  have fhpr4 := hpr_2.out.free 4
  simp at ehpr0 ehpr1 ehpr2 ehpr3 ehpr4
  go_wp2_with fail
  refine bodyPost_ret (v := .agg #[.int .i64 ((K : Int) + 1), .int .i64 (2 * (P : Int) + (K : Int)), .slice A3 (NA + (P + P + K)) c4, .slice A7 (K + 1) c7, .slice C1 (2 * P + K) c3]) (by simp [results, Try.results112, ehpr0, ehpr1, ehpr2, ehpr3, ehpr4, go_sem]) rfl ?_
  exact HZ.out
end Go.Proofs.Ytcmbfgaojlnjcaa
