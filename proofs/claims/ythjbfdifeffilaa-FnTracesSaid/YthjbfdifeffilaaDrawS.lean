/- The model's draw of a symmetric matrix. -/
import Derived.Test.YthjbfdifeffilaaDraw2
import Derived.Test.YthjbfdifeffilaaAlgS
import Derived.Test.YthjbfdifeffilaaMatS5
import Derived.Test.YthjbfdifeffilaaMatS6
import Derived.Deep.DeepCutAuto
namespace Go.Proofs.Ythjbfdifeffilaa
set_option maxRecDepth 100000
open Go.RowKit Go.Deep

theorem addD_app {p ds : List RD} {x : RD} : ∀ n, n ≤ ds.length → addD p (ds ++ [x]) n = addD p ds n
  | 0, _ => rfl
  | n + 1, h => by
    have e : (ds ++ [x])[n]? = ds[n]? := List.getElem?_append_left (by omega)
    have e2 := addD_app (p := p) (ds := ds) (x := x) n (by omega)
    simp only [addD, e2, e]
theorem addD_snoc {p ds : List RD} {x : RD} {n : Nat} (h : ds.length = n) : addD p (ds ++ [x]) (n + 1) = (addD p ds n).set (n * 3 + n) (radd (((addD p ds n)[n * 3 + n]?).getD RD.zero) x) := by
  subst h
  have e : (ds ++ [x])[ds.length]? = some x := by simp
  simp only [addD, addD_app _ (Nat.le_refl _), e, Option.getD_some]
/-- An element of a list of the call's own: where it lies, and that it is the call's own. -/
theorem OwnV.at_el {w : World} {base G n c t : Nat} {L : List El} {rs : List RD} {r : RD} (h : OwnV w base (.slice (some ⟨G, 0, none⟩) n c) n L) (hh : Has L rs) (hr : rs[t]? = some r) :
    ∃ A c' B d, (El.mk r.g (.slice A r.xs.length c') r.xs.length (r.xs.map (.int .i64)) (.slice B r.ds.length d) r.ds.length (r.ds.map (.int .i64))).own w base ∧ At3 w G (t * 3) (.bool r.g) (.slice A r.xs.length c') (.slice B r.ds.length d) := by
  obtain ⟨h0, rfl⟩ := List.getElem?_eq_some_iff.1 hr
  have hlt : t < L.length := by rw [hh.length]; exact h0
  obtain ⟨c0, c1, c2⟩ := h.cells hlt
  have k := hh.at_ t hlt h0
  have ho := h.2.2.1 L[t] (List.getElem_mem _)
  obtain ⟨A, c', hA⟩ := own_slice ho.1
  obtain ⟨B, d, hB⟩ := own_slice ho.2.1
  obtain ⟨e, he⟩ : ∃ e, e = L[t] := ⟨_, rfl⟩
  rw [← he] at c0 c1 c2 k ho hA hB
  obtain ⟨g, v, m, xs, u, q, ys⟩ := e
  obtain ⟨k1, k2, k3, k4, k5⟩ := k
  dsimp only at k1 k2 k3 k4 k5 hA hB c0 c1 c2
  subst k1 k2 k3 k4 k5 hA hB
  exact ⟨A, c', B, d, ho, c0, c1, c2⟩
theorem El.own.drawn {w w' : World} {base g : Nat} {e : El} (h : e.own w base) (hg : w.grownBy w' (some g)) (hb : g < base) : e.own w' base := h.dep fun k hk => hg.block k (h.lt k hk).2 (fun e => by have := (h.lt k hk).1; cases e; omega)
def DrawMCEnd (P K B g : Nat) (w : World) (e : Ending) (w' : World) : Prop := ∃ rs V, e = .returned (.agg #[.int .i64 P, .int .i64 K, V]) ∧ rs.length = P * K ∧ (∀ r ∈ rs, Small 20 r) ∧ ResV w w' V rs ∧ Cur w' B g ∧ w.grownBy w' (some g)
set_option maxHeartbeats 3200000 in
theorem spec_l06DrawC (P K B g : Nat) (w : World) (hP : P ≤ 24) (hK : K ≤ 24) (hc : Cur w B g) :
    Calls Try.prog 35 #[.pointer (some ⟨g, 0, none⟩), .int .i64 P, .int .i64 K] w (DrawMCEnd P K B g w) := by
  obtain ⟨W0, hW0⟩ : ∃ W, W = (w.alloc (.cells #[.int .i64 0, .int .i64 0, .slice none 0 0] 25)) := ⟨_, rfl⟩
  have ht_0 : Hid (Box W0 (w.heap.size) 25 #[.int .i64 0, .int .i64 0, .slice none 0 0]) := by rw [hW0]; exact (Box.at' (by simp))
  have BW_0 : Hid (Below w.heap.size w W0) := by rw [hW0]; exact ((Below.refl w.heap.size w).alloc (by simp) _)
  have hsz0 : w.heap.size + 1 ≤ W0.heap.size := by rw [hW0]; simp
  have C0 := Lib.hid (hc.below BW_0.out)
  have hgw := hc.blk.2
  have hg1 : some w.heap.size ≠ some g := fun e => by cases e; omega
  have G0 : Hid (w.grownBy W0 (some g)) := grownBy_of_below BW_0.out _
  obtain ⟨N, hN⟩ : ∃ N, N = P * K := ⟨_, rfl⟩
  have hN5 : N ≤ 576 := by rw [hN]; exact mul_le_576 hP hK
  have hNI : ((P : Int) * (K : Int)) = (N : Int) := by rw [hN]; exact (Int.natCast_mul _ _).symm
  have hNN := Lib.hid hN
  clear hc hN
  go_enter Try.func35, Try.ntmps35
  go_wp2_with fail
  rw [← hW0]
  clear hW0
  refine (spec_draw N B g _ (by omega) C0.out).mono ?_
  rintro e w1 ⟨rs, V, rfl, hl, hsm, ⟨hl1, hf1, L, ho, hh⟩, hc1, hgb⟩
  rw [hl] at ho
  obtain ⟨A1, c1, rfl⟩ := ho.slice
  have ht_1 := Lib.hid (ht_0.out.grown hgb hg1)
  have HL := Lib.hid hl
  have HS := Lib.hid hsm
  have HO := Lib.hid ((ho.lower (BW_0.out.size)).box_set3 ht_1.out (.int .i64 P) (.int .i64 K) (.slice A1 N c1))
  have HH := Lib.hid hh
  have HC := Lib.hid (((hc1.setCell (p := ⟨w.heap.size, 0, none⟩) hgw (.int .i64 P)).setCell (p := ⟨w.heap.size, 1, none⟩) hgw (.int .i64 K)).setCell (p := ⟨w.heap.size, 2, none⟩) hgw (.slice A1 N c1))
  have G1 := Lib.hid (gb_set (gb_set (gb_set (grownBy_trans G0.out hgb) (p := ⟨w.heap.size, 0, none⟩) (Nat.le_refl _) (.int .i64 P)) (p := ⟨w.heap.size, 1, none⟩) (Nat.le_refl _) (.int .i64 K)) (p := ⟨w.heap.size, 2, none⟩) (Nat.le_refl _) (.slice A1 N c1))
  clear hl hsm hl1 hf1 ho hh hc1 hgb hNI
  have eht0 := ht_1.out.cell 0
  have eht1 := ht_1.out.cell 1
  have eht2 := ht_1.out.cell 2
  have fht0 := ht_1.out.free 0
  have fht1 := ht_1.out.free 1
  have fht2 := ht_1.out.free 2
  simp at eht0 eht1 eht2
  go_wp2_with fail
  refine bodyPost_ret (v := .agg #[.int .i64 P, .int .i64 K, .slice A1 N c1]) (by simp [results, Try.results35, eht0, eht1, eht2, go_sem]) rfl ?_
  exact ⟨rs, _, rfl, by rw [HL.out]; exact hNN.out, HS.out, resV_mk (small_goods HS.out HL.out (by omega)) HL.out HO.out HH.out, HC.out, G1.out⟩
theorem box_cell2 {w : World} {b : Nat} {t : TypeId} {x y z : Value} (h : Hid (Box w b t #[x, y, z])) : w.cell? ⟨b, 2, none⟩ = some z := h.out.cell 2
theorem pos_snoc {ds : List RD} {x : RD} (h : ∀ r ∈ ds, Pos20 r) (k : Pos20 x) : ∀ r ∈ ds ++ [x], Pos20 r := fun r hr => by
  rcases List.mem_append.1 hr with hr | hr
  · exact h r hr
  · rw [List.mem_singleton] at hr; subst hr; exact k
theorem addD_ge {p ds : List RD} : ∀ (n t : Nat), n * 3 + n ≤ t → (addD p ds n)[t]? = p[t]?
  | 0, _, _ => rfl
  | n + 1, t, h => by
    have e := addD_ge (p := p) (ds := ds) n t (by omega)
    simp only [addD]
    rw [List.getElem?_set_ne (by omega), e]
theorem has_addD {p ds : List RD} {L : List El} {i t : Nat} {r x : RD} {g : Bool} {xs zs : List Int} {v u : Value} (h : Has L (addD p ds i)) (hd : ds.length = i) (ht : t = i * 3 + i) (hr : (addD p ds i)[t]? = some r) (hq : RD.mk g xs zs = radd r x) :
    Has (L.set t ⟨g, v, xs.length, xs.map (.int .i64), u, zs.length, zs.map (.int .i64)⟩) (addD p (ds ++ [x]) (i + 1)) := by
  rw [addD_snoc hd, ← ht, hr, Option.getD_some, ← hq]
  exact h.set t ⟨rfl, rfl, rfl, rfl, rfl⟩
theorem timesT_ok {ra : List RD} (hl : ra.length = 9) (hs : ∀ r ∈ ra, Small 20 r) : ∀ x ∈ mmul 3 3 3 (trans 3 3 ra) ra, x.ok := by
  obtain ⟨a, b, c, d, e, f, g, h, i, m0, m1, m2, m4, m5, m8, ht⟩ := timesT hl hs
  rw [ht.eq]
  intro r hr
  have h0 := ht.s0.ok
  have h1 := ht.s1.ok
  have h2 := ht.s2.ok
  have h4 := ht.s4.ok
  have h5 := ht.s5.ok
  have h8 := ht.s8.ok
  simp at hr
  rcases hr with rfl | rfl | rfl | rfl | rfl | rfl | rfl | rfl | rfl <;> assumption
theorem El.own.belowD {w w' : World} {base : Nat} {e : El} (h : e.own w base) (hb : Below w.heap.size w w') : e.own w' base := h.dep fun k hk => hb.block k (h.lt k hk).2
theorem store_ownD {w : World} {base G n c i : Nat} {L : List El} {e : El} (h : OwnV w base (.slice (some ⟨G, 0, none⟩) n c) n L) (hi : i < n) (he : e.own w base) (hf : ∀ x ∈ L, Far x e) :
    (∃ x0 x1 x2, w.cell? ⟨G, i * 3, none⟩ = some x0 ∧ w.cell? ⟨G, i * 3 + 1, none⟩ = some x1 ∧ w.cell? ⟨G, i * 3 + 2, none⟩ = some x2 ∧ w.frozen? ⟨G, i * 3, none⟩ = false ∧ w.frozen? ⟨G, i * 3 + 1, none⟩ = false ∧ w.frozen? ⟨G, i * 3 + 2, none⟩ = false) ∧
    OwnV (((w.setCell ⟨G, i * 3, none⟩ (.bool e.g)).setCell ⟨G, i * 3 + 1, none⟩ e.v).setCell ⟨G, i * 3 + 2, none⟩ e.u) base (.slice (some ⟨G, 0, none⟩) n c) n (L.set i e) ∧
    Wrote (fun k => k = G) w (((w.setCell ⟨G, i * 3, none⟩ (.bool e.g)).setCell ⟨G, i * 3 + 1, none⟩ e.v).setCell ⟨G, i * 3 + 2, none⟩ e.u) := by
  have hst := h.store hi he hf
  exact ⟨h.room hi, hst.1, hst.2.mono fun k _ hk => by unfold blk at hk; simp [Value.ownBlock] at hk; exact hk.symm⟩
/-- A list's block and a struct variable's are two. -/
theorem own_box_ne {w : World} {base G n c : Nat} {L : List El} {t : TypeId} {cs : Array Value} (h : OwnV w base (.slice (some ⟨G, 0, none⟩) n c) n L) (hb : Box w G t cs) (ht : t = 25) : False := by
  subst ht
  rcases h.2.1.2 with ⟨hv, _⟩ | ⟨g, cap, cur, hv, _, hg, _⟩
  · cases hv
  · cases hv
    unfold Box at hb
    rw [hg] at hb
    injection hb with hb
    injection hb with _ hb
    cases hb
theorem spec_l06Transpose3 (A : Option Addr) (c : Nat) (rs : List RD) (w : World) (h : InV w A 9 rs) (hm : MOk (3 : Nat) (3 : Nat) rs) :
    Calls Try.prog 37 #[.agg #[.int .i64 3, .int .i64 3, .slice A 9 c]] w fun e w' => MatEnd (fun p k r => p = 3 ∧ k = 3 ∧ r = trans 3 3 rs) w w' e := spec_l06Transpose 3 3 A 9 c rs w h hm
theorem spec_l06Multiply3 (A : Option Addr) (c : Nat) (rs : List RD) (B : Option Addr) (d : Nat) (ss : List RD) (w : World) (h1 : InV w A 9 rs) (hc : 9 ≤ c) (hm : MOk (3 : Nat) (3 : Nat) rs) (h2 : InV w B 9 ss) (hm2 : MOk (3 : Nat) (3 : Nat) ss) :
    Calls Try.prog 36 #[.agg #[.int .i64 3, .int .i64 3, .slice A 9 c], .agg #[.int .i64 3, .int .i64 3, .slice B 9 d]] w fun e w' => MatEnd (fun p k r => p = 3 ∧ k = 3 ∧ r = mmul 3 3 3 rs ss) w w' e := spec_l06Multiply 3 3 3 A 9 c rs B 9 d ss w h1 hc hm h2 hm2
set_option maxHeartbeats 12800000 in
theorem spec_makeSymmetric (A : Option Addr) (n c : Nat) (w : World) (hn : n ≤ 1048576) (hby : BytesIn w w.heap.size A n) :
    Calls Try.prog 8 #[.slice A n c] w fun e w' => MatEnd (fun p k r => p = 3 ∧ k = 3 ∧ SymQ 20480000000 r) w w' e := by
  obtain ⟨W0, hW0⟩ : ∃ W, W = (w.alloc (.cells #[.int .i64 0, .int .i64 0, .slice none 0 0] 25)) := ⟨_, rfl⟩
  have ht_0 : Hid (Box W0 (w.heap.size) 25 #[.int .i64 0, .int .i64 0, .slice none 0 0]) := by rw [hW0]; exact (Box.at' (by simp))
  have BW_0 : Hid (Below w.heap.size w W0) := by rw [hW0]; exact ((Below.refl w.heap.size w).alloc (by simp) _)
  have hsz0 : w.heap.size + 1 ≤ W0.heap.size := by rw [hW0]; simp
  have Hby := Lib.hid (hby.keep2 BW_0.out)
  have hlt0 := ht_0.out.lt
  clear hby
  go_enter Try.func8, Try.ntmps8
  go_wp2_with fail
  rw [← hW0]
  clear hW0
  refine (spec_new A n c W0.heap.size _ hn (Nat.le_refl _) Hby.out).mono ?_
  rintro e w1 ⟨g, rfl, hg, hcur, hb⟩
  have C1 := Lib.hid hcur
  have hg1 : g < w1.heap.size := hcur.blk.2
  have ht_1 := Lib.hid (ht_0.out.below hb ht_0.out.lt)
  have BW_1 := Lib.hid (BW_0.out.trans (hb.mono BW_0.out.size))
  clear hb
  have hsz1 := BW_1.out.size
  clear hcur
  go_wp2_with fail
  refine (spec_l06DrawC 3 3 W0.heap.size g _ (by omega) (by omega) C1.out).mono ?_
  rintro e w2 ⟨ra, V, rfl, hl, hsm, hr, hc2, hgb⟩
  obtain ⟨Aa, ca, rfl, hca, hia⟩ := resV_in hr (n := 9) hl
  have ht_2 := Lib.hid (ht_1.out.grown hgb (fun e => by cases e; omega))
  have BW_2 := Lib.hid (BW_1.out.grown hgb hsz1 (fun k hk => by cases hk; omega))
  have HLa := Lib.hid hl
  have HSa := Lib.hid hsm
  have hg2 : g < w2.heap.size := by have := hgb.size; omega
  obtain ⟨W3, hW3⟩ : ∃ W, W = w2.alloc (.cells #[.int .i64 3, .int .i64 3, .slice Aa 9 ca] 25) := ⟨_, rfl⟩
  have hb : Below w2.heap.size w2 W3 := by rw [hW3]; exact (Below.refl _ _).alloc (Nat.le_refl _) _
  have Xa_3 : Hid (Box W3 w2.heap.size 25 #[.int .i64 3, .int .i64 3, .slice Aa 9 ca]) := by rw [hW3]; exact Box.new _ _ _
  have Ia_3 := Lib.hid (hia.below hb)
  have C3 := Lib.hid (hc2.below hb)
  have hs23 : w2.heap.size < W3.heap.size := by rw [hW3]; simp
  have ht_3 := Lib.hid (ht_2.out.below hb ht_2.out.lt)
  have BW_3 := Lib.hid (BW_2.out.trans (hb.mono BW_2.out.size))
  clear hb
  have MA : Hid (MOk (3 : Nat) (3 : Nat) ra) := ⟨by omega, by omega, by rw [hl]; rfl, small_ok hsm⟩
  have hltT := ht_3.out.lt
  have hsz3 := BW_3.out.size
  clear hl hsm hr hc2 hgb hia
  go_upto_region 3 with fail
  rw [← hW3]
  clear hW3
  go_cut [5] (fun s5 wx => ∃ (gb : Nat) (A' : Option Addr) (c' : Nat) (L : List El), s5 = .pointer (some ⟨gb, 0, none⟩) ∧ W3.heap.size ≤ gb ∧ Hid (Box wx gb 25 #[.int .i64 3, .int .i64 3, .slice A' 9 c']) ∧ Hid (OwnV wx W3.heap.size (.slice A' 9 c') 9 L) ∧ Hid (Has L (mmul 3 3 3 (trans 3 3 ra) ra)) ∧ Hid (Below W3.heap.size W3 wx))
  case first =>
    have BD : Hid (Below W3.heap.size W3 W3.drew) := (Below.refl _ _).drew
    have Xa := Lib.hid Xa_3.out.drew
    have Ia : Hid (InV W3.drew Aa 9 ra) := Ia_3.out.below (Below.refl _ _).drew
    have MT : Hid (MOk (3 : Nat) (3 : Nat) (trans 3 3 ra)) := MOk.trans (P := 3) (K := 3) MA.out
    have hlt3 := Xa_3.out.lt
    go_region_held3 (fun w' => w'.cell? ⟨w2.heap.size, 0, none⟩ = some (.int .i64 3) ∧ w'.cell? ⟨w2.heap.size, 1, none⟩ = some (.int .i64 3) ∧ w'.cell? ⟨w2.heap.size, 2, none⟩ = some (.slice Aa 9 ca)) (first | with_reducible exact box3_far Xa | with_reducible exact box3_far (hAlloc Xa _) | with_reducible exact box3_far (hFar3 Xa (by have := NB.out; have := BD.out.size; omega) _ _ _) | with_reducible exact box3_far (hFar3 (hAlloc Xa _) (by have := BD.out.size; omega) _ _ _) | with_reducible exact box3_far (hDrew (hAlloc Xa_3 _))) (first | (go_at_call 36; first | ((with_reducible refine (spec_l06Multiply3 At ct (trans 3 3 ra) Aa ca ra _ It.out hct MT.out Ia.out MA.out).mono ?_); rintro e w11 ⟨q, j, r, V, rfl, ⟨rfl, rfl, hrr⟩, ⟨hl1, hf1, L, ho, hh⟩, hb⟩; rw [hrr, mmul_length] at ho; rw [hrr] at hh; obtain ⟨Aba, cba, rfl⟩ := ho.slice; have Oba := Lib.hid (ho.lower BD.out.size); have Hba := Lib.hid hh; replace BD := Lib.hid (BD.out.trans (hb.mono BD.out.size)); replace Xa := Lib.hid (Xa.out.below hb Xa.out.lt); (try (replace NN := Lib.hid (NN.out.below hb NN.out.lt); have eN0 := NN.out.cell 0; have eN1 := NN.out.cell 1; have eN2 := NN.out.cell 2; simp at eN0 eN1 eN2; have fN0 := NN.out.free 0; have fN1 := NN.out.free 1; have fN2 := NN.out.free 2)); clear hrr hl1 hf1 ho hh hb) | (have NB : Hid (W3.heap.size ≤ w10.heap.size) := BD.out.size; have NN := Lib.hid (Box.new w10 25 #[.int .i64 0, .int .i64 0, .slice none 0 0]); replace Xa := Lib.hid (Xa.out.alloc (.cells #[.int .i64 0, .int .i64 0, .slice none 0 0] 25)); replace Ia := Lib.hid (Ia.out.below ((Below.refl _ _).alloc (Nat.le_refl _) (.cells #[.int .i64 0, .int .i64 0, .slice none 0 0] 25))); replace It := Lib.hid (It.out.below ((Below.refl _ _).alloc (Nat.le_refl _) (.cells #[.int .i64 0, .int .i64 0, .slice none 0 0] 25))); replace BD := Lib.hid (BD.out.alloc BD.out.size (.cells #[.int .i64 0, .int .i64 0, .slice none 0 0] 25)); (with_reducible refine (spec_l06Multiply3 At ct (trans 3 3 ra) Aa ca ra _ It.out hct MT.out Ia.out MA.out).mono ?_); rintro e w11 ⟨q, j, r, V, rfl, ⟨rfl, rfl, hrr⟩, ⟨hl1, hf1, L, ho, hh⟩, hb⟩; rw [hrr, mmul_length] at ho; rw [hrr] at hh; obtain ⟨Aba, cba, rfl⟩ := ho.slice; have Oba := Lib.hid (ho.lower BD.out.size); have Hba := Lib.hid hh; replace BD := Lib.hid (BD.out.trans (hb.mono BD.out.size)); replace Xa := Lib.hid (Xa.out.below hb Xa.out.lt); replace NN := Lib.hid (NN.out.below hb NN.out.lt); have eN0 := NN.out.cell 0; have eN1 := NN.out.cell 1; have eN2 := NN.out.cell 2; simp at eN0 eN1 eN2; have fN0 := NN.out.free 0; have fN1 := NN.out.free 1; have fN2 := NN.out.free 2; clear hrr hl1 hf1 ho hh hb)) | (go_at_call 37; first | ((with_reducible refine (spec_l06Transpose3 Aa ca ra _ Ia.out MA.out).mono ?_); rintro e w10 ⟨q, j, r, V, rfl, ⟨rfl, rfl, hrr⟩, hr, hb⟩; subst hrr; obtain ⟨At, ct, rfl, hct, hit⟩ := resV_in hr (n := 9) (trans_length _ _ _); have It := Lib.hid hit; replace BD := Lib.hid (BD.out.trans (hb.mono BD.out.size)); replace Xa := Lib.hid (Xa.out.below hb Xa.out.lt); replace Ia := Lib.hid (Ia.out.below hb); clear hr hit hb) | (have NB : Hid (W3.heap.size ≤ W3.heap.size) := Nat.le_refl _; have NN := Lib.hid (Box.new W3 25 #[.int .i64 0, .int .i64 0, .slice none 0 0]).drew; replace Xa := Lib.hid (Xa_3.out.alloc (.cells #[.int .i64 0, .int .i64 0, .slice none 0 0] 25)).drew; replace Ia := Lib.hid (Ia_3.out.below ((Below.refl _ _).alloc (Nat.le_refl _) (.cells #[.int .i64 0, .int .i64 0, .slice none 0 0] 25)).drew); replace BD : Hid (Below W3.heap.size W3 (W3.alloc (.cells #[.int .i64 0, .int .i64 0, .slice none 0 0] 25)).drew) := ((Below.refl _ _).alloc (Nat.le_refl _) _).drew; (with_reducible refine (spec_l06Transpose3 Aa ca ra _ Ia.out MA.out).mono ?_); rintro e w10 ⟨q, j, r, V, rfl, ⟨rfl, rfl, hrr⟩, hr, hb⟩; subst hrr; obtain ⟨At, ct, rfl, hct, hit⟩ := resV_in hr (n := 9) (trans_length _ _ _); have It := Lib.hid hit; replace BD := Lib.hid (BD.out.trans (hb.mono BD.out.size)); replace Xa := Lib.hid (Xa.out.below hb Xa.out.lt); replace Ia := Lib.hid (Ia.out.below hb); replace NN := Lib.hid (NN.out.below hb NN.out.lt); clear hr hit hb)))
    all_goals (have zz := BD.out.size; go_wp2_with fail; go_meet; first | exact ⟨_, _, _, _, rfl, zz, Box.new _ _ _, (Oba.out.alloc _), Hba, BD.out.alloc BD.out.size _⟩ | exact ⟨_, _, _, _, rfl, NB.out, (((NN.out.set_ 0 _).set_ 1 _).set_ 2 _), (Oba.out.box_set3 NN.out _ _ _), Hba, (((BD.out.setCell NB.out _).setCell NB.out _).setCell NB.out _)⟩)
  obtain ⟨gb, A', c', L0, rfl, hgb3, Xm_4, O_4, H_4, hbh⟩ := hcut
  have hb := hbh.out
  clear hbh
  obtain ⟨w4, rfl⟩ : ∃ q, q = wc := ⟨_, rfl⟩
  obtain ⟨G, hG, hG1, hG2⟩ := own_at' O_4.out.2.1 (by omega)
  subst hG
  have C4 := Lib.hid (C3.out.below hb)
  have G4 : Hid (W3.grownBy w4 (some g)) := grownBy_of_below hb _
  obtain ⟨p, hp⟩ : ∃ p, p = mmul 3 3 3 (trans 3 3 ra) ra := ⟨_, rfl⟩
  have HP := Lib.hid hp
  rw [← hp] at H_4
  have hpl : p.length = 9 := by rw [hp, mmul_length]
  have HPL := Lib.hid hpl
  have hPok : Hid (∀ x ∈ p, x.ok) := by rw [hp]; exact timesT_ok HLa.out HSa.out
  have hgW : g < W3.heap.size := by omega
  have hgbg : some gb ≠ some g := fun e => by cases e; omega
  have hGg : some G ≠ some g := fun e => by cases e; omega
  have hneG : gb ≠ G := fun e => by
    subst e
    exact own_box_ne O_4.out Xm_4.out rfl
  clear hp hpl hb
  go_wp2_with fail
  go_loopw [6] (fun y wr => ∃ (i : Nat) (ds : List RD) (L : List El), i ≤ 3 ∧ y = .int .i64 i ∧ Hid (ds.length = i) ∧ Hid (∀ r ∈ ds, Pos20 r) ∧ Hid (OwnV wr W3.heap.size (.slice (some ⟨G, 0, none⟩) 9 c') 9 L) ∧ Hid (Has L (addD p ds i)) ∧ Hid (Box wr gb 25 #[.int .i64 3, .int .i64 3, .slice (some ⟨G, 0, none⟩) 9 c']) ∧ Hid (Cur wr W0.heap.size g) ∧ Hid (W3.grownBy wr (some g)) ∧ Hid (G < wr.heap.size)) (fun y _ => 3 - (intOf y).toNat)
  case atStart => exact ⟨0, [], L0, by omega, rfl, rfl, (by intro r hr; cases hr), O_4, H_4, Xm_4, C4, G4, hG2⟩
  case round =>
    obtain ⟨i, ds, L, hle, rfl, hdl, hdp, ho, hh, hX, hC, hGr, hsz⟩ := hrel
    by_cases hlt : i < 3
    · have hi0 : (0 : Int) ≤ (i : Int) := by omega
      have hi1 : (i : Int) < (3 : Int) := by omega
      obtain ⟨u, hu⟩ : ∃ u, u = i * 3 := ⟨_, rfl⟩
      obtain ⟨t, ht⟩ : ∃ t, t = u + i := ⟨_, rfl⟩
      have hw1 : IntKind.i64.wrap ((i : Int) * 3) = u := by rw [hu]; have := IntWalk.i64_in ((i : Int) * 3) (by omega); rw [this]; omega
      have hw2 : IntKind.i64.wrap ((u : Int) + (i : Int)) = t := by have := IntWalk.i64_in ((u : Int) + (i : Int)) (by omega); rw [this]; omega
      have hw3 : IntKind.i64.wrap (u : Int) = u := IntWalk.i64_in _ (by omega)
      have hw4 : IntKind.i64.wrap (t : Int) = t := IntWalk.i64_in _ (by omega)
      have hui : (i : Int) * 3 = u := by omega
      have hut : (u : Int) + (i : Int) = t := by omega
      have ht0 : (0 : Int) ≤ (t : Int) := by omega
      have ht1 : (t : Int) < 9 := by omega
      have htl : t < p.length := by rw [HPL.out]; omega
      obtain ⟨r, hr⟩ : ∃ r, p[t]? = some r := ⟨_, List.getElem?_eq_getElem htl⟩
      have hrk : r.ok := hPok.out _ (List.mem_of_getElem? hr)
      have hra : (addD p ds i)[t]? = some r := by rw [addD_ge i t (by omega)]; exact hr
      have HRA := Lib.hid hra
      have HT : Hid (t = i * 3 + i) := by unfold Hid; omega
      have hx24 : r.xs.length ≤ 24 := hrk.2.2.2.2.1
      have hd24 : r.ds.length ≤ 24 := hrk.2.2.2.2.2
      have KR : Hid (ROk r.g r.xs r.ds) := hrk
      have GR : Hid (GRat r.g r.xs r.ds) := .inl hrk
      obtain ⟨A3, c3, B3, d3, hown, hat⟩ := ho.out.at_el hh.out hra
      have Xm := Lib.hid hX.out.drew
      have Ee := Lib.hid hat.drew
      have hbd : Below wr.heap.size wr wr.drew := (Below.refl _ _).drew
      have Ne := Lib.hid (hown.belowD hbd)
      have Oo := Lib.hid ho.out.drew
      have Cc := Lib.hid (hC.out.below hbd)
      have Gg : Hid (W3.grownBy wr.drew (some g)) := gb_below hGr.out hbd
      have Hl : Hid (G < wr.drew.heap.size) := hsz.out
      have ht9 : t < 9 := by omega
      have hG1' : W3.heap.size ≤ G := hG1
      obtain ⟨ea0, ea1, ea2⟩ := Ee.out
      clear hr hrk hra hown hat hbd hu ht
      go_wp2_with fail
      have em2 := box_cell2 Xm
      go_region_with (first | (go_at_call 40; (with_reducible refine (spec_below 4 W0.heap.size g _ (by omega) (by omega) Cc.out).mono ?_); rintro e w5 ⟨⟨x, rfl, hx0, hx1⟩, hc5, hgb5⟩; have hwx : IntKind.i64.wrap (1 + x) = 1 + x := IntWalk.i64_in _ (by omega); replace Xm := Lib.hid (Xm.out.grown hgb5 hgbg); replace Oo := Lib.hid (Oo.out.drawn hgb5 hgW); replace Ee := Lib.hid (Ee.out.grown Hl.out hgb5 hGg); replace Ne := Lib.hid (Ne.out.drawn hgb5 hgW); replace Cc := Lib.hid hc5; replace Gg := Lib.hid (grownBy_trans Gg.out hgb5); replace Hl := Lib.hid (Nat.lt_of_lt_of_le Hl.out hgb5.size); clear ea0 ea1 ea2 em2; obtain ⟨fa0, fa1, fa2⟩ := Ee.out; have fm2 := box_cell2 Xm; clear hc5 hgb5) | (go_at_call 39; (with_reducible refine (spec_ratOf (1 + x) 2 _ (by omega) (by omega)).mono ?_); rintro e w6 ⟨s, l, v6, d6, u6, rfl, hq6, q1, q2, hap6, hb6⟩; obtain ⟨A6, c6, rfl⟩ := own_slice q1.2; obtain ⟨B6, e6, rfl⟩ := own_slice q2.2; have HPo : Hid (Pos20 ⟨s, l, d6⟩) := pos_of hq6 (by omega) (by omega); have KQ : Hid (ROk s l d6) := (by obtain ⟨_, _, hsm⟩ := HPo.out; exact hsm.ok); have GQ : Hid (GRat s l d6) := .inl KQ.out; have hl6 : l.length ≤ 24 := KQ.out.2.2.2.2.1; have hd6 : d6.length ≤ 24 := KQ.out.2.2.2.2.2; have Nq1 := Lib.hid q1.2; have Nq2 := Lib.hid q2.2; replace Xm := Lib.hid (Xm.out.below hb6 Xm.out.lt); replace Oo := Lib.hid (Oo.out.below hb6); replace Ee := Lib.hid (Ee.out.below Hl.out hb6); replace Ne := Lib.hid (Ne.out.belowD hb6); replace Cc := Lib.hid (Cc.out.below hb6); replace Gg := Lib.hid (gb_below Gg.out hb6); replace Hl := Lib.hid (Nat.lt_of_lt_of_le Hl.out hb6.size); clear fa0 fa1 fa2 fm2 hwx; obtain ⟨ga0, ga1, ga2⟩ := Ee.out; have gm2 := box_cell2 Xm; clear hq6 q1 q2 hap6 hb6) | (go_at_call 38; have T1 := in_gr hx24 GR.out.nr Ne.out.1; have R1 := room_own Ne.out.1; have T2 := in_gr hd24 GR.out.dr Ne.out.2.1; have R2 := room_own Ne.out.2.1; have T3 := in_gr hl6 GQ.out.nr Nq1.out; have R3 := room_own Nq1.out; have T4 := in_gr hd6 GQ.out.dr Nq2.out; have R4 := room_own Nq2.out; (with_reducible refine (spec_l04AddG r.g A3 r.xs.length c3 r.xs B3 r.ds.length d3 r.ds s A6 l.length c6 l B6 d6.length e6 d6 _ T1 R1 T2 R2 T3 R3 T4 R4 GR.out GQ.out).mono ?_); rintro e w7 ⟨g7, r7, v7, x7, u7, rfl, hq7, q1, q2, hap7, hb7⟩; obtain ⟨A7, c7, rfl⟩ := own_slice q1.2; obtain ⟨B7, e7, rfl⟩ := own_slice q2.2; have HQ7 : Hid (RD.mk g7 r7 x7 = radd r ⟨s, l, d6⟩) := radd_of (r := r) (s := ⟨s, l, d6⟩) hq7; have he0 : (El.mk g7 (.slice A7 r7.length c7) r7.length (r7.map (.int .i64)) (.slice B7 x7.length e7) x7.length (x7.map (.int .i64))).own w7 _ := ⟨q1.2, q2.2, hap7⟩; have Ff := Lib.hid (Oo.out.far_new he0 (Nat.le_refl _)); have Nn := Lib.hid (he0.lower Gg.out.size); have HH : Hid (Has _ (addD p (ds ++ [⟨s, l, d6⟩]) (i + 1))) := Lib.hid (has_addD hh.out hdl.out HT.out HRA.out HQ7.out (v := .slice A7 r7.length c7) (u := .slice B7 x7.length e7)); replace Xm := Lib.hid (Xm.out.below hb7 Xm.out.lt); replace Oo := Lib.hid (Oo.out.below hb7); replace Cc := Lib.hid (Cc.out.below hb7); replace Gg := Lib.hid (gb_below Gg.out hb7); clear ga0 ga1 ga2 gm2; obtain ⟨⟨x0, x1, x2, p0, p1, p2, f0, f1, f2⟩, s1, s2⟩ := store_ownD Oo.out ht9 Nn.out Ff.out; have HO := Lib.hid s1; have hm2 := box_cell2 Xm; have X5 := Lib.hid (Xm.out.set3 (G := G) hneG (t * 3) (t * 3 + 1) (t * 3 + 2) (.bool g7) (.slice A7 r7.length c7) (.slice B7 x7.length e7)); have C5 := Lib.hid (((Cc.out.setCell (p := ⟨G, t * 3, none⟩) (Nat.lt_of_lt_of_le hgW hG1') (.bool g7)).setCell (p := ⟨G, t * 3 + 1, none⟩) (Nat.lt_of_lt_of_le hgW hG1') (.slice A7 r7.length c7)).setCell (p := ⟨G, t * 3 + 2, none⟩) (Nat.lt_of_lt_of_le hgW hG1') (.slice B7 x7.length e7)); have G5 := Lib.hid (gb_set (gb_set (gb_set Gg.out (p := ⟨G, t * 3, none⟩) hG1' (.bool g7)) (p := ⟨G, t * 3 + 1, none⟩) hG1' (.slice A7 r7.length c7)) (p := ⟨G, t * 3 + 2, none⟩) hG1' (.slice B7 x7.length e7)); have Z5 := Lib.hid (Nat.lt_of_lt_of_le Hl.out hb7.size); clear s1 s2 hq7 q1 q2 hap7 hb7 he0 T1 R1 T2 R2 T3 R3 T4 R4))
      all_goals
        go_wp2_with fail
        go_roundw
        case rel => exact ⟨i + 1, ds ++ [⟨s, l, d6⟩], _, by omega, by go_num, (by unfold Hid; rw [List.length_append, hdl.out]; rfl), pos_snoc hdp.out HPo.out, HO, HH, X5, C5, G5, (by simpa using Z5)⟩
        case measure => simp [intOf]; omega
    · obtain rfl : i = 3 := by omega
      have ht_5 := Lib.hid (ht_3.out.grown hGr.out (fun e => by cases e; omega))
      have BW_5 := Lib.hid (BW_3.out.grown hGr.out hsz3 (fun k hk => by cases hk; omega))
      have HSQ : Hid (SymQ 20480000000 (addD p ds 3)) := by rw [HP.out]; exact symQ_of HLa.out HSa.out hdl.out hdp.out
      have HLN : Hid ((addD p ds 3).length = 9) := HSQ.out.length
      have HGD : Hid (Goods (addD p ds 3)) := ⟨by rw [HLN.out]; omega, fun x hx => .inl (HSQ.out.ok x hx)⟩
      have hi1 : ¬ ((3 : Nat) : Int) < 3 := by omega
      have eht0 := ht_5.out.cell 0
      have eht1 := ht_5.out.cell 1
      have eht2 := ht_5.out.cell 2
      have fht0 := ht_5.out.free 0
      have fht1 := ht_5.out.free 1
      have fht2 := ht_5.out.free 2
      simp at eht0 eht1 eht2
      have ex0 := hX.out.cell 0
      have ex1 := hX.out.cell 1
      have ex2 := hX.out.cell 2
      simp at ex0 ex1 ex2
      go_wp2_with fail
      refine bodyPost_ret (v := .agg #[.int .i64 3, .int .i64 3, .slice (some ⟨G, 0, none⟩) 9 c']) (by simp [results, Try.results8, eht0, eht1, eht2, go_sem]) rfl ?_
      exact matEnd_store ht_5.out (by omega) BW_5.out ⟨rfl, rfl, HSQ.out⟩ HGD.out HLN.out ho.out hsz3 hh.out
end Go.Proofs.Ythjbfdifeffilaa
