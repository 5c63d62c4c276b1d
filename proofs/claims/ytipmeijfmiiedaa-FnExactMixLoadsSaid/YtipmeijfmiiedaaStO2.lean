/- A valid member, by the program: connects. -/
import Derived.Test.YtipmeijfmiiedaaStO
import Derived.Test.YtipmeijfmiiedaaMkR
import Derived.Test.YtipmeijfmiiedaaTA
namespace Go.Proofs.Ytipmeijfmiiedaa
set_option maxRecDepth 100000
open Go.RowKit

/-- A member that a structure with these joints may have. -/
def TmOk (js : List JD) (m : MD) : Prop := ∃ p q ja jb, m.a = ((p : Nat) : Int) ∧ m.b = ((q : Nat) : Int) ∧ js[p]? = some ja ∧ js[q]? = some jb ∧ (1 ≤ m.k ∧ m.k ≤ 3) ∧ ¬ (ja.x = jb.x ∧ ja.y = jb.y) ∧ ¬ (ja.fixed = true ∧ jb.fixed = true)
def TOk (js : List JD) (ms : List MD) : Prop := JsOk js ∧ ms.length ≤ 8 ∧ ∀ m ∈ ms, TmOk js m
theorem isIndex_yes (i n : Int) (w : World) (h : 0 ≤ i) (h' : i < n) : Calls Try.prog 52 #[.int .i64 i, .int .i64 n] w fun e w' => e = .returned (.bool true) ∧ w' = w := by
  go_enter Try.func52, Try.ntmps52
  go_wp2_with fail
  go_ret
  exact ⟨rfl, rfl⟩
theorem isIndex_no (i n : Int) (w : World) (h : ¬ (0 ≤ i ∧ i < n)) : Calls Try.prog 52 #[.int .i64 i, .int .i64 n] w fun e w' => e = .returned (.bool false) ∧ w' = w := by
  by_cases h1 : 0 ≤ i
  · have h2 : ¬ i < n := fun q => h ⟨h1, q⟩
    clear h
    go_enter Try.func52, Try.ntmps52
    go_wp2_with fail
    go_ret
    exact ⟨rfl, rfl⟩
  · clear h
    go_enter Try.func52, Try.ntmps52
    go_wp2_with fail
    go_ret
    exact ⟨rfl, rfl⟩
section
variable {w : World} {g G b o : Nat} {t : TypeId} {cs : Array Value} {v0 v1 v2 v3 : Value} {j : JD}
theorem box_far4 (h : Box w g t cs) (hne : g ≠ G) (u0 u1 u2 u3 : Value) : Box ((((w.setCell ⟨G, 0, none⟩ u0).setCell ⟨G, 1, none⟩ u1).setCell ⟨G, 2, none⟩ u2).setCell ⟨G, 3, none⟩ u3) g t cs :=
  (((h.far (p := ⟨G, 0, none⟩) hne u0).far (p := ⟨G, 1, none⟩) hne u1).far (p := ⟨G, 2, none⟩) hne u2).far (p := ⟨G, 3, none⟩) hne u3
theorem box_set4 {a0 a1 a2 a3 : Value} (h : Hid (Box w g t #[a0, a1, a2, a3])) (u0 u1 u2 u3 : Value) : Box ((((w.setCell ⟨g, 0, none⟩ u0).setCell ⟨g, 1, none⟩ u1).setCell ⟨g, 2, none⟩ u2).setCell ⟨g, 3, none⟩ u3) g t #[u0, u1, u2, u3] := by
  simpa using (((h.out.set_ 0 u0).set_ 1 u1).set_ 2 u2).set_ 3 u3
theorem atJ_far4 (h : AtJ w b o j) (hne : b ≠ G) (u0 u1 u2 u3 : Value) : AtJ ((((w.setCell ⟨G, 0, none⟩ u0).setCell ⟨G, 1, none⟩ u1).setCell ⟨G, 2, none⟩ u2).setCell ⟨G, 3, none⟩ u3) b o j := by
  have hh : ((((w.setCell ⟨G, 0, none⟩ u0).setCell ⟨G, 1, none⟩ u1).setCell ⟨G, 2, none⟩ u2).setCell ⟨G, 3, none⟩ u3).heap[b]? = w.heap[b]? := (Below.heap_setCell _ _ _ b hne).trans ((Below.heap_setCell _ _ _ b hne).trans ((Below.heap_setCell _ _ _ b hne).trans (Below.heap_setCell _ _ _ b hne)))
  have key : ∀ k v, w.cell? ⟨b, k, none⟩ = some v → ((((w.setCell ⟨G, 0, none⟩ u0).setCell ⟨G, 1, none⟩ u1).setCell ⟨G, 2, none⟩ u2).setCell ⟨G, 3, none⟩ u3).cell? ⟨b, k, none⟩ = some v := fun k v hv => (World.cell?_of_block (a := ⟨b, k, none⟩) hh).trans hv
  exact ⟨key _ _ h.1, key _ _ h.2.1, key _ _ h.2.2.1, key _ _ h.2.2.2⟩
theorem held10 {a0 a1 a2 : Value} {p q : Nat} {s s' : ByteArray} {x y x' y' : Int} {f f' : Bool} (h : Hid (Box w g t #[a0, a1, a2])) (h1 : Hid (AtJ w b (o + p * 4) ⟨s, x, y, f⟩)) (h2 : Hid (AtJ w b (o + q * 4) ⟨s', x', y', f'⟩)) :
    w.cell? ⟨g, 0, none⟩ = some a0 ∧ w.cell? ⟨g, 1, none⟩ = some a1 ∧ w.cell? ⟨b, o + p * 4, none⟩ = some (.string s) ∧ w.cell? ⟨b, o + p * 4 + 1, none⟩ = some (.int .i64 x) ∧ w.cell? ⟨b, o + p * 4 + 2, none⟩ = some (.int .i64 y) ∧ w.cell? ⟨b, o + p * 4 + 3, none⟩ = some (.bool f) ∧
      w.cell? ⟨b, o + q * 4, none⟩ = some (.string s') ∧ w.cell? ⟨b, o + q * 4 + 1, none⟩ = some (.int .i64 x') ∧ w.cell? ⟨b, o + q * 4 + 2, none⟩ = some (.int .i64 y') ∧ w.cell? ⟨b, o + q * 4 + 3, none⟩ = some (.bool f') :=
  ⟨h.out.cell 0, h.out.cell 1, h1.out.1, h1.out.2.1, h1.out.2.2.1, h1.out.2.2.2, h2.out.1, h2.out.2.1, h2.out.2.2.1, h2.out.2.2.2⟩
end
set_option maxHeartbeats 6400000 in
theorem impl_connects (ma mc mk : Int) (A : Option Addr) (n c : Nat) (js : List JD) (w : World) (h : InJ w A n js) (hmk : -9223372036854775808 ≤ mk ∧ mk ≤ 9223372036854775807) :
    Calls Try.prog 76 #[.agg #[.int .i64 ma, .int .i64 mc, .int .i64 mk], .slice A n c] w fun e w' => YesEnd (TmOk js ⟨ma, mc, mk⟩) w w' e := by
  obtain ⟨j0, hj', hy0, hy1, hy2⟩ := info_parts Try.infoJ
  have hm := h.2.1
  have HLN : Hid (js.length = n) := h.1
  obtain ⟨W1, hW⟩ : ∃ W, W = w.alloc (.cells #[.int .i64 ma, .int .i64 mc, .int .i64 mk] 99) := ⟨_, rfl⟩
  have XM : Hid (Box W1 w.heap.size 99 #[.int .i64 ma, .int .i64 mc, .int .i64 mk]) := by rw [hW]; exact Box.new _ _ _
  have BW : Hid (Below w.heap.size w W1) := by rw [hW]; exact (Below.refl _ _).alloc (Nat.le_refl _) _
  have HV := Lib.hid (h.below BW.out)
  have HMK := Lib.hid hmk
  clear h hmk
  go_enter Try.func76, Try.ntmps76
  go_wp2_with fail
  rw [← hW]
  clear hW
  by_cases ha : 0 ≤ ma ∧ ma < (n : Int)
  case neg =>
    have HF : Hid (YesEnd (TmOk js ⟨ma, mc, mk⟩) w W1 (.returned (.bool false))) := yes_no (fun q => ha (by
      obtain ⟨p, q, ja, jb, h1, _, h3, _⟩ := q
      have := (List.getElem?_eq_some_iff.1 h3).1
      have := HLN.out
      simp only at h1
      omega)) BW.out
    refine (isIndex_no ma n _ ha).mono ?_
    rintro e w1 ⟨rfl, rfl⟩
    clear ha
    go_wp2_with fail
    go_ret
    exact HF.out
  refine (isIndex_yes ma n _ ha.1 ha.2).mono ?_
  rintro e w1 ⟨rfl, rfl⟩
  have e1 := XM.out.cell 1
  simp at e1
  go_wp2_with fail
  clear e1
  by_cases hb : 0 ≤ mc ∧ mc < (n : Int)
  case neg =>
    have HF : Hid (YesEnd (TmOk js ⟨ma, mc, mk⟩) w w1 (.returned (.bool false))) := yes_no (fun q => hb (by
      obtain ⟨p, q, ja, jb, _, h2, _, h4, _⟩ := q
      have := (List.getElem?_eq_some_iff.1 h4).1
      have := HLN.out
      simp only at h2
      omega)) BW.out
    refine (isIndex_no mc n _ hb).mono ?_
    rintro e w2 ⟨rfl, rfl⟩
    clear hb ha
    go_wp2_with fail
    go_ret
    exact HF.out
  refine (isIndex_yes mc n _ hb.1 hb.2).mono ?_
  rintro e w2 ⟨rfl, rfl⟩
  have e2 := XM.out.cell 2
  simp at e2
  obtain ⟨p, rfl⟩ : ∃ p : Nat, ma = p := ⟨ma.toNat, by omega⟩
  obtain ⟨q, rfl⟩ : ∃ q : Nat, mc = q := ⟨mc.toNat, by omega⟩
  have hp : p < n := by omega
  have hq : q < n := by omega
  clear ha hb
  go_wp2_with fail
  clear e2
  refine (impl_kindName mk _ HMK.out).mono ?_
  rintro e w3 ⟨r, rfl, hr, hb⟩
  have XM3 := Lib.hid (XM.out.below hb XM.out.lt)
  have HV3 := Lib.hid (HV.out.below hb)
  have BW3 := Lib.hid (BW.out.trans (hb.mono BW.out.size))
  have hrk : r = kindT mk := hr
  clear hb hr
  by_cases hk : 1 ≤ mk ∧ mk ≤ 3
  case neg =>
    have HF : Hid (YesEnd (TmOk js ⟨p, q, mk⟩) w w3 (.returned (.bool false))) := yes_no (fun h => hk (by obtain ⟨_, _, _, _, _, _, _, _, h5, _⟩ := h; exact h5)) BW3.out
    have hre : r = ⟨#[]⟩ := by rw [hrk]; unfold kindT; rw [if_neg (by omega), if_neg (by omega), if_neg (by omega)]
    subst hre
    clear hk hrk
    go_wp2_with fail
    go_ret
    exact HF.out
  have hrne : ¬ r.toList = (⟨#[]⟩ : ByteArray).toList := toList_ne (by
    rw [hrk]
    have h3 : mk = 1 ∨ mk = 2 ∨ mk = 3 := by omega
    rcases h3 with rfl | rfl | rfl <;> decide)
  have hrne2 : r.toList.isEmpty = false := by
    cases h : r.toList with
    | nil => exact absurd (h.trans (by rw [ByteArray.toList_eq])) hrne
    | cons a l => rfl
  clear hrne
  have HK := Lib.hid hk
  clear hk hrk
  go_upto_region 3 with fail
  obtain ⟨wm, rfl⟩ : ∃ q, q = w3 := ⟨_, rfl⟩
  obtain ⟨b1, o1, rfl, hlt1, ⟨s, x, y, f⟩, hj1, hat1, _⟩ := HV3.out.at_ p hp
  obtain ⟨b2, o2, he2, _, ⟨s', x', y', f'⟩, hj2, hat2, _⟩ := HV3.out.at_ q hq
  cases he2
  have HJ1 := Lib.hid hj1
  have HJ2 := Lib.hid hj2
  have hp0 : (0 : Int) ≤ (p : Int) := by omega
  have hp1 : (p : Int) < (n : Int) := by omega
  have hq0 : (0 : Int) ≤ (q : Int) := by omega
  have hq1 : (q : Int) < (n : Int) := by omega
  have hwlt : w.heap.size < wm.heap.size := XM3.out.lt
  go_cut [5, 6] (fun s5 s6 wx => ∃ ga gb : Nat, s5 = .pointer (some ⟨ga, 0, none⟩) ∧ s6 = .pointer (some ⟨gb, 0, none⟩) ∧ Hid (Box wx ga 79 #[.string s, .int .i64 x, .int .i64 y, .bool f]) ∧ Hid (Box wx gb 79 #[.string s', .int .i64 x', .int .i64 y', .bool f']) ∧ Hid (Below wm.heap.size wm wx))
  case first =>
    have XM0 := Lib.hid XM3.out.drew
    have P10 : Hid (AtJ wm.drew b1 (o1 + p * 4) ⟨s, x, y, f⟩) := hat1
    have P20 : Hid (AtJ wm.drew b1 (o1 + q * 4) ⟨s', x', y', f'⟩) := hat2
    have BD : Hid (Below wm.heap.size wm wm.drew) := (Below.refl _ _).drew
    clear XM XM3 hat1 hat2 hj1 hj2 HV HV3 BW BW3 hrne2
    refine wp_region_held_drew (S := (fun w' => w'.cell? ⟨w.heap.size, 0, none⟩ = some (.int .i64 (p : Int)) ∧ w'.cell? ⟨w.heap.size, 1, none⟩ = some (.int .i64 (q : Int)) ∧ w'.cell? ⟨b1, o1 + p * 4, none⟩ = some (.string s) ∧ w'.cell? ⟨b1, o1 + p * 4 + 1, none⟩ = some (.int .i64 x) ∧ w'.cell? ⟨b1, o1 + p * 4 + 2, none⟩ = some (.int .i64 y) ∧ w'.cell? ⟨b1, o1 + p * 4 + 3, none⟩ = some (.bool f) ∧ w'.cell? ⟨b1, o1 + q * 4, none⟩ = some (.string s') ∧ w'.cell? ⟨b1, o1 + q * 4 + 1, none⟩ = some (.int .i64 x') ∧ w'.cell? ⟨b1, o1 + q * 4 + 2, none⟩ = some (.int .i64 y') ∧ w'.cell? ⟨b1, o1 + q * 4 + 3, none⟩ = some (.bool f'))) (by kernel_rfl) ?_ (fun hHeld => ?_)
    · (try dsimp only); (first | with_reducible exact held10 XM3 P13 P23 | with_reducible exact held10 XM2 P12 P22 | with_reducible exact held10 XM1 P11 P21 | with_reducible exact held10 XM0 P10 P20)
    refine wpAnyH_go (i := 0) (d := some 28) (v := ?_) (by kernel_rfl) (by kernel_rfl) (by kernel_rfl) (by kernel_rfl) (fun _ _ _ h => h) (by assumption) ?_ ?_
    rotate_left 1
    · (intro oS hoS wS hSw; obtain rfl := Option.some.inj hoS; (try dsimp only at hSw); go_simp; try with_reducible rfl)
    (try simp only [Act.put, List.setIfInBounds_toArray, List.set_cons_zero, List.set_cons_succ])
    refine wpAnyH_go (i := 1) (d := some 29) (v := ?_) (by kernel_rfl) (by kernel_rfl) (by kernel_rfl) (by kernel_rfl) (fun _ _ _ h => h) (by assumption) ?_ ?_
    rotate_left 1
    · (intro oS hoS wS hSw; obtain rfl := Option.some.inj hoS; (try dsimp only at hSw); go_simp; try with_reducible rfl)
    (try simp only [Act.put, List.setIfInBounds_toArray, List.set_cons_zero, List.set_cons_succ])
    refine wpAnyH_go (i := 2) (d := some 30) (v := ?_) (by kernel_rfl) (by kernel_rfl) (by kernel_rfl) (by kernel_rfl) (fun _ _ _ h => h) (by assumption) ?_ ?_
    rotate_left 1
    · (intro oS hoS wS hSw; obtain rfl := Option.some.inj hoS; (try dsimp only at hSw); go_simp; try with_reducible rfl)
    (try simp only [Act.put, List.setIfInBounds_toArray, List.set_cons_zero, List.set_cons_succ])
    refine wpAnyH_go (i := 3) (d := some 31) (v := ?_) (by kernel_rfl) (by kernel_rfl) (by kernel_rfl) (by kernel_rfl) (fun _ _ _ h => h) (by assumption) ?_ ?_
    rotate_left 1
    · (intro oS hoS wS hSw; obtain rfl := Option.some.inj hoS; (try dsimp only at hSw); go_simp; try with_reducible rfl)
    (try simp only [Act.put, List.setIfInBounds_toArray, List.set_cons_zero, List.set_cons_succ])
    refine wpAnyH_go (i := 4) (d := some 32) (v := ?_) (by kernel_rfl) (by kernel_rfl) (by kernel_rfl) (by kernel_rfl) (fun _ _ _ h => h) (by assumption) ?_ ?_
    rotate_left 1
    · (intro oS hoS wS hSw; obtain rfl := Option.some.inj hoS; (try dsimp only at hSw); go_simp; try with_reducible rfl)
    (try simp only [Act.put, List.setIfInBounds_toArray, List.set_cons_zero, List.set_cons_succ])
    refine wpAnyH_go (i := 5) (d := some 33) (v := ?_) (by kernel_rfl) (by kernel_rfl) (by kernel_rfl) (by kernel_rfl) (fun _ _ _ h => h) (by assumption) ?_ ?_
    rotate_left 1
    · (intro oS hoS wS hSw; obtain rfl := Option.some.inj hoS; (try dsimp only at hSw); go_simp; try with_reducible rfl)
    (try simp only [Act.put, List.setIfInBounds_toArray, List.set_cons_zero, List.set_cons_succ])
    refine wpAnyH_go (i := 6) (d := some 34) (v := ?_) (by kernel_rfl) (by kernel_rfl) (by kernel_rfl) (by kernel_rfl) (fun _ _ _ h => h) (by assumption) ?_ ?_
    rotate_left 1
    · (intro oS hoS wS hSw; obtain rfl := Option.some.inj hoS; (try dsimp only at hSw); go_simp; try with_reducible rfl)
    (try simp only [Act.put, List.setIfInBounds_toArray, List.set_cons_zero, List.set_cons_succ])
    refine wpAnyH_go (i := 7) (d := some 35) (v := ?_) (by kernel_rfl) (by kernel_rfl) (by kernel_rfl) (by kernel_rfl) (fun _ _ _ h => h) (by assumption) ?_ ?_
    rotate_left 1
    · (intro oS hoS wS hSw; obtain rfl := Option.some.inj hoS; (try dsimp only at hSw); go_simp; try with_reducible rfl)
    (try simp only [Act.put, List.setIfInBounds_toArray, List.set_cons_zero, List.set_cons_succ])
    refine wpAnyH_go (i := 8) (d := some 36) (v := ?_) (by kernel_rfl) (by kernel_rfl) (by kernel_rfl) (by kernel_rfl) (fun _ _ _ h => h) (by assumption) ?_ ?_
    rotate_left 1
    · (intro oS hoS wS hSw; obtain rfl := Option.some.inj hoS; (try dsimp only at hSw); go_simp; try with_reducible rfl)
    (try simp only [Act.put, List.setIfInBounds_toArray, List.set_cons_zero, List.set_cons_succ])
    refine wpAnyH_go (i := 9) (d := some 37) (v := ?_) (by kernel_rfl) (by kernel_rfl) (by kernel_rfl) (by kernel_rfl) (fun _ _ _ h => h) (by assumption) ?_ ?_
    rotate_left 1
    · (intro oS hoS wS hSw; obtain rfl := Option.some.inj hoS; (try dsimp only at hSw); go_simp; try with_reducible rfl)
    (try simp only [Act.put, List.setIfInBounds_toArray, List.set_cons_zero, List.set_cons_succ])
    refine wpAnyH_makers (fuel := 2) 2 [10, 11] [5, 6] [0, 1] (fun j => match j with | 0 => RBox 79 (Value.cells (.agg #[.string ByteArray.empty, .int .i64 0, .int .i64 0, .bool false])) | _ => RBox 79 (Value.cells (.agg #[.string ByteArray.empty, .int .i64 0, .int .i64 0, .bool false]))) (by kernel_rfl) (by kernel_rfl) (fun w1 hb1 => held10 (Lib.hid (XM0.out.below hb1 XM0.out.lt)) (Lib.hid (P10.out.below hlt1 hb1)) (Lib.hid (P20.out.below hlt1 hb1))) ?_ ?_ ?_
    · intro j hj lo hi v w1 w2 h1 h2 h3
      match j, hj with
      | 0, _ => exact RBox.keep h1 h3
      | 1, _ => exact RBox.keep h1 h3
    · intro j hj
      match j, hj with
      | 0, _ =>
        intro oS hoS Y wy hby K' hK
        simp only [List.getD_cons_zero, List.getElem?_toArray, List.getElem?_cons_zero, List.getElem?_cons_succ, Option.some.injEq] at hoS
        subst hoS
        exact need_alloc rfl 79 rfl j0 _ hj' hy0 fun v wv hbv hro => hK.out _ _ hbv hro
      | 1, _ =>
        intro oS hoS Y wy hby K' hK
        simp only [List.getD_cons_zero, List.getD_cons_succ, List.getElem?_toArray, List.getElem?_cons_zero, List.getElem?_cons_succ, Option.some.injEq] at hoS
        subst hoS
        exact need_alloc rfl 79 rfl j0 _ hj' hy0 fun v wv hbv hro => hK.out _ _ hbv hro
    · intro D Y LO HI wz hstop hbz hres hdis
      simp only [stopB, List.all_cons, List.all_nil, Bool.and_true, Bool.and_eq_true] at hstop
      obtain ⟨hdone0, hdone1⟩ := hstop
      have hr0 := hres 0 (by decide) hdone0
      have hr1 := hres 1 (by decide) hdone1
      have hd01 := hdis 0 1 (by decide) (by decide) (by decide) hdone0 hdone1
      simp only [leftB, lstB, hdone0, hdone1, if_true, List.getD_cons_zero, List.getD_cons_succ]
      simp only [actB, List.getD_cons_zero, List.getD_cons_succ, Act.put, List.setIfInBounds_toArray, List.set_cons_zero, List.set_cons_succ]
      generalize Y 0 = y0 at hr0 ⊢
      generalize Y 1 = y1 at hr1 ⊢
      clear hres hdis
      obtain ⟨⟨ga, rfl, ha1, ha2, hA⟩, hA1, hA2, hA3⟩ := hr0
      obtain ⟨⟨gb, rfl, hb1, hb2, hB⟩, hB1, hB2, hB3⟩ := hr1
      have hzd : wm.heap.size ≤ wm.drew.heap.size := Nat.le_refl _
      have hab : ga ≠ gb := by omega
      have hza : wm.heap.size ≤ ga := by omega
      have hzb : wm.heap.size ≤ gb := by omega
      have hma : w.heap.size ≠ ga := by omega
      have hmb : w.heap.size ≠ gb := by omega
      have hba' : b1 ≠ ga := by omega
      have hbb' : b1 ≠ gb := by omega
      have XM1 := Lib.hid (XM0.out.below hbz XM0.out.lt)
      have P11 := Lib.hid (P10.out.below hlt1 hbz)
      have P21 := Lib.hid (P20.out.below hlt1 hbz)
      have BZ := Lib.hid (BD.out.trans (hbz.mono BD.out.size))
      have YA0 := Lib.hid hA
      have YB0 := Lib.hid hB
      have XM2 := Lib.hid (box_far4 XM1.out hma (.string s) (.int .i64 x) (.int .i64 y) (.bool f))
      have P12 := Lib.hid (atJ_far4 P11.out hba' (.string s) (.int .i64 x) (.int .i64 y) (.bool f))
      have P22 := Lib.hid (atJ_far4 P21.out hba' (.string s) (.int .i64 x) (.int .i64 y) (.bool f))
      have YB1 := Lib.hid (box_far4 YB0.out (Ne.symm hab) (.string s) (.int .i64 x) (.int .i64 y) (.bool f))
      have YA1 : Hid (Box ((((wz.setCell ⟨ga, 0, none⟩ (.string s)).setCell ⟨ga, 1, none⟩ (.int .i64 x)).setCell ⟨ga, 2, none⟩ (.int .i64 y)).setCell ⟨ga, 3, none⟩ (.bool f)) ga 79 #[.string s, .int .i64 x, .int .i64 y, .bool f]) := by have h := box_set4 (Lib.hid YA0.out) (.string s) (.int .i64 x) (.int .i64 y) (.bool f); exact h
      have XM3 := Lib.hid (box_far4 XM2.out hmb (.string s') (.int .i64 x') (.int .i64 y') (.bool f'))
      have P13 := Lib.hid (atJ_far4 P12.out hbb' (.string s') (.int .i64 x') (.int .i64 y') (.bool f'))
      have P23 := Lib.hid (atJ_far4 P22.out hbb' (.string s') (.int .i64 x') (.int .i64 y') (.bool f'))
      have YA2 := Lib.hid (box_far4 YA1.out hab (.string s') (.int .i64 x') (.int .i64 y') (.bool f'))
      have YB2 : Hid (Box ((((((((wz.setCell ⟨ga, 0, none⟩ (.string s)).setCell ⟨ga, 1, none⟩ (.int .i64 x)).setCell ⟨ga, 2, none⟩ (.int .i64 y)).setCell ⟨ga, 3, none⟩ (.bool f)).setCell ⟨gb, 0, none⟩ (.string s')).setCell ⟨gb, 1, none⟩ (.int .i64 x')).setCell ⟨gb, 2, none⟩ (.int .i64 y')).setCell ⟨gb, 3, none⟩ (.bool f')) gb 79 #[.string s', .int .i64 x', .int .i64 y', .bool f']) := by have h := box_set4 (Lib.hid YB1.out) (.string s') (.int .i64 x') (.int .i64 y') (.bool f'); exact h
      have B2 : Hid (Below wm.heap.size wm ((((((((wz.setCell ⟨ga, 0, none⟩ (.string s)).setCell ⟨ga, 1, none⟩ (.int .i64 x)).setCell ⟨ga, 2, none⟩ (.int .i64 y)).setCell ⟨ga, 3, none⟩ (.bool f)).setCell ⟨gb, 0, none⟩ (.string s')).setCell ⟨gb, 1, none⟩ (.int .i64 x')).setCell ⟨gb, 2, none⟩ (.int .i64 y')).setCell ⟨gb, 3, none⟩ (.bool f'))) := (((((((BZ.out.setCell hza _).setCell hza _).setCell hza _).setCell hza _).setCell hzb _).setCell hzb _).setCell hzb _).setCell hzb _
      have hHeld := held10 XM1 P11 P21
      have ea0 := YA0.out.cell 0
      have ea1 := YA0.out.cell 1
      have ea2 := YA0.out.cell 2
      have ea3 := YA0.out.cell 3
      have fa0 := YA0.out.free 0
      have fa1 := YA0.out.free 1
      have fa2 := YA0.out.free 2
      have fa3 := YA0.out.free 3
      have eb0 := YB1.out.cell 0
      have eb1 := YB1.out.cell 1
      have eb2 := YB1.out.cell 2
      have eb3 := YB1.out.cell 3
      have fb0 := YB1.out.free 0
      have fb1 := YB1.out.free 1
      have fb2 := YB1.out.free 2
      have fb3 := YB1.out.free 3
      simp [Value.cells] at ea0 ea1 ea2 ea3 eb0 eb1 eb2 eb3
      clear hA hB ha1 ha2 hb1 hb2 hA1 hA2 hA3 hB1 hB2 hB3 hd01 hbz
      refine wpAnyH_ready (rs := [12]) (by kernel_rfl) (by simp) ?_
      refine AllReadyH.cons rfl (fun KK hK => ?_) AllReadyH.nil
      go_simp
      refine hK.out _ _ ?_ (fun hHeld => ?_)
      · (try dsimp only); (first | with_reducible exact held10 XM3 P13 P23 | with_reducible exact held10 XM2 P12 P22 | with_reducible exact held10 XM1 P11 P21 | with_reducible exact held10 XM0 P10 P20)
      clear hK KK
      (try simp only [Act.put, List.setIfInBounds_toArray])
      refine wpAnyH_ready (rs := [13]) (by kernel_rfl) (by simp) ?_
      refine AllReadyH.cons rfl (fun KK hK => ?_) AllReadyH.nil
      go_simp
      refine hK.out _ _ ?_ (fun hHeld => ?_)
      · (try dsimp only); (first | with_reducible exact held10 XM3 P13 P23 | with_reducible exact held10 XM2 P12 P22 | with_reducible exact held10 XM1 P11 P21 | with_reducible exact held10 XM0 P10 P20)
      clear hK KK
      (try simp only [Act.put, List.setIfInBounds_toArray])
      refine wpAnyH_done (by kernel_rfl) ?_ _
      clear ea0 fa0 eb0 fb0 ea1 fa1 eb1 fb1 ea2 fa2 eb2 fb2 ea3 fa3 eb3 fb3
      go_wp2_with fail
      go_meet
      exact ⟨ga, gb, rfl, rfl, YA2, YB2, B2⟩
  obtain ⟨ga, gb, rfl, rfl, YA, YB, B3⟩ := hcut
  obtain ⟨wx, rfl⟩ : ∃ q, q = wc := ⟨_, rfl⟩
  have BX : Hid (Below w.heap.size w wx) := BW3.out.trans (B3.out.mono BW3.out.size)
  have a1 := YA.out.cell 1
  have a2 := YA.out.cell 2
  have a3 := YA.out.cell 3
  have b1' := YB.out.cell 1
  have b2' := YB.out.cell 2
  have b3' := YB.out.cell 3
  simp at a1 a2 a3 b1' b2' b3'
  clear hj1 hj2 hat1 hat2 hrne2
  by_cases hx : x = x'
  case neg =>
    have HXN := Lib.hid hx
    have hxb : (x == x') = false := by simpa using hx
    clear hx
    cases f
    case false =>
      have HF : Hid (YesEnd (TmOk js ⟨p, q, mk⟩) w wx (.returned (.bool true))) := yes_yes ⟨p, q, _, _, rfl, rfl, HJ1.out, HJ2.out, HK.out, (fun h => HXN.out h.1), (fun h => by cases h.1)⟩ BX.out
      go_wp2_with fail
      go_ret
      exact HF.out
    case true =>
      cases f'
      case false =>
        have HF : Hid (YesEnd (TmOk js ⟨p, q, mk⟩) w wx (.returned (.bool true))) := yes_yes ⟨p, q, _, _, rfl, rfl, HJ1.out, HJ2.out, HK.out, (fun h => HXN.out h.1), (fun h => by cases h.2)⟩ BX.out
        go_wp2_with fail
        go_ret
        exact HF.out
      case true =>
        have HF : Hid (YesEnd (TmOk js ⟨p, q, mk⟩) w wx (.returned (.bool false))) := yes_no (fun h => by obtain ⟨p', q', ja, jb, h1, h2, h3, h4, _, h5, h6⟩ := h; (obtain rfl : p = p' := by simp only at h1; omega); (obtain rfl : q = q' := by simp only at h2; omega); rw [HJ1.out] at h3; rw [HJ2.out] at h4; cases h3; cases h4; exact h6 ⟨rfl, rfl⟩) BX.out
        go_wp2_with fail
        go_ret
        exact HF.out
  subst hx
  by_cases hy : y = y'
  case neg =>
    have HYN := Lib.hid hy
    have hyb : (y == y') = false := by simpa using hy
    clear hy
    cases f
    case false =>
      have HF : Hid (YesEnd (TmOk js ⟨p, q, mk⟩) w wx (.returned (.bool true))) := yes_yes ⟨p, q, _, _, rfl, rfl, HJ1.out, HJ2.out, HK.out, (fun h => HYN.out h.2), (fun h => by cases h.1)⟩ BX.out
      go_wp2_with fail
      go_ret
      exact HF.out
    case true =>
      cases f'
      case false =>
        have HF : Hid (YesEnd (TmOk js ⟨p, q, mk⟩) w wx (.returned (.bool true))) := yes_yes ⟨p, q, _, _, rfl, rfl, HJ1.out, HJ2.out, HK.out, (fun h => HYN.out h.2), (fun h => by cases h.2)⟩ BX.out
        go_wp2_with fail
        go_ret
        exact HF.out
      case true =>
        have HF : Hid (YesEnd (TmOk js ⟨p, q, mk⟩) w wx (.returned (.bool false))) := yes_no (fun h => by obtain ⟨p', q', ja, jb, h1, h2, h3, h4, _, h5, h6⟩ := h; (obtain rfl : p = p' := by simp only at h1; omega); (obtain rfl : q = q' := by simp only at h2; omega); rw [HJ1.out] at h3; rw [HJ2.out] at h4; cases h3; cases h4; exact h6 ⟨rfl, rfl⟩) BX.out
        go_wp2_with fail
        go_ret
        exact HF.out
  subst hy
  have HF : Hid (YesEnd (TmOk js ⟨p, q, mk⟩) w wx (.returned (.bool false))) := yes_no (fun h => by obtain ⟨p', q', ja, jb, h1, h2, h3, h4, _, h5, h6⟩ := h; (obtain rfl : p = p' := by simp only at h1; omega); (obtain rfl : q = q' := by simp only at h2; omega); rw [HJ1.out] at h3; rw [HJ2.out] at h4; cases h3; cases h4; exact h5 ⟨rfl, rfl⟩) BX.out
  go_wp2_with fail
  go_ret
  exact HF.out
end Go.Proofs.Ytipmeijfmiiedaa
