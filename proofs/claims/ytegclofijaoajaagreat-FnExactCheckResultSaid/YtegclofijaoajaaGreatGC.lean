/- Contracts of the model's big integers: valid or not, from and to int, the negative. -/
import Derived.Test.YtegclofijaoajaaGreatGB
import Derived.Test.YtegclofijaoajaaGreatGN
import Derived.Test.YtegclofijaoajaaGreatGI
import Derived.Test.YtegclofijaoajaaGreatGJ
namespace Go.Proofs.YtegclofijaoajaaGreat
set_option maxRecDepth 100000
open Go.RowKit

def BOkEnd (g : Bool) (xs : List Int) (e : Ending) : Prop := ∃ b, e = .returned (.bool b) ∧ BigIntOkIs g xs b
set_option maxHeartbeats 400000 in
theorem spec_bigOk' (g : Bool) (A : Option Addr) (n c : Nat) (xs : List Int) (w : World) (h : InI w A n xs) :
    Calls Tryz.prog 223 #[.agg #[.bool g, .slice A n c]] w fun e w' => BOkEnd g xs e ∧ Below w.heap.size w w' := by
  have H := Lib.hid h
  have hn := h.2.1
  clear h
  have con := fun (x : Value) (t : TypeId) => spec_natOk' A n c xs (w.alloc (.cells #[.bool g, x] t)) (H.out.below ((Below.refl _ _).alloc (Nat.le_refl _) _))
  have Con := Lib.hid con
  clear con
  have HF0 := Lib.hid (fun b (hb : NatOkIs xs b) => bigOk_mk (g := g) hb H.out.1)
  by_cases h0 : 0 < n
  all_goals
    cases g
    all_goals
      go_enter Tryz.func223, Tryz.ntmps223
      go_wp2_with fail
      refine (Con.out _ _).mono ?_
      rintro e w1 ⟨⟨b, rfl, hb⟩, rfl⟩
      have HF := Lib.hid (HF0.out _ hb)
      clear hb
      cases b
      all_goals
        go_wp2_with fail
        go_ret
        exact ⟨⟨_, rfl, by have := HF.out; simpa [h0] using this⟩, (Below.refl _ _).alloc (Nat.le_refl _) _⟩
/-- What a function that hands back a big integer ends in. -/
def BigEnd (Q : Bool → List Int → Prop) (w w' : World) (e : Ending) : Prop := ∃ g r v, e = .returned (.agg #[.bool g, v]) ∧ Q g r ∧ ResI w w' v r ∧ Below w.heap.size w w'
theorem bigEnd_zero {Q : Bool → List Int → Prop} {w w' : World} (h : Q false []) (hb : Below w.heap.size w w') : BigEnd Q w w' (.returned (.agg #[.bool false, .slice none 0 0])) :=
  ⟨false, [], _, rfl, h, ⟨by simp, World.ownsRow_nil _ _ _ _⟩, hb⟩
set_option maxHeartbeats 800000 in
theorem spec_bigOf' (n : Int) (w : World) (hn : -9223372036854775808 ≤ n ∧ n ≤ 9223372036854775807) :
    Calls Tryz.prog 163 #[.int .i64 n] w fun e w' => BigEnd (BigIntOfIs n) w w' e := by
  obtain ⟨hn0, hn1⟩ := hn
  have hbox := Lib.hid (Box.new w 32 #[.bool false, .slice none 0 0])
  have hbw := Lib.hid ((Below.refl w.heap.size w).alloc (Nat.le_refl _) (.cells #[.bool false, .slice none 0 0] 32))
  by_cases hmin : n = -9223372036854775808
  · have hr : Hid (Reads ((w.alloc (.cells #[.bool false, .slice none 0 0] 32)).alloc (.cells #[.int .i64 854775808, .int .i64 223372036, .int .i64 9] 3)) (some ⟨w.heap.size + 1, 0, none⟩) ([854775808, 223372036, 9].map (.int .i64))) :=
      .inr ⟨w.heap.size + 1, 0, rfl, by simp, by have := cells_new (w.alloc (.cells #[.bool false, .slice none 0 0] 32)) [.int .i64 854775808, .int .i64 223372036, .int .i64 9] 3; simpa using this⟩
    have hfin : Hid (∀ r, (∃ l, Canon l ∧ val l = val [854775808, 223372036, 9] ∧ r = cap l) → BigIntOfIs n (sgn true r) r) := fun r h => make_rep h (by rw [hmin]; decide) (fun _ => by rw [hmin]; decide)
    have hmb : (n == -9223372036854775808) = true := by rw [hmin]; decide
    have hin : Hid (InR [854775808, 223372036, 9]) := by intro d hd; simp at hd; omega
    clear hmin
    go_enter Tryz.func163, Tryz.ntmps163
    go_wp2_with fail
    refine (spec_make true (some ⟨w.heap.size + 1, 0, none⟩) 3 3 [854775808, 223372036, 9] _ rfl (by decide) ⟨Nat.le_refl _, fun h => by cases h⟩ hr.out hin.out).mono ?_
    rintro e w2 ⟨r, v, rfl, hm, ⟨hl, ho⟩, hb⟩
    obtain ⟨N, hN⟩ : ∃ N, N = r.length := ⟨_, rfl⟩
    rw [← hN] at hl ho
    obtain ⟨A1, c1, rfl⟩ := own_slice ho
    obtain ⟨e0, e1, f0, f1, hfn⟩ := tail_facts (g := w.heap.size) (hbox.out.alloc (.cells #[.int .i64 854775808, .int .i64 223372036, .int .i64 9] 3)) hb (hbw.out.alloc hbw.out.size _) (by omega) ho
    simp at e0 e1
    have HQ := Lib.hid (hfin.out r hm)
    obtain ⟨s, hs⟩ : ∃ s, s = sgn true r := ⟨_, rfl⟩
    rw [← hs] at HQ ⊢
    have HO := Lib.hid (hfn (.bool s) (.slice A1 N c1))
    have HN := Lib.hid hN
    have HL := Lib.hid hl
    clear hs ho hb hN hfn hl
    go_wp2_with fail
    refine bodyPost_ret (v := .agg #[.bool s, .slice A1 N c1]) (by simp [results, Tryz.results163, e0, e1, go_sem]) rfl ?_
    exact ⟨s, r, _, rfl, HQ.out, ⟨by rw [← HN.out]; exact HL.out, by rw [← HN.out]; exact HO.out.1⟩, HO.out.2⟩
  have hmb : (n == -9223372036854775808) = false := by simpa using hmin
  have hlo : -9223372036854775807 ≤ n := by omega
  clear hmin
  by_cases hneg : n < 0
  · go_enter Tryz.func163, Tryz.ntmps163
    go_wp2_with fail
    refine (spec_natOf (-n) _ ⟨by omega, by omega⟩).mono ?_
    rintro e w1 ⟨rs, v0, rfl, hof, ⟨hl0, ho0⟩, hb0⟩
    have hbx1 := Lib.hid (hbox.out.below hb0 (by simp))
    have hbw1 := Lib.hid (hbw.out.trans (hb0.mono hbw.out.size))
    have hin := Lib.hid hof.1.1
    have hfin := Lib.hid (fun r hm => of_neg (r := r) hneg hof hm)
    obtain ⟨M, hM⟩ : ∃ M, M = rs.length := ⟨_, rfl⟩
    rw [← hM] at hl0 ho0
    obtain ⟨A0, c0, rfl⟩ := own_slice ho0
    have HO0 := Lib.hid ho0
    have HM := Lib.hid hM
    clear hof ho0 hb0 hM
    go_wp2_with fail
    refine (spec_make true A0 M c0 rs _ HM.out.symm hl0 (room_own HO0.out) (Reads.of_own HO0.out) hin.out).mono ?_
    rintro e w2 ⟨r, v, rfl, hm, ⟨hl, ho⟩, hb⟩
    obtain ⟨N, hN⟩ : ∃ N, N = r.length := ⟨_, rfl⟩
    rw [← hN] at hl ho
    obtain ⟨A1, c1, rfl⟩ := own_slice ho
    obtain ⟨e0, e1, f0, f1, hfn⟩ := tail_facts (g := w.heap.size) (hbx1.out) hb (hbw1.out) (by omega) ho
    simp at e0 e1
    have HQ := Lib.hid (hfin.out r hm)
    obtain ⟨s, hs⟩ : ∃ s, s = sgn true r := ⟨_, rfl⟩
    rw [← hs] at HQ ⊢
    have HO := Lib.hid (hfn (.bool s) (.slice A1 N c1))
    have HN := Lib.hid hN
    have HL := Lib.hid hl
    clear hs ho hb hN hfn hl
    go_wp2_with fail
    refine bodyPost_ret (v := .agg #[.bool s, .slice A1 N c1]) (by simp [results, Tryz.results163, e0, e1, go_sem]) rfl ?_
    exact ⟨s, r, _, rfl, HQ.out, ⟨by rw [← HN.out]; exact HL.out, by rw [← HN.out]; exact HO.out.1⟩, HO.out.2⟩
  · go_enter Tryz.func163, Tryz.ntmps163
    go_wp2_with fail
    refine (spec_natOf n _ ⟨by omega, by omega⟩).mono ?_
    rintro e w1 ⟨rs, v0, rfl, hof, ⟨hl0, ho0⟩, hb0⟩
    have hbx1 := Lib.hid (hbox.out.below hb0 (by simp))
    have hbw1 := Lib.hid (hbw.out.trans (hb0.mono hbw.out.size))
    have hin := Lib.hid hof.1.1
    have hfin := Lib.hid (fun r hm => of_pos (r := r) (by omega) hof hm)
    obtain ⟨M, hM⟩ : ∃ M, M = rs.length := ⟨_, rfl⟩
    rw [← hM] at hl0 ho0
    obtain ⟨A0, c0, rfl⟩ := own_slice ho0
    have HO0 := Lib.hid ho0
    have HM := Lib.hid hM
    clear hof ho0 hb0 hM
    go_wp2_with fail
    refine (spec_make false A0 M c0 rs _ HM.out.symm hl0 (room_own HO0.out) (Reads.of_own HO0.out) hin.out).mono ?_
    rintro e w2 ⟨r, v, rfl, hm, ⟨hl, ho⟩, hb⟩
    obtain ⟨N, hN⟩ : ∃ N, N = r.length := ⟨_, rfl⟩
    rw [← hN] at hl ho
    obtain ⟨A1, c1, rfl⟩ := own_slice ho
    obtain ⟨e0, e1, f0, f1, hfn⟩ := tail_facts (g := w.heap.size) (hbx1.out) hb (hbw1.out) (by omega) ho
    simp at e0 e1
    have HQ := Lib.hid (hfin.out r hm)
    obtain ⟨s, hs⟩ : ∃ s, s = sgn false r := ⟨_, rfl⟩
    rw [← hs] at HQ ⊢
    have HO := Lib.hid (hfn (.bool s) (.slice A1 N c1))
    have HN := Lib.hid hN
    have HL := Lib.hid hl
    clear hs ho hb hN hfn hl
    go_wp2_with fail
    refine bodyPost_ret (v := .agg #[.bool s, .slice A1 N c1]) (by simp [results, Tryz.results163, e0, e1, go_sem]) rfl ?_
    exact ⟨s, r, _, rfl, HQ.out, ⟨by rw [← HN.out]; exact HL.out, by rw [← HN.out]; exact HO.out.1⟩, HO.out.2⟩
def BToIntEnd (g : Bool) (xs : List Int) (e : Ending) : Prop := ∃ v b, e = .returned (.tuple #[.int .i64 v, .bool b]) ∧ BigIntToIntIs g xs v b

end Go.Proofs.YtegclofijaoajaaGreat
namespace Go.Proofs.YtegclofijaoajaaGreat
set_option maxRecDepth 100000
open Go.RowKit

/-- What two boxes hold, cell by cell. -/
theorem two_boxes {w : World} {b0 b1 : Nat} {t t' : TypeId} {u0 u1 v0 v1 : Value} (h : Box w b0 t #[u0, u1]) (k : Box w b1 t' #[v0, v1]) :
    w.cell? ⟨b0, 0, none⟩ = some u0 ∧ w.cell? ⟨b0, 1, none⟩ = some u1 ∧ w.cell? ⟨b1, 0, none⟩ = some v0 ∧ w.cell? ⟨b1, 1, none⟩ = some v1 :=
  ⟨h.cell 0, h.cell 1, k.cell 0, k.cell 1⟩
set_option maxHeartbeats 1600000 in
theorem spec_bigAdd (g1 : Bool) (A1 : Option Addr) (n1 c1 : Nat) (xs : List Int) (g2 : Bool) (A2 : Option Addr) (n2 c2 : Nat) (ys : List Int) (w : World) (h1 : InI w A1 n1 xs) (h2 : InI w A2 n2 ys) (k1 : BOk g1 xs) (k2 : BOk g2 ys) :
    Calls Tryz.prog 158 #[.agg #[.bool g1, .slice A1 n1 c1], .agg #[.bool g2, .slice A2 n2 c2]] w fun e w' => BigEnd (BRep (bval g1 xs + bval g2 ys)) w w' e := by
  have hx0_0 := Lib.hid (((by have := Box.new w 32 #[.bool g1, .slice A1 n1 c1]; simpa using this : Box (w.alloc (.cells #[.bool g1, .slice A1 n1 c1] 32)) (w.heap.size) 32 #[.bool g1, .slice A1 n1 c1]).alloc (.cells #[.bool g2, .slice A2 n2 c2] 32)).alloc (.cells #[.bool false, .slice none 0 0] 32))
  have hx1_0 := Lib.hid ((by have := Box.new (w.alloc (.cells #[.bool g1, .slice A1 n1 c1] 32)) 32 #[.bool g2, .slice A2 n2 c2]; simpa using this : Box ((w.alloc (.cells #[.bool g1, .slice A1 n1 c1] 32)).alloc (.cells #[.bool g2, .slice A2 n2 c2] 32)) (w.heap.size + 1) 32 #[.bool g2, .slice A2 n2 c2]).alloc (.cells #[.bool false, .slice none 0 0] 32))
  have hr_0 := Lib.hid (by have := Box.new ((w.alloc (.cells #[.bool g1, .slice A1 n1 c1] 32)).alloc (.cells #[.bool g2, .slice A2 n2 c2] 32)) 32 #[.bool false, .slice none 0 0]; simpa using this : Box (((w.alloc (.cells #[.bool g1, .slice A1 n1 c1] 32)).alloc (.cells #[.bool g2, .slice A2 n2 c2] 32)).alloc (.cells #[.bool false, .slice none 0 0] 32)) (w.heap.size + 1 + 1) 32 #[.bool false, .slice none 0 0])
  have BW_0 := Lib.hid ((((Below.refl w.heap.size w).alloc (by simp) (.cells #[.bool g1, .slice A1 n1 c1] 32)).alloc (by simp) (.cells #[.bool g2, .slice A2 n2 c2] 32)).alloc (by simp; omega) (.cells #[.bool false, .slice none 0 0] 32))
  have hn1 := h1.2.1
  have hn2 := h2.2.1
  have HI1 := Lib.hid (h1.below BW_0.out)
  have HI2 := Lib.hid (h2.below BW_0.out)
  have K1 := Lib.hid k1
  have K2 := Lib.hid k2
  clear h1 h2 k1 k2
  by_cases hg : g1 = g2
  · subst hg
    go_enter Tryz.func158, Tryz.ntmps158
    go_wp2_with fail
    have hx0_1 := Lib.hid hx0_0.out.drew
    have hx1_1 := Lib.hid hx1_0.out.drew
    have hr_1 := Lib.hid hr_0.out.drew
    have BW_1 := Lib.hid BW_0.out.drew
    replace HI1 := Lib.hid HI1.out.drew
    replace HI2 := Lib.hid HI2.out.drew
    go_region_held3 (fun w' => w'.cell? ⟨w.heap.size, 0, none⟩ = some (.bool g1) ∧ w'.cell? ⟨w.heap.size, 1, none⟩ = some (.slice A1 n1 c1) ∧ w'.cell? ⟨w.heap.size + 1, 0, none⟩ = some (.bool g1) ∧ w'.cell? ⟨w.heap.size + 1, 1, none⟩ = some (.slice A2 n2 c2)) (first | exact two_boxes hx0_1.out hx1_1.out | exact two_boxes hx0_2.out hx1_2.out | exact two_boxes hx0_3.out hx1_3.out | exact two_boxes ((hx0_3.out.far (by dsimp only; omega) _).far (by dsimp only; omega) _) ((hx1_3.out.far (by dsimp only; omega) _).far (by dsimp only; omega) _)) (first | (go_at_call 160; refine (spec_make g1 A0 M c0 r0 _ HM.out.symm (by omega) (room_own HO0.out) (Reads.of_own HO0.out) HR0.out).mono ?_; rintro e w2 ⟨r, v, rfl, hm, ⟨hl, ho⟩, hb⟩; obtain ⟨N, hN⟩ : ∃ N, N = r.length := ⟨_, rfl⟩; rw [← hN] at hl ho; obtain ⟨A9, c9, rfl⟩ := own_slice ho; obtain ⟨e0, e1, f0, f1, hfn⟩ := tail_facts (g := w.heap.size + 1 + 1) hr_2.out hb BW_2.out (by omega) ho; simp at e0 e1; have HQ := Lib.hid (add_same K1.out K2.out HV0.out hm); obtain ⟨s, hs⟩ : ∃ s, s = sgn g1 r := ⟨_, rfl⟩; rw [← hs] at HQ ⊢; have HO := Lib.hid (hfn (.bool s) (.slice A9 N c9)); have HN := Lib.hid hN; have HL := Lib.hid hl; have hx0_3 := Lib.hid (hx0_2.out.below hb hx0_2.out.lt); have hx1_3 := Lib.hid (hx1_2.out.below hb hx1_2.out.lt); have BW_3 := Lib.hid (BW_2.out.trans (hb.mono BW_2.out.size)); clear hs ho hb hN hfn hl hm) | (go_at_call 216; refine (spec_add A1 n1 c1 xs A2 n2 c2 ys _ HI1.out HI2.out K1.out.1.1.1 K2.out.1.1.1).mono ?_; rintro e w1 ⟨r0, A0, c0, rfl, hr0, hv0, hl0, ho0, hb⟩; have HR0 := Lib.hid hr0; have HV0 := Lib.hid hv0; clear hr0 hv0; have hx0_2 := Lib.hid (hx0_1.out.below hb hx0_1.out.lt); have hx1_2 := Lib.hid (hx1_1.out.below hb hx1_1.out.lt); have hr_2 := Lib.hid (hr_1.out.below hb hr_1.out.lt); have BW_2 := Lib.hid (BW_1.out.trans (hb.mono BW_1.out.size)); obtain ⟨M, hM⟩ : ∃ N, N = r0.length := ⟨_, rfl⟩; rw [← hM] at hl0 ho0 ⊢; have HO0 := Lib.hid ho0; have HM := Lib.hid hM; clear ho0 hM; clear hb))
    go_wp2_with fail
    refine bodyPost_ret (v := .agg #[.bool s, .slice A9 N c9]) (by simp [results, Tryz.results158, e0, e1, go_sem]) rfl ?_
    exact ⟨s, r, _, rfl, HQ.out, ⟨by rw [← HN.out]; exact HL.out, by rw [← HN.out]; exact HO.out.1⟩, HO.out.2⟩
  · have hq := Lib.hid (bool_ne hg)
    have heq : (g1 == g2) = false := by simpa using hg
    clear hg
    go_enter Tryz.func158, Tryz.ntmps158
    go_wp2_with fail
    refine (spec_cmp A1 n1 c1 xs A2 n2 c2 ys _ HI1.out.canon HI2.out.canon K1.out.1.1 K2.out.1.1).mono ?_
    rintro e w0 ⟨rfl, hb⟩
    have hx0_1 := Lib.hid (hx0_0.out.below hb hx0_0.out.lt)
    have hx1_1 := Lib.hid (hx1_0.out.below hb hx1_0.out.lt)
    have hr_1 := Lib.hid (hr_0.out.below hb hr_0.out.lt)
    have BW_1 := Lib.hid (BW_0.out.trans (hb.mono BW_0.out.size))
    replace HI1 := Lib.hid (HI1.out.below hb)
    replace HI2 := Lib.hid (HI2.out.below hb)
    clear hb
    by_cases hlt : val xs < val ys
    · rw [cmpV_lt hlt]
      have Hlt := Lib.hid hlt
      clear hlt
      have ehx00 := hx0_1.out.cell 0
      have ehx01 := hx0_1.out.cell 1
      have ehx10 := hx1_1.out.cell 0
      have ehx11 := hx1_1.out.cell 1
      have ehr0 := hr_1.out.cell 0
      have ehr1 := hr_1.out.cell 1
      have fhr0 := hr_1.out.free 0
      have fhr1 := hr_1.out.free 1
      simp at ehx00 ehx01 ehx10 ehx11 ehr0 ehr1
      go_wp2_with fail
      clear ehx00 ehx01 ehx10 ehx11 ehr0 fhr0 ehr1 fhr1
      have hx0_2 := Lib.hid hx0_1.out.drew
      have hx1_2 := Lib.hid hx1_1.out.drew
      have hr_2 := Lib.hid hr_1.out.drew
      have BW_2 := Lib.hid BW_1.out.drew
      replace HI1 := Lib.hid HI1.out.drew
      replace HI2 := Lib.hid HI2.out.drew
      go_region_held3 (fun w' => w'.cell? ⟨w.heap.size, 0, none⟩ = some (.bool g1) ∧ w'.cell? ⟨w.heap.size, 1, none⟩ = some (.slice A1 n1 c1) ∧ w'.cell? ⟨w.heap.size + 1, 0, none⟩ = some (.bool g2) ∧ w'.cell? ⟨w.heap.size + 1, 1, none⟩ = some (.slice A2 n2 c2)) (first | exact two_boxes hx0_2.out hx1_2.out | exact two_boxes hx0_3.out hx1_3.out | exact two_boxes hx0_4.out hx1_4.out | exact two_boxes ((hx0_4.out.far (by dsimp only; omega) _).far (by dsimp only; omega) _) ((hx1_4.out.far (by dsimp only; omega) _).far (by dsimp only; omega) _)) (first | (go_at_call 160; refine (spec_make g2 A0 M c0 r0 _ HM.out.symm (by omega) (room_own HO0.out) (Reads.of_own HO0.out) HR0.out).mono ?_; rintro e w2 ⟨r, v, rfl, hm, ⟨hl, ho⟩, hb⟩; obtain ⟨N, hN⟩ : ∃ N, N = r.length := ⟨_, rfl⟩; rw [← hN] at hl ho; obtain ⟨A9, c9, rfl⟩ := own_slice ho; obtain ⟨e0, e1, f0, f1, hfn⟩ := tail_facts (g := w.heap.size + 1 + 1) hr_3.out hb BW_3.out (by omega) ho; simp at e0 e1; have HQ := Lib.hid (add_more hq.out (Int.le_of_lt Hlt.out) HV0.out hm); obtain ⟨s, hs⟩ : ∃ s, s = sgn g2 r := ⟨_, rfl⟩; rw [← hs] at HQ ⊢; have HO := Lib.hid (hfn (.bool s) (.slice A9 N c9)); have HN := Lib.hid hN; have HL := Lib.hid hl; have hx0_4 := Lib.hid (hx0_3.out.below hb hx0_3.out.lt); have hx1_4 := Lib.hid (hx1_3.out.below hb hx1_3.out.lt); have BW_4 := Lib.hid (BW_3.out.trans (hb.mono BW_3.out.size)); clear hs ho hb hN hfn hl hm) | (go_at_call 218; refine (spec_sub A2 n2 c2 ys A1 n1 c1 xs _ HI2.out.canon HI1.out.canon K2.out.1.1 K1.out.1.1 (Int.le_of_lt Hlt.out)).mono ?_; rintro e w1 ⟨r0, A0, c0, rfl, hr0, hv0, hl0, ho0, hb⟩; have HR0 := Lib.hid hr0.1; have HV0 := Lib.hid hv0; clear hr0 hv0; have hx0_3 := Lib.hid (hx0_2.out.below hb hx0_2.out.lt); have hx1_3 := Lib.hid (hx1_2.out.below hb hx1_2.out.lt); have hr_3 := Lib.hid (hr_2.out.below hb hr_2.out.lt); have BW_3 := Lib.hid (BW_2.out.trans (hb.mono BW_2.out.size)); obtain ⟨M, hM⟩ : ∃ N, N = r0.length := ⟨_, rfl⟩; rw [← hM] at hl0 ho0 ⊢; have HO0 := Lib.hid ho0; have HM := Lib.hid hM; clear ho0 hM; clear hb))
      go_wp2_with fail
      refine bodyPost_ret (v := .agg #[.bool s, .slice A9 N c9]) (by simp [results, Tryz.results158, e0, e1, go_sem]) rfl ?_
      exact ⟨s, r, _, rfl, HQ.out, ⟨by rw [← HN.out]; exact HL.out, by rw [← HN.out]; exact HO.out.1⟩, HO.out.2⟩
    · have hcm : 0 ≤ cmpV (val xs) (val ys) := by
        by_cases e : val xs = val ys
        · rw [cmpV_eq e]; omega
        · rw [cmpV_gt (by omega)]; omega
      obtain ⟨cm, hcm2⟩ : ∃ cm, cm = cmpV (val xs) (val ys) := ⟨_, rfl⟩
      have Hle := Lib.hid (Int.not_lt.1 hlt)
      rw [← hcm2] at hcm ⊢
      clear hcm2 hlt
      have ehx00 := hx0_1.out.cell 0
      have ehx01 := hx0_1.out.cell 1
      have ehx10 := hx1_1.out.cell 0
      have ehx11 := hx1_1.out.cell 1
      have ehr0 := hr_1.out.cell 0
      have ehr1 := hr_1.out.cell 1
      have fhr0 := hr_1.out.free 0
      have fhr1 := hr_1.out.free 1
      simp at ehx00 ehx01 ehx10 ehx11 ehr0 ehr1
      go_wp2_with fail
      clear ehx00 ehx01 ehx10 ehx11 ehr0 fhr0 ehr1 fhr1
      have hx0_2 := Lib.hid hx0_1.out.drew
      have hx1_2 := Lib.hid hx1_1.out.drew
      have hr_2 := Lib.hid hr_1.out.drew
      have BW_2 := Lib.hid BW_1.out.drew
      replace HI1 := Lib.hid HI1.out.drew
      replace HI2 := Lib.hid HI2.out.drew
      go_region_held3 (fun w' => w'.cell? ⟨w.heap.size, 0, none⟩ = some (.bool g1) ∧ w'.cell? ⟨w.heap.size, 1, none⟩ = some (.slice A1 n1 c1) ∧ w'.cell? ⟨w.heap.size + 1, 0, none⟩ = some (.bool g2) ∧ w'.cell? ⟨w.heap.size + 1, 1, none⟩ = some (.slice A2 n2 c2)) (first | exact two_boxes hx0_2.out hx1_2.out | exact two_boxes hx0_3.out hx1_3.out | exact two_boxes hx0_4.out hx1_4.out | exact two_boxes ((hx0_4.out.far (by dsimp only; omega) _).far (by dsimp only; omega) _) ((hx1_4.out.far (by dsimp only; omega) _).far (by dsimp only; omega) _)) (first | (go_at_call 160; refine (spec_make g1 A0 M c0 r0 _ HM.out.symm (by omega) (room_own HO0.out) (Reads.of_own HO0.out) HR0.out).mono ?_; rintro e w2 ⟨r, v, rfl, hm, ⟨hl, ho⟩, hb⟩; obtain ⟨N, hN⟩ : ∃ N, N = r.length := ⟨_, rfl⟩; rw [← hN] at hl ho; obtain ⟨A9, c9, rfl⟩ := own_slice ho; obtain ⟨e0, e1, f0, f1, hfn⟩ := tail_facts (g := w.heap.size + 1 + 1) hr_3.out hb BW_3.out (by omega) ho; simp at e0 e1; have HQ := Lib.hid (add_less hq.out Hle.out HV0.out hm); obtain ⟨s, hs⟩ : ∃ s, s = sgn g1 r := ⟨_, rfl⟩; rw [← hs] at HQ ⊢; have HO := Lib.hid (hfn (.bool s) (.slice A9 N c9)); have HN := Lib.hid hN; have HL := Lib.hid hl; have hx0_4 := Lib.hid (hx0_3.out.below hb hx0_3.out.lt); have hx1_4 := Lib.hid (hx1_3.out.below hb hx1_3.out.lt); have BW_4 := Lib.hid (BW_3.out.trans (hb.mono BW_3.out.size)); clear hs ho hb hN hfn hl hm) | (go_at_call 218; refine (spec_sub A1 n1 c1 xs A2 n2 c2 ys _ HI1.out.canon HI2.out.canon K1.out.1.1 K2.out.1.1 Hle.out).mono ?_; rintro e w1 ⟨r0, A0, c0, rfl, hr0, hv0, hl0, ho0, hb⟩; have HR0 := Lib.hid hr0.1; have HV0 := Lib.hid hv0; clear hr0 hv0; have hx0_3 := Lib.hid (hx0_2.out.below hb hx0_2.out.lt); have hx1_3 := Lib.hid (hx1_2.out.below hb hx1_2.out.lt); have hr_3 := Lib.hid (hr_2.out.below hb hr_2.out.lt); have BW_3 := Lib.hid (BW_2.out.trans (hb.mono BW_2.out.size)); obtain ⟨M, hM⟩ : ∃ N, N = r0.length := ⟨_, rfl⟩; rw [← hM] at hl0 ho0 ⊢; have HO0 := Lib.hid ho0; have HM := Lib.hid hM; clear ho0 hM; clear hb))
      go_wp2_with fail
      refine bodyPost_ret (v := .agg #[.bool s, .slice A9 N c9]) (by simp [results, Tryz.results158, e0, e1, go_sem]) rfl ?_
      exact ⟨s, r, _, rfl, HQ.out, ⟨by rw [← HN.out]; exact HL.out, by rw [← HN.out]; exact HO.out.1⟩, HO.out.2⟩



end Go.Proofs.YtegclofijaoajaaGreat
namespace Go.Proofs.YtegclofijaoajaaGreat
set_option maxRecDepth 100000
open Go.RowKit

set_option maxHeartbeats 1600000 in
theorem spec_bigCmp (g1 : Bool) (A1 : Option Addr) (n1 c1 : Nat) (xs : List Int) (g2 : Bool) (A2 : Option Addr) (n2 c2 : Nat) (ys : List Int) (w : World) (h1 : InI w A1 n1 xs) (h2 : InI w A2 n2 ys) (k1 : BOk g1 xs) (k2 : BOk g2 ys) :
    Calls Tryz.prog 245 #[.agg #[.bool g1, .slice A1 n1 c1], .agg #[.bool g2, .slice A2 n2 c2]] w fun e w' => e = .returned (.int .i64 (cmpV (bval g1 xs) (bval g2 ys))) ∧ Below w.heap.size w w' := by
  have HI1 := h1
  have HI2 := h2
  cases g1 <;> cases g2
  · clear HI1 HI2
    have hx0_0 := Lib.hid ((by have := Box.new w 32 #[.bool false, .slice A1 n1 c1]; simpa using this : Box (w.alloc (.cells #[.bool false, .slice A1 n1 c1] 32)) (w.heap.size) 32 #[.bool false, .slice A1 n1 c1]).alloc (.cells #[.bool false, .slice A2 n2 c2] 32))
    have hx1_0 := Lib.hid (by have := Box.new (w.alloc (.cells #[.bool false, .slice A1 n1 c1] 32)) 32 #[.bool false, .slice A2 n2 c2]; simpa using this : Box ((w.alloc (.cells #[.bool false, .slice A1 n1 c1] 32)).alloc (.cells #[.bool false, .slice A2 n2 c2] 32)) (w.heap.size + 1) 32 #[.bool false, .slice A2 n2 c2])
    have BW_0 := Lib.hid (((Below.refl w.heap.size w).alloc (by simp) (.cells #[.bool false, .slice A1 n1 c1] 32)).alloc (by simp) (.cells #[.bool false, .slice A2 n2 c2] 32))
    have HI1 := Lib.hid (h1.below BW_0.out)
    have HI2 := Lib.hid (h2.below BW_0.out)
    have K1 := Lib.hid k1
    have K2 := Lib.hid k2
    clear h1 h2 k1 k2
    go_enter Tryz.func245, Tryz.ntmps245
    go_wp2_with fail
    refine (spec_cmp A1 n1 c1 xs A2 n2 c2 ys _ HI1.out.canon HI2.out.canon K1.out.1.1 K2.out.1.1).mono ?_
    rintro e w1 ⟨rfl, hb⟩
    have BW_1 := Lib.hid (BW_0.out.trans (hb.mono BW_0.out.size))
    clear hb
    go_wp2_with fail
    go_ret
    exact ⟨rfl, BW_1.out⟩
  · clear HI1 HI2
    have hx0_0 := Lib.hid ((by have := Box.new w 32 #[.bool false, .slice A1 n1 c1]; simpa using this : Box (w.alloc (.cells #[.bool false, .slice A1 n1 c1] 32)) (w.heap.size) 32 #[.bool false, .slice A1 n1 c1]).alloc (.cells #[.bool true, .slice A2 n2 c2] 32))
    have hx1_0 := Lib.hid (by have := Box.new (w.alloc (.cells #[.bool false, .slice A1 n1 c1] 32)) 32 #[.bool true, .slice A2 n2 c2]; simpa using this : Box ((w.alloc (.cells #[.bool false, .slice A1 n1 c1] 32)).alloc (.cells #[.bool true, .slice A2 n2 c2] 32)) (w.heap.size + 1) 32 #[.bool true, .slice A2 n2 c2])
    have BW_0 := Lib.hid (((Below.refl w.heap.size w).alloc (by simp) (.cells #[.bool false, .slice A1 n1 c1] 32)).alloc (by simp) (.cells #[.bool true, .slice A2 n2 c2] 32))
    have hfin : Hid (cmpV (bval false xs) (bval true ys) = 1) := cmpV_gt (by have := k1.nonneg; have := k2.pos; simp only [bval]; simp; omega)
    go_enter Tryz.func245, Tryz.ntmps245
    go_wp2_with fail
    go_ret
    exact ⟨ret_int hfin.out.symm, BW_0.out⟩
  · clear HI1 HI2
    have hx0_0 := Lib.hid ((by have := Box.new w 32 #[.bool true, .slice A1 n1 c1]; simpa using this : Box (w.alloc (.cells #[.bool true, .slice A1 n1 c1] 32)) (w.heap.size) 32 #[.bool true, .slice A1 n1 c1]).alloc (.cells #[.bool false, .slice A2 n2 c2] 32))
    have hx1_0 := Lib.hid (by have := Box.new (w.alloc (.cells #[.bool true, .slice A1 n1 c1] 32)) 32 #[.bool false, .slice A2 n2 c2]; simpa using this : Box ((w.alloc (.cells #[.bool true, .slice A1 n1 c1] 32)).alloc (.cells #[.bool false, .slice A2 n2 c2] 32)) (w.heap.size + 1) 32 #[.bool false, .slice A2 n2 c2])
    have BW_0 := Lib.hid (((Below.refl w.heap.size w).alloc (by simp) (.cells #[.bool true, .slice A1 n1 c1] 32)).alloc (by simp) (.cells #[.bool false, .slice A2 n2 c2] 32))
    have hfin : Hid (cmpV (bval true xs) (bval false ys) = -1) := cmpV_lt (by have := k1.pos; have := k2.nonneg; simp only [bval]; simp; omega)
    go_enter Tryz.func245, Tryz.ntmps245
    go_wp2_with fail
    go_ret
    exact ⟨ret_int hfin.out.symm, BW_0.out⟩
  · clear HI1 HI2
    have hx0_0 := Lib.hid ((by have := Box.new w 32 #[.bool true, .slice A1 n1 c1]; simpa using this : Box (w.alloc (.cells #[.bool true, .slice A1 n1 c1] 32)) (w.heap.size) 32 #[.bool true, .slice A1 n1 c1]).alloc (.cells #[.bool true, .slice A2 n2 c2] 32))
    have hx1_0 := Lib.hid (by have := Box.new (w.alloc (.cells #[.bool true, .slice A1 n1 c1] 32)) 32 #[.bool true, .slice A2 n2 c2]; simpa using this : Box ((w.alloc (.cells #[.bool true, .slice A1 n1 c1] 32)).alloc (.cells #[.bool true, .slice A2 n2 c2] 32)) (w.heap.size + 1) 32 #[.bool true, .slice A2 n2 c2])
    have BW_0 := Lib.hid (((Below.refl w.heap.size w).alloc (by simp) (.cells #[.bool true, .slice A1 n1 c1] 32)).alloc (by simp) (.cells #[.bool true, .slice A2 n2 c2] 32))
    have hfin : Hid (cmpV (bval true xs) (bval true ys) = cmpV (val ys) (val xs)) := cmp_neg _ _
    have HI1 := Lib.hid (h1.below BW_0.out)
    have HI2 := Lib.hid (h2.below BW_0.out)
    have K1 := Lib.hid k1
    have K2 := Lib.hid k2
    clear h1 h2 k1 k2
    go_enter Tryz.func245, Tryz.ntmps245
    go_wp2_with fail
    refine (spec_cmp A2 n2 c2 ys A1 n1 c1 xs _ HI2.out.canon HI1.out.canon K2.out.1.1 K1.out.1.1).mono ?_
    rintro e w1 ⟨rfl, hb⟩
    have BW_1 := Lib.hid (BW_0.out.trans (hb.mono BW_0.out.size))
    clear hb
    go_wp2_with fail
    go_ret
    exact ⟨ret_int hfin.out.symm, BW_1.out⟩

def BCmpEnd (g1 : Bool) (xs : List Int) (g2 : Bool) (ys : List Int) (w w' : World) (e : Ending) : Prop := ∃ r, e = .returned (.int .i64 r) ∧ BigIntCmpIs g1 xs g2 ys r ∧ Below w.heap.size w w'
theorem bcmp_no {g1 g2 : Bool} {xs ys : List Int} {w w' : World} (h : ¬ (BOk g1 xs ∧ BOk g2 ys)) (hb : Below w.heap.size w w') : BCmpEnd g1 xs g2 ys w w' (.returned (.int .i64 0)) := ⟨0, rfl, .inr ⟨h, rfl⟩, hb⟩
theorem bcmp_yes {g1 g2 : Bool} {xs ys : List Int} {w w' : World} {r : Int} (h1 : BOk g1 xs) (h2 : BOk g2 ys) (hr : r = cmpV (bval g1 xs) (bval g2 ys)) (hb : Below w.heap.size w w') : BCmpEnd g1 xs g2 ys w w' (.returned (.int .i64 r)) := ⟨r, rfl, .inl ⟨⟨h1, h2⟩, hr⟩, hb⟩
end Go.Proofs.YtegclofijaoajaaGreat
namespace Go.Proofs.YtegclofijaoajaaGreat
set_option maxRecDepth 100000
open Go.RowKit

/-- What a floor division ends in. -/
def FDivEnd (g : Bool) (xs ms : List Int) (w w' : World) (e : Ending) : Prop := ∃ h q v r u, e = .returned (.tuple #[.agg #[.bool h, v], u]) ∧ BigIntFloorDivIs g xs ms h q r ∧ ResI w w' v q ∧ ResI w w' u r ∧ Apart u v ∧ Below w.heap.size w w'
end Go.Proofs.YtegclofijaoajaaGreat
namespace Go.Proofs.YtegclofijaoajaaGreat
set_option maxRecDepth 100000
open Go.RowKit

theorem box_facts {w : World} {g : Nat} {t : TypeId} {cs : Array Value} (h : Box w g t cs) : Box w g t cs ∧ w.cell? ⟨g, 0, none⟩ = cs[0]? ∧ w.cell? ⟨g, 1, none⟩ = cs[1]? ∧ w.frozen? ⟨g, 0, none⟩ = false ∧ w.frozen? ⟨g, 1, none⟩ = false := ⟨h, h.cell 0, h.cell 1, h.free 0, h.free 1⟩
set_option maxHeartbeats 400000 in
theorem impl_signOf (g : Bool) (A : Option Addr) (n c : Nat) (s : Int) (w : World) (hs : sg g n = s) (_hn : n ≤ 1048576) :
    Calls Tryz.prog 71 #[.agg #[.bool g, .slice A n c]] w fun e w' => e = .returned (.int .i64 s) ∧ Below w.heap.size w w' := by
  cases g
  · by_cases h0 : n = 0
    · have hfin : Hid (0 = s) := by rw [← hs, h0]; rfl
      have ht : ((n : Int) == 0) = true := by simp [h0]
      clear hs h0
      go_enter Tryz.func71, Tryz.ntmps71
      go_wp2_with fail
      go_ret
      exact ⟨ret_int hfin.out, (Below.refl _ _).alloc (Nat.le_refl _) _⟩
    · have hfin : Hid (1 = s) := by unfold Hid; rw [← hs]; simp [sg, h0]
      have ht : ((n : Int) == 0) = false := by simp [h0]
      clear hs h0
      go_enter Tryz.func71, Tryz.ntmps71
      go_wp2_with fail
      go_ret
      exact ⟨ret_int hfin.out, (Below.refl _ _).alloc (Nat.le_refl _) _⟩
  · have hfin : Hid (-1 = s) := by rw [← hs]; rfl
    clear hs
    go_enter Tryz.func71, Tryz.ntmps71
    go_wp2_with fail
    go_ret
    exact ⟨ret_int hfin.out, (Below.refl _ _).alloc (Nat.le_refl _) _⟩

/-- A sign put to limbs: the limbs stay where they lie. -/
def WithEnd (b : Bool) (base : Nat) (A : Option Addr) (n c : Nat) (xs : List Int) (w w' : World) (e : Ending) : Prop :=
  ∃ v, e = .returned (.agg #[.bool (sgn b xs), v]) ∧ (v = .slice A n c ∨ v = .slice none 0 0) ∧ w'.ownsRow base 3 1 v n (xs.map (.int .i64)) ∧ Below w.heap.size w w'
set_option maxHeartbeats 800000 in
theorem impl_withSign (s : Int) (b : Bool) (hs : decide (s = -1) = b) (base : Nat) (A : Option Addr) (n c : Nat) (xs : List Int) (w : World) (hn : xs.length = n) (_hb : n ≤ 4194304) (ho : w.ownsRow base 3 1 (.slice A n c) n (xs.map (.int .i64))) :
    Calls Tryz.prog 238 #[.int .i64 s, .slice A n c] w fun e w' => WithEnd b base A n c xs w w' e := by
  have HO := Lib.hid (ho.alloc (.cells #[.bool false, .slice none 0 0] 32))
  have hr_0 := Lib.hid (by have := Box.new w 32 #[.bool false, .slice none 0 0]; simpa using this : Box (w.alloc (.cells #[.bool false, .slice none 0 0] 32)) (w.heap.size) 32 #[.bool false, .slice none 0 0])
  have BW_0 := Lib.hid ((Below.refl w.heap.size w).alloc (by simp) (.cells #[.bool false, .slice none 0 0] 32))
  by_cases h0 : n = 0
  · have hx := Lib.hid (List.eq_nil_of_length_eq_zero (hn.trans h0))
    have HN := Lib.hid h0
    have ht : ((n : Int) == 0) = true := by simp [h0]
    clear h0 ho hn
    go_enter Tryz.func238, Tryz.ntmps238
    go_wp2_with fail
    refine bodyPost_ret (v := .agg #[.bool false, .slice none 0 0]) (by simp [results, Tryz.results238, go_sem]) rfl ?_
    rw [hx.out, HN.out]
    exact ⟨_, by simp [sgn], .inr rfl, World.ownsRow_nil _ _ _ _, (Below.refl _ _).alloc (Nat.le_refl _) _⟩
  · have ht : ((n : Int) == 0) = false := by simp [h0]
    have hne : xs ≠ [] := fun h => h0 (by rw [← hn, h]; rfl)
    have hq : (s == -1) = b := hs
    have HQ : Hid (sgn b xs = b) := by unfold Hid sgn; simp [hne]
    have HO2 := Lib.hid (fun b => ho.alloc (.cells #[.bool b, .slice A n c] 32))
    clear h0 ho hn hne
    go_enter Tryz.func238, Tryz.ntmps238
    go_wp2_with fail
    refine bodyPost_ret (v := .agg #[.bool b, .slice A n c]) (by simp [results, Tryz.results238, go_sem]) rfl ?_
    exact ⟨_, by rw [HQ.out], .inl rfl, HO2.out _, (Below.refl _ _).alloc (Nat.le_refl _) _⟩

set_option maxHeartbeats 400000 in
theorem impl_bigOk' (g : Bool) (A : Option Addr) (n c : Nat) (xs : List Int) (w : World) (h : InI w A n xs) :
    Calls Tryz.prog 146 #[.agg #[.bool g, .slice A n c]] w fun e w' => BOkEnd g xs e ∧ Below w.heap.size w w' := by
  have H := Lib.hid h
  have hn := h.2.1
  clear h
  have con := fun (x : Value) (t : TypeId) => impl_natOk' A n c xs (w.alloc (.cells #[.bool g, x] t)) (H.out.below ((Below.refl _ _).alloc (Nat.le_refl _) _))
  have Con := Lib.hid con
  clear con
  have HF0 := Lib.hid (fun b (hb : NatOkIs xs b) => bigOk_mk (g := g) hb H.out.1)
  by_cases h0 : 0 < n
  all_goals
    cases g
    all_goals
      go_enter Tryz.func146, Tryz.ntmps146
      go_wp2_with fail
      refine (Con.out _ _).mono ?_
      rintro e w1 ⟨⟨b, rfl, hb⟩, rfl⟩
      have HF := Lib.hid (HF0.out _ hb)
      clear hb
      cases b
      all_goals
        go_wp2_with fail
        go_ret
        exact ⟨⟨_, rfl, by have := HF.out; simpa [h0] using this⟩, (Below.refl _ _).alloc (Nat.le_refl _) _⟩
theorem natOf_ok {n : Int} {r : List Int} (h : NatOfIs n r) (hn : n ≤ 9223372036854775807) : Ok r := by
  refine ⟨h.1, ?_⟩
  have hp : pw 3 = 1000000000000000000000000000 := by decide
  have : r.length ≤ 3 := short_of h.1 (by rw [h.2, hp]; split <;> omega)
  omega
theorem of_pos_i {n : Int} {r : List Int} (hn : 0 ≤ n) (hn1 : n ≤ 9223372036854775807) (h : NatOfIs n r) : BigIntOfIs n (sgn false r) r := by
  have hok := natOf_ok h hn1
  exact of_pos hn h (ok_cap hok)
theorem of_neg_i {n : Int} {a b r : List Int} (hn : n < 0) (hn1 : -9223372036854775808 ≤ n) (ha : NatOfIs (-(n + 1)) a) (hb : NatOfIs 1 b) (h : NatAddIs a b r) : BigIntOfIs n (sgn true r) r := by
  obtain ⟨l, hc, hv, hr⟩ := bin_cap h ⟨natOf_ok ha (by omega), natOf_ok hb (by omega)⟩
  refine make_rep (n := true) ⟨l, hc, rfl, hr⟩ ?_ (fun _ => by simp; omega)
  have e1 := ha.2
  have e2 := hb.2
  rw [if_neg (by omega)] at e2
  rw [hv, e2, e1]; split <;> omega
theorem own_rows {w w1 : World} {v : Value} {r : List Int} (h : ResI w w1 v r) : ∃ A c, v = .slice A r.length c ∧ r.length ≤ 4194304 ∧ w1.ownsRow w.heap.size 3 1 (.slice A r.length c) r.length (r.map (.int .i64)) := by
  obtain ⟨A, c, rfl⟩ := own_slice h.2
  exact ⟨A, c, rfl, h.1, h.2⟩
set_option maxHeartbeats 1600000 in
theorem impl_bigOf' (n : Int) (w : World) (hn : -9223372036854775808 ≤ n ∧ n ≤ 9223372036854775807) :
    Calls Tryz.prog 179 #[.int .i64 n] w fun e w' => BigEnd (BigIntOfIs n) w w' e := by
  obtain ⟨hn0, hn1⟩ := hn
  have hr_0 := Lib.hid (by have := Box.new w 32 #[.bool false, .slice none 0 0]; simpa using this : Box (w.alloc (.cells #[.bool false, .slice none 0 0] 32)) (w.heap.size) 32 #[.bool false, .slice none 0 0])
  have BW_0 := Lib.hid ((Below.refl w.heap.size w).alloc (by simp) (.cells #[.bool false, .slice none 0 0] 32))
  by_cases hneg : n < 0
  · have hge : ¬ 0 ≤ n := by omega
    go_enter Tryz.func179, Tryz.ntmps179
    go_wp2_with fail
    refine (impl_natOf (-(n + 1)) _ ⟨by omega, by omega⟩).mono ?_
    rintro e w1 ⟨ra, v0, rfl, hof, hr0, hb⟩
    have hr_1 := Lib.hid (hr_0.out.below hb hr_0.out.lt)
    have BW_1 := Lib.hid (BW_0.out.trans (hb.mono BW_0.out.size))
    obtain ⟨A0, c0, rfl, hl0, ho0⟩ := own_rows hr0
    have HIa := Lib.hid (in_own (natOf_ok hof (by omega)) ho0)
    have HA := Lib.hid hof
    obtain ⟨M, hM⟩ : ∃ M, M = ra.length := ⟨_, rfl⟩
    rw [← hM] at HIa ⊢
    clear hof hr0 hb ho0 hl0 hM
    go_wp2_with fail
    refine (impl_natOf 1 _ ⟨by omega, by omega⟩).mono ?_
    rintro e w2 ⟨rb, v1, rfl, hof, hr0, hb⟩
    have hr_2 := Lib.hid (hr_1.out.below hb hr_1.out.lt)
    have BW_2 := Lib.hid (BW_1.out.trans (hb.mono BW_1.out.size))
    obtain ⟨A1, c1, rfl, hl0, ho0⟩ := own_rows hr0
    have HIb := Lib.hid (in_own (natOf_ok hof (by omega)) ho0)
    have HIa2 := Lib.hid (HIa.out.below hb)
    have HB := Lib.hid hof
    obtain ⟨M1, hM⟩ : ∃ M, M = rb.length := ⟨_, rfl⟩
    rw [← hM] at HIb ⊢
    clear hof hr0 hb ho0 hl0 hM
    go_wp2_with fail
    refine (impl_natAdd A0 M c0 ra A1 M1 c1 rb _ HIa2.out HIb.out).mono ?_
    rintro e w3 ⟨r, v, rfl, hadd, hres, hb⟩
    have HG := Lib.hid hr_2.out.lt
    have hr_3 := Lib.hid (hr_2.out.below hb hr_2.out.lt)
    have BW_3 := Lib.hid (BW_2.out.trans (hb.mono BW_2.out.size))
    have HQ0 := Lib.hid (of_neg_i hneg hn0 HA.out HB.out hadd)
    clear hadd
    obtain ⟨A2, c2, rfl, hl, ho⟩ := own_rows hres
    have HO := Lib.hid ho
    obtain ⟨N, hN⟩ : ∃ N, N = r.length := ⟨_, rfl⟩
    rw [← hN] at HO hl ⊢
    have HN := Lib.hid hN
    have HL := Lib.hid hl
    clear hres ho hN hb
    go_wp2_with fail
    refine (impl_withSign ((-1)) true (by decide) _ A2 N c2 r _ HN.out.symm HL.out HO.out).mono ?_
    rintro e w4 ⟨v, rfl, hv, ho, hb⟩
    obtain ⟨A9, c9, rfl⟩ : ∃ A c, v = .slice A N c := own_slice ho
    obtain ⟨bx, e0, e1, f0, f1⟩ := box_facts (hr_3.out.below hb hr_3.out.lt)
    simp at e0 e1
    have HV2 := Lib.hid (tail2 (g := w.heap.size) ho (HG.out) (BW_3.out.trans (hb.mono BW_3.out.size)) (by omega))
    obtain ⟨s, hs⟩ : ∃ s, s = sgn true r := ⟨_, rfl⟩
    have HQ := Lib.hid (HQ0.out)
    rw [← hs] at HQ ⊢
    have HV := Lib.hid (HV2.out (.bool s) (.slice A9 N c9))
    clear hs hv ho hb HV2 bx
    go_wp2_with fail
    refine bodyPost_ret (v := .agg #[.bool s, .slice A9 N c9]) (by simp [results, Tryz.results179, e0, e1, go_sem]) rfl ?_
    exact ⟨s, r, _, rfl, HQ.out, ⟨by rw [← HN.out]; exact HL.out, by rw [← HN.out]; exact HV.out.1⟩, HV.out.2⟩
  · have hge : 0 ≤ n := by omega
    go_enter Tryz.func179, Tryz.ntmps179
    go_wp2_with fail
    refine (impl_natOf n _ ⟨by omega, by omega⟩).mono ?_
    rintro e w3 ⟨r, v, rfl, hof, hres, hb⟩
    have HG := Lib.hid hr_0.out.lt
    have hr_3 := Lib.hid (hr_0.out.below hb hr_0.out.lt)
    have BW_3 := Lib.hid (BW_0.out.trans (hb.mono BW_0.out.size))
    have HQ0 := Lib.hid (of_pos_i hge hn1 hof)
    clear hof
    obtain ⟨A2, c2, rfl, hl, ho⟩ := own_rows hres
    have HO := Lib.hid ho
    obtain ⟨N, hN⟩ : ∃ N, N = r.length := ⟨_, rfl⟩
    rw [← hN] at HO hl ⊢
    have HN := Lib.hid hN
    have HL := Lib.hid hl
    clear hres ho hN hb
    go_wp2_with fail
    refine (impl_withSign (1) false (by decide) _ A2 N c2 r _ HN.out.symm HL.out HO.out).mono ?_
    rintro e w4 ⟨v, rfl, hv, ho, hb⟩
    obtain ⟨A9, c9, rfl⟩ : ∃ A c, v = .slice A N c := own_slice ho
    obtain ⟨bx, e0, e1, f0, f1⟩ := box_facts (hr_3.out.below hb hr_3.out.lt)
    simp at e0 e1
    have HV2 := Lib.hid (tail2 (g := w.heap.size) ho (HG.out) (BW_3.out.trans (hb.mono BW_3.out.size)) (by omega))
    obtain ⟨s, hs⟩ : ∃ s, s = sgn false r := ⟨_, rfl⟩
    have HQ := Lib.hid (HQ0.out)
    rw [← hs] at HQ ⊢
    have HV := Lib.hid (HV2.out (.bool s) (.slice A9 N c9))
    clear hs hv ho hb HV2 bx
    go_wp2_with fail
    refine bodyPost_ret (v := .agg #[.bool s, .slice A9 N c9]) (by simp [results, Tryz.results179, e0, e1, go_sem]) rfl ?_
    exact ⟨s, r, _, rfl, HQ.out, ⟨by rw [← HN.out]; exact HL.out, by rw [← HN.out]; exact HV.out.1⟩, HV.out.2⟩
end Go.Proofs.YtegclofijaoajaaGreat
namespace Go.Proofs.YtegclofijaoajaaGreat
set_option maxRecDepth 100000
open Go.RowKit

theorem add_q {s t : Int} {q : Bool} {a b r : List Int} (k1 : SOk s a) (k2 : SOk t b) (hst : s = t) (hq : decide (s = -1) = q) (h : NatAddIs a b r) : BRep (s * val a + t * val b) (sgn q r) r := by
  subst hst hq
  exact add_s k1 k2 (bin_cap h ⟨k1.1, k2.1⟩)
theorem sub_q {s t : Int} {q : Bool} {a b r : List Int} (k1 : SOk s a) (k2 : SOk t b) (hst : ¬ s = t) (hq : decide (s = -1) = q) (hle : val b ≤ val a) (h : NatSubIs a b r) : BRep (s * val a + t * val b) (sgn q r) r := by
  subst hq
  exact sub_s k1 k2 hst hle (bin_cap h ⟨k1.1, k2.1, hle⟩)
theorem sub_q' {s t : Int} {q : Bool} {a b r : List Int} (k1 : SOk s a) (k2 : SOk t b) (hst : ¬ s = t) (hq : decide (t = -1) = q) (hle : val a ≤ val b) (h : NatSubIs b a r) : BRep (s * val a + t * val b) (sgn q r) r := by
  rw [Int.add_comm]
  exact sub_q k2 k1 (fun e => hst e.symm) hq hle h
set_option maxHeartbeats 1600000 in
theorem impl_addSigned (s0 : Int) (A1 : Option Addr) (n1 c1 : Nat) (xs : List Int) (t0 : Int) (A2 : Option Addr) (n2 c2 : Nat) (ys : List Int) (w : World) (h1 : InI w A1 n1 xs) (h2 : InI w A2 n2 ys) (k1 : SOk s0 xs) (k2 : SOk t0 ys) :
    Calls Tryz.prog 256 #[.int .i64 s0, .slice A1 n1 c1, .int .i64 t0, .slice A2 n2 c2] w fun e w' => BigEnd (BRep (s0 * val xs + t0 * val ys)) w w' e := by
  have hr_0 := Lib.hid (by have := Box.new w 32 #[.bool false, .slice none 0 0]; simpa using this : Box (w.alloc (.cells #[.bool false, .slice none 0 0] 32)) (w.heap.size) 32 #[.bool false, .slice none 0 0])
  have BW_0 := Lib.hid ((Below.refl w.heap.size w).alloc (by simp) (.cells #[.bool false, .slice none 0 0] 32))
  have HI1 := Lib.hid (h1.below BW_0.out)
  have HI2 := Lib.hid (h2.below BW_0.out)
  have K1 := Lib.hid k1
  have K2 := Lib.hid k2
  have HS := Lib.hid (rfl : decide (s0 = -1) = decide (s0 = -1))
  obtain ⟨q1, hq1⟩ : ∃ q, decide (s0 = -1) = q := ⟨_, rfl⟩
  obtain ⟨q2, hq2⟩ : ∃ q, decide (t0 = -1) = q := ⟨_, rfl⟩
  have HQ1 := Lib.hid hq1
  have HQ2 := Lib.hid hq2
  clear h1 h2 k1 k2 hq1 hq2 HS
  by_cases hst : s0 = t0
  · have heq : (s0 == t0) = true := by simp [hst]
    have HST := Lib.hid hst
    clear hst
    go_enter Tryz.func256, Tryz.ntmps256
    go_wp2_with fail
    refine (impl_natAdd A1 n1 c1 xs A2 n2 c2 ys _ HI1.out HI2.out).mono ?_
    rintro e w3 ⟨r, v, rfl, hadd, hres, hb⟩
    have HG := Lib.hid hr_0.out.lt
    have hr_1 := Lib.hid (hr_0.out.below hb hr_0.out.lt)
    have BW_1 := Lib.hid (BW_0.out.trans (hb.mono BW_0.out.size))
    have HQ0 := Lib.hid (add_q K1.out K2.out HST.out HQ1.out hadd)
    clear hadd
    obtain ⟨A2, c2, rfl, hl, ho⟩ := own_rows hres
    have HO := Lib.hid ho
    obtain ⟨N, hN⟩ : ∃ N, N = r.length := ⟨_, rfl⟩
    rw [← hN] at HO hl ⊢
    have HN := Lib.hid hN
    have HL := Lib.hid hl
    clear hres ho hN hb
    go_wp2_with fail
    refine (impl_withSign (s0) q1 HQ1.out _ A2 N c2 r _ HN.out.symm HL.out HO.out).mono ?_
    rintro e w4 ⟨v, rfl, hv, ho, hb⟩
    obtain ⟨A9, c9, rfl⟩ : ∃ A c, v = .slice A N c := own_slice ho
    obtain ⟨bx, e0, e1, f0, f1⟩ := box_facts (hr_1.out.below hb hr_1.out.lt)
    simp at e0 e1
    have HV2 := Lib.hid (tail2 (g := w.heap.size) ho (HG.out) (BW_1.out.trans (hb.mono BW_1.out.size)) (by omega))
    obtain ⟨s, hs⟩ : ∃ s, s = sgn q1 r := ⟨_, rfl⟩
    have HQ := Lib.hid (HQ0.out)
    rw [← hs] at HQ ⊢
    have HV := Lib.hid (HV2.out (.bool s) (.slice A9 N c9))
    clear hs hv ho hb HV2 bx
    go_wp2_with fail
    refine bodyPost_ret (v := .agg #[.bool s, .slice A9 N c9]) (by simp [results, Tryz.results256, e0, e1, go_sem]) rfl ?_
    exact ⟨s, r, _, rfl, HQ.out, ⟨by rw [← HN.out]; exact HL.out, by rw [← HN.out]; exact HV.out.1⟩, HV.out.2⟩
  · have heq : (s0 == t0) = false := by simpa using hst
    have HST := Lib.hid hst
    clear hst
    go_enter Tryz.func256, Tryz.ntmps256
    go_wp2_with fail
    refine (impl_cmp A1 n1 c1 xs A2 n2 c2 ys _ HI1.out.canon HI2.out.canon K1.out.1.1 K2.out.1.1).mono ?_
    rintro e w2 ⟨rfl, hb⟩
    have hr_1 := Lib.hid (hr_0.out.below hb hr_0.out.lt)
    have BW_1 := Lib.hid (BW_0.out.trans (hb.mono BW_0.out.size))
    replace HI1 := Lib.hid (HI1.out.below hb)
    replace HI2 := Lib.hid (HI2.out.below hb)
    clear hb
    by_cases hlt : val xs < val ys
    · rw [cmpV_lt hlt]
      have Hlt := Lib.hid (Int.le_of_lt hlt)
      clear hlt
      go_wp2_with fail
      refine (impl_natSub A2 n2 c2 ys A1 n1 c1 xs _ HI2.out HI1.out).mono ?_
      rintro e w3 ⟨r, v, rfl, hadd, hres, hb⟩
      have HG := Lib.hid hr_1.out.lt
      have hr_2 := Lib.hid (hr_1.out.below hb hr_1.out.lt)
      have BW_2 := Lib.hid (BW_1.out.trans (hb.mono BW_1.out.size))
      have HQ0 := Lib.hid (sub_q' K1.out K2.out HST.out HQ2.out Hlt.out hadd)
      clear hadd
      obtain ⟨A2, c2, rfl, hl, ho⟩ := own_rows hres
      have HO := Lib.hid ho
      obtain ⟨N, hN⟩ : ∃ N, N = r.length := ⟨_, rfl⟩
      rw [← hN] at HO hl ⊢
      have HN := Lib.hid hN
      have HL := Lib.hid hl
      clear hres ho hN hb
      go_wp2_with fail
      refine (impl_withSign (t0) q2 HQ2.out _ A2 N c2 r _ HN.out.symm HL.out HO.out).mono ?_
      rintro e w4 ⟨v, rfl, hv, ho, hb⟩
      obtain ⟨A9, c9, rfl⟩ : ∃ A c, v = .slice A N c := own_slice ho
      obtain ⟨bx, e0, e1, f0, f1⟩ := box_facts (hr_2.out.below hb hr_2.out.lt)
      simp at e0 e1
      have HV2 := Lib.hid (tail2 (g := w.heap.size) ho (HG.out) (BW_2.out.trans (hb.mono BW_2.out.size)) (by omega))
      obtain ⟨s, hs⟩ : ∃ s, s = sgn q2 r := ⟨_, rfl⟩
      have HQ := Lib.hid (HQ0.out)
      rw [← hs] at HQ ⊢
      have HV := Lib.hid (HV2.out (.bool s) (.slice A9 N c9))
      clear hs hv ho hb HV2 bx
      go_wp2_with fail
      refine bodyPost_ret (v := .agg #[.bool s, .slice A9 N c9]) (by simp [results, Tryz.results256, e0, e1, go_sem]) rfl ?_
      exact ⟨s, r, _, rfl, HQ.out, ⟨by rw [← HN.out]; exact HL.out, by rw [← HN.out]; exact HV.out.1⟩, HV.out.2⟩
    · have hcm : 0 ≤ cmpV (val xs) (val ys) := by
        by_cases e : val xs = val ys
        · rw [cmpV_eq e]; omega
        · rw [cmpV_gt (by omega)]; omega
      obtain ⟨cm, hcm2⟩ : ∃ cm, cm = cmpV (val xs) (val ys) := ⟨_, rfl⟩
      have Hle := Lib.hid (Int.not_lt.1 hlt)
      rw [← hcm2] at hcm ⊢
      clear hcm2 hlt
      go_wp2_with fail
      refine (impl_natSub A1 n1 c1 xs A2 n2 c2 ys _ HI1.out HI2.out).mono ?_
      rintro e w3 ⟨r, v, rfl, hadd, hres, hb⟩
      have HG := Lib.hid hr_1.out.lt
      have hr_2 := Lib.hid (hr_1.out.below hb hr_1.out.lt)
      have BW_2 := Lib.hid (BW_1.out.trans (hb.mono BW_1.out.size))
      have HQ0 := Lib.hid (sub_q K1.out K2.out HST.out HQ1.out Hle.out hadd)
      clear hadd
      obtain ⟨A2, c2, rfl, hl, ho⟩ := own_rows hres
      have HO := Lib.hid ho
      obtain ⟨N, hN⟩ : ∃ N, N = r.length := ⟨_, rfl⟩
      rw [← hN] at HO hl ⊢
      have HN := Lib.hid hN
      have HL := Lib.hid hl
      clear hres ho hN hb
      go_wp2_with fail
      refine (impl_withSign (s0) q1 HQ1.out _ A2 N c2 r _ HN.out.symm HL.out HO.out).mono ?_
      rintro e w4 ⟨v, rfl, hv, ho, hb⟩
      obtain ⟨A9, c9, rfl⟩ : ∃ A c, v = .slice A N c := own_slice ho
      obtain ⟨bx, e0, e1, f0, f1⟩ := box_facts (hr_2.out.below hb hr_2.out.lt)
      simp at e0 e1
      have HV2 := Lib.hid (tail2 (g := w.heap.size) ho (HG.out) (BW_2.out.trans (hb.mono BW_2.out.size)) (by omega))
      obtain ⟨s, hs⟩ : ∃ s, s = sgn q1 r := ⟨_, rfl⟩
      have HQ := Lib.hid (HQ0.out)
      rw [← hs] at HQ ⊢
      have HV := Lib.hid (HV2.out (.bool s) (.slice A9 N c9))
      clear hs hv ho hb HV2 bx
      go_wp2_with fail
      refine bodyPost_ret (v := .agg #[.bool s, .slice A9 N c9]) (by simp [results, Tryz.results256, e0, e1, go_sem]) rfl ?_
      exact ⟨s, r, _, rfl, HQ.out, ⟨by rw [← HN.out]; exact HL.out, by rw [← HN.out]; exact HV.out.1⟩, HV.out.2⟩
end Go.Proofs.YtegclofijaoajaaGreat
namespace Go.Proofs.YtegclofijaoajaaGreat
set_option maxRecDepth 100000
open Go.RowKit

theorem add_i {g1 g2 h : Bool} {xs ys r : List Int} {s1 s2 : Int} (k1 : BOk g1 xs) (k2 : BOk g2 ys) (e1 : bval g1 xs = s1 * val xs) (e2 : bval g2 ys = s2 * val ys) (q : BRep (s1 * val xs + s2 * val ys) h r) : BigIntAddIs g1 xs g2 ys h r :=
  .inl ⟨⟨k1, k2⟩, by rwa [e1, e2]⟩
theorem mul_i {g1 g2 q : Bool} {xs ys r : List Int} {s1 s2 p : Int} (k1 : BOk g1 xs) (k2 : BOk g2 ys) (s1k : SOk s1 xs) (s2k : SOk s2 ys) (e1 : bval g1 xs = s1 * val xs) (e2 : bval g2 ys = s2 * val ys) (hp : s1 * s2 = p) (hq : decide (p = -1) = q) (h : NatMulIs xs ys r) : BigIntMulIs g1 xs g2 ys (sgn q r) r := by
  subst hq hp
  exact .inl ⟨⟨k1, k2⟩, by rw [e1, e2]; exact mul_s s1k s2k (bin_cap h ⟨k1.1, k2.1⟩)⟩
set_option maxRecDepth 100000 in
set_option maxHeartbeats 1600000 in
theorem impl_bigIntAdd' (g1 : Bool) (A1 : Option Addr) (n1 c1 : Nat) (xs : List Int) (g2 : Bool) (A2 : Option Addr) (n2 c2 : Nat) (ys : List Int) (w : World) (h1 : InI w A1 n1 xs) (h2 : InI w A2 n2 ys) (r1 : Room A1 n1 c1) (r2 : Room A2 n2 c2) :
    Calls Tryz.prog 229 #[.agg #[.bool g1, .slice A1 n1 c1], .agg #[.bool g2, .slice A2 n2 c2]] w fun e w' => BigEnd (BigIntAddIs g1 xs g2 ys) w w' e := by
  have hx0_0 := Lib.hid (((by have := Box.new w 32 #[.bool g1, .slice A1 n1 c1]; simpa using this : Box (w.alloc (.cells #[.bool g1, .slice A1 n1 c1] 32)) (w.heap.size) 32 #[.bool g1, .slice A1 n1 c1]).alloc (.cells #[.bool g2, .slice A2 n2 c2] 32)).alloc (.cells #[.bool false, .slice none 0 0] 32))
  have hx1_0 := Lib.hid ((by have := Box.new (w.alloc (.cells #[.bool g1, .slice A1 n1 c1] 32)) 32 #[.bool g2, .slice A2 n2 c2]; simpa using this : Box ((w.alloc (.cells #[.bool g1, .slice A1 n1 c1] 32)).alloc (.cells #[.bool g2, .slice A2 n2 c2] 32)) (w.heap.size + 1) 32 #[.bool g2, .slice A2 n2 c2]).alloc (.cells #[.bool false, .slice none 0 0] 32))
  have hr_0 := Lib.hid (by have := Box.new ((w.alloc (.cells #[.bool g1, .slice A1 n1 c1] 32)).alloc (.cells #[.bool g2, .slice A2 n2 c2] 32)) 32 #[.bool false, .slice none 0 0]; simpa using this : Box (((w.alloc (.cells #[.bool g1, .slice A1 n1 c1] 32)).alloc (.cells #[.bool g2, .slice A2 n2 c2] 32)).alloc (.cells #[.bool false, .slice none 0 0] 32)) (w.heap.size + 1 + 1) 32 #[.bool false, .slice none 0 0])
  have BW_0 := Lib.hid ((((Below.refl w.heap.size w).alloc (by simp) (.cells #[.bool g1, .slice A1 n1 c1] 32)).alloc (by simp) (.cells #[.bool g2, .slice A2 n2 c2] 32)).alloc (by simp; omega) (.cells #[.bool false, .slice none 0 0] 32))
  have hn1 := h1.2.1
  have hn2 := h2.2.1
  have HI1 := Lib.hid (h1.below BW_0.out)
  have HI2 := Lib.hid (h2.below BW_0.out)
  have R1 := Lib.hid r1
  have R2 := Lib.hid r2
  clear h1 h2 r1 r2
  go_enter Tryz.func229, Tryz.ntmps229
  go_wp2_with fail
  refine (impl_bigOk' g1 A1 n1 c1 xs _ HI1.out).mono ?_
  rintro e wa ⟨⟨b, rfl, hi1⟩, hb⟩
  have hx0_1 := Lib.hid (hx0_0.out.below hb hx0_0.out.lt)
  have hx1_1 := Lib.hid (hx1_0.out.below hb hx1_0.out.lt)
  have hr_1 := Lib.hid (hr_0.out.below hb hr_0.out.lt)
  have BW_1 := Lib.hid (BW_0.out.trans (hb.mono BW_0.out.size))
  replace HI1 := Lib.hid (HI1.out.below hb)
  replace HI2 := Lib.hid (HI2.out.below hb)
  clear hb
  have ehx00 := hx0_1.out.cell 0
  have ehx01 := hx0_1.out.cell 1
  have ehx10 := hx1_1.out.cell 0
  have ehx11 := hx1_1.out.cell 1
  have ehr0 := hr_1.out.cell 0
  have ehr1 := hr_1.out.cell 1
  have fhr0 := hr_1.out.free 0
  have fhr1 := hr_1.out.free 1
  simp at ehx00 ehx01 ehx10 ehx11 ehr0 ehr1
  cases b
  · have hno : ¬ (BOk g1 xs ∧ BOk g2 ys) := fun h => by have := hi1.2 h.1; cases this
    clear hi1
    have HZ : Hid (BigIntAddIs g1 xs g2 ys false []) := .inr ⟨hno, rfl, rfl⟩
    go_wp2_with fail
    refine bodyPost_ret (v := .agg #[.bool false, .slice none 0 0]) (by simp [results, Tryz.results229, ehr0, ehr1, go_sem]) rfl ?_
    exact bigEnd_zero HZ.out ((BW_1.out.setCell (by dsimp only; omega) _).setCell (by dsimp only; omega) _)
  have K1 := Lib.hid (hi1.1 rfl)
  clear hi1
  go_wp2_with fail
  refine (impl_bigOk' g2 A2 n2 c2 ys _ HI2.out).mono ?_
  rintro e wb ⟨⟨b, rfl, hi2⟩, hb⟩
  have hx0_2 := Lib.hid (hx0_1.out.below hb hx0_1.out.lt)
  have hx1_2 := Lib.hid (hx1_1.out.below hb hx1_1.out.lt)
  have hr_2 := Lib.hid (hr_1.out.below hb hr_1.out.lt)
  have BW_2 := Lib.hid (BW_1.out.trans (hb.mono BW_1.out.size))
  replace HI1 := Lib.hid (HI1.out.below hb)
  replace HI2 := Lib.hid (HI2.out.below hb)
  clear hb
  clear ehx00 ehx01 ehx10 ehx11 ehr0 fhr0 ehr1 fhr1
  have ehx00 := hx0_2.out.cell 0
  have ehx01 := hx0_2.out.cell 1
  have ehx10 := hx1_2.out.cell 0
  have ehx11 := hx1_2.out.cell 1
  have ehr0 := hr_2.out.cell 0
  have ehr1 := hr_2.out.cell 1
  have fhr0 := hr_2.out.free 0
  have fhr1 := hr_2.out.free 1
  simp at ehx00 ehx01 ehx10 ehx11 ehr0 ehr1
  cases b
  · have hno : ¬ (BOk g1 xs ∧ BOk g2 ys) := fun h => by have := hi2.2 h.2; cases this
    clear hi2
    have HZ : Hid (BigIntAddIs g1 xs g2 ys false []) := .inr ⟨hno, rfl, rfl⟩
    go_wp2_with fail
    refine bodyPost_ret (v := .agg #[.bool false, .slice none 0 0]) (by simp [results, Tryz.results229, ehr0, ehr1, go_sem]) rfl ?_
    exact bigEnd_zero HZ.out ((BW_2.out.setCell (by dsimp only; omega) _).setCell (by dsimp only; omega) _)
  have K2 := Lib.hid (hi2.1 rfl)
  clear hi2
  go_wp2_with fail
  clear ehx00 ehx01 ehx10 ehx11 ehr0 fhr0 ehr1 fhr1
  have sk1 := sok_sg K1.out HI1.out.1
  have hbd1 := sg_bd g1 n1
  obtain ⟨s1, hs1⟩ : ∃ s, sg g1 n1 = s := ⟨_, rfl⟩
  rw [hs1] at sk1 hbd1
  have SK1 := Lib.hid sk1.1
  have E1 := Lib.hid sk1.2
  have Hs1 := Lib.hid hs1
  clear sk1 hs1
  have sk2 := sok_sg K2.out HI2.out.1
  have hbd2 := sg_bd g2 n2
  obtain ⟨s2, hs2⟩ : ∃ s, sg g2 n2 = s := ⟨_, rfl⟩
  rw [hs2] at sk2 hbd2
  have SK2 := Lib.hid sk2.1
  have E2 := Lib.hid sk2.2
  have Hs2 := Lib.hid hs2
  clear sk2 hs2
  have hx0_3 := Lib.hid hx0_2.out.drew
  have hx1_3 := Lib.hid hx1_2.out.drew
  have hr_3 := Lib.hid hr_2.out.drew
  have BW_3 := Lib.hid BW_2.out.drew
  replace HI1 := Lib.hid HI1.out.drew
  replace HI2 := Lib.hid HI2.out.drew
  go_region_held3 (fun w' => w'.cell? ⟨w.heap.size, 0, none⟩ = some (.bool g1) ∧ w'.cell? ⟨w.heap.size, 1, none⟩ = some (.slice A1 n1 c1) ∧ w'.cell? ⟨w.heap.size + 1, 0, none⟩ = some (.bool g2) ∧ w'.cell? ⟨w.heap.size + 1, 1, none⟩ = some (.slice A2 n2 c2)) (first | exact two_boxes hx0_3.out hx1_3.out | exact two_boxes hx0_4.out hx1_4.out | exact two_boxes hx0_5.out hx1_5.out | exact two_boxes hx0_6.out hx1_6.out | exact two_boxes ((hx0_6.out.far (by dsimp only; omega) _).far (by dsimp only; omega) _) ((hx1_6.out.far (by dsimp only; omega) _).far (by dsimp only; omega) _)) (first | (go_at_call 256; refine (impl_addSigned s1 A1 n1 c1 xs s2 A2 n2 c2 ys _ HI1.out HI2.out SK1.out SK2.out).mono ?_; rintro e wz ⟨s, r, v, rfl, hq, hres, hb⟩; obtain ⟨A9, c9, rfl, hl, ho⟩ := own_rows hres; obtain ⟨N, hN⟩ : ∃ N, N = r.length := ⟨_, rfl⟩; rw [← hN] at ho hl ⊢; obtain ⟨bx, e0, e1, f0, f1⟩ := box_facts (hr_5.out.below hb hr_5.out.lt); simp at e0 e1; have HQ := Lib.hid (add_i K1.out K2.out E1.out E2.out hq); have HV := Lib.hid (tail2 (g := w.heap.size + 1 + 1) ho hr_5.out.lt (BW_5.out.trans (hb.mono BW_5.out.size)) (by omega) (.bool s) (.slice A9 N c9)); have HN := Lib.hid hN; have HL := Lib.hid hl; have hx0_6 := Lib.hid (hx0_5.out.below hb hx0_5.out.lt); have hx1_6 := Lib.hid (hx1_5.out.below hb hx1_5.out.lt); have BW_6 := Lib.hid (BW_5.out.trans (hb.mono BW_5.out.size)); clear hq hres ho hl hb bx hN) | (go_at_call 71; (with_reducible refine (impl_signOf g1 A1 n1 c1 s1 _ Hs1.out (by omega)).mono ?_); rintro e w4 ⟨rfl, hb⟩; have hx0_4 := Lib.hid (hx0_3.out.below hb hx0_3.out.lt); have hx1_4 := Lib.hid (hx1_3.out.below hb hx1_3.out.lt); have hr_4 := Lib.hid (hr_3.out.below hb hr_3.out.lt); have BW_4 := Lib.hid (BW_3.out.trans (hb.mono BW_3.out.size)); replace HI1 := Lib.hid (HI1.out.below hb); replace HI2 := Lib.hid (HI2.out.below hb); clear hb) | (go_at_call 71; (with_reducible refine (impl_signOf g2 A2 n2 c2 s2 _ Hs2.out (by omega)).mono ?_); rintro e w5 ⟨rfl, hb⟩; have hx0_5 := Lib.hid (hx0_4.out.below hb hx0_4.out.lt); have hx1_5 := Lib.hid (hx1_4.out.below hb hx1_4.out.lt); have hr_5 := Lib.hid (hr_4.out.below hb hr_4.out.lt); have BW_5 := Lib.hid (BW_4.out.trans (hb.mono BW_4.out.size)); replace HI1 := Lib.hid (HI1.out.below hb); replace HI2 := Lib.hid (HI2.out.below hb); clear hb))
  go_wp2_with fail
  refine bodyPost_ret (v := .agg #[.bool s, .slice A9 N c9]) (by simp [results, Tryz.results229, e0, e1, go_sem]) rfl ?_
  exact ⟨s, r, _, rfl, HQ.out, ⟨by rw [← HN.out]; exact HL.out, by rw [← HN.out]; exact HV.out.1⟩, HV.out.2⟩
set_option maxRecDepth 100000 in
set_option maxHeartbeats 1600000 in
theorem impl_bigIntMul' (g1 : Bool) (A1 : Option Addr) (n1 c1 : Nat) (xs : List Int) (g2 : Bool) (A2 : Option Addr) (n2 c2 : Nat) (ys : List Int) (w : World) (h1 : InI w A1 n1 xs) (h2 : InI w A2 n2 ys) (r1 : Room A1 n1 c1) (r2 : Room A2 n2 c2) :
    Calls Tryz.prog 205 #[.agg #[.bool g1, .slice A1 n1 c1], .agg #[.bool g2, .slice A2 n2 c2]] w fun e w' => BigEnd (BigIntMulIs g1 xs g2 ys) w w' e := by
  have hx0_0 := Lib.hid (((by have := Box.new w 32 #[.bool g1, .slice A1 n1 c1]; simpa using this : Box (w.alloc (.cells #[.bool g1, .slice A1 n1 c1] 32)) (w.heap.size) 32 #[.bool g1, .slice A1 n1 c1]).alloc (.cells #[.bool g2, .slice A2 n2 c2] 32)).alloc (.cells #[.bool false, .slice none 0 0] 32))
  have hx1_0 := Lib.hid ((by have := Box.new (w.alloc (.cells #[.bool g1, .slice A1 n1 c1] 32)) 32 #[.bool g2, .slice A2 n2 c2]; simpa using this : Box ((w.alloc (.cells #[.bool g1, .slice A1 n1 c1] 32)).alloc (.cells #[.bool g2, .slice A2 n2 c2] 32)) (w.heap.size + 1) 32 #[.bool g2, .slice A2 n2 c2]).alloc (.cells #[.bool false, .slice none 0 0] 32))
  have hr_0 := Lib.hid (by have := Box.new ((w.alloc (.cells #[.bool g1, .slice A1 n1 c1] 32)).alloc (.cells #[.bool g2, .slice A2 n2 c2] 32)) 32 #[.bool false, .slice none 0 0]; simpa using this : Box (((w.alloc (.cells #[.bool g1, .slice A1 n1 c1] 32)).alloc (.cells #[.bool g2, .slice A2 n2 c2] 32)).alloc (.cells #[.bool false, .slice none 0 0] 32)) (w.heap.size + 1 + 1) 32 #[.bool false, .slice none 0 0])
  have BW_0 := Lib.hid ((((Below.refl w.heap.size w).alloc (by simp) (.cells #[.bool g1, .slice A1 n1 c1] 32)).alloc (by simp) (.cells #[.bool g2, .slice A2 n2 c2] 32)).alloc (by simp; omega) (.cells #[.bool false, .slice none 0 0] 32))
  have hn1 := h1.2.1
  have hn2 := h2.2.1
  have HI1 := Lib.hid (h1.below BW_0.out)
  have HI2 := Lib.hid (h2.below BW_0.out)
  have R1 := Lib.hid r1
  have R2 := Lib.hid r2
  clear h1 h2 r1 r2
  go_enter Tryz.func205, Tryz.ntmps205
  go_wp2_with fail
  refine (impl_bigOk' g1 A1 n1 c1 xs _ HI1.out).mono ?_
  rintro e wa ⟨⟨b, rfl, hi1⟩, hb⟩
  have hx0_1 := Lib.hid (hx0_0.out.below hb hx0_0.out.lt)
  have hx1_1 := Lib.hid (hx1_0.out.below hb hx1_0.out.lt)
  have hr_1 := Lib.hid (hr_0.out.below hb hr_0.out.lt)
  have BW_1 := Lib.hid (BW_0.out.trans (hb.mono BW_0.out.size))
  replace HI1 := Lib.hid (HI1.out.below hb)
  replace HI2 := Lib.hid (HI2.out.below hb)
  clear hb
  have ehx00 := hx0_1.out.cell 0
  have ehx01 := hx0_1.out.cell 1
  have ehx10 := hx1_1.out.cell 0
  have ehx11 := hx1_1.out.cell 1
  have ehr0 := hr_1.out.cell 0
  have ehr1 := hr_1.out.cell 1
  have fhr0 := hr_1.out.free 0
  have fhr1 := hr_1.out.free 1
  simp at ehx00 ehx01 ehx10 ehx11 ehr0 ehr1
  cases b
  · have hno : ¬ (BOk g1 xs ∧ BOk g2 ys) := fun h => by have := hi1.2 h.1; cases this
    clear hi1
    have HZ : Hid (BigIntMulIs g1 xs g2 ys false []) := .inr ⟨hno, rfl, rfl⟩
    go_wp2_with fail
    refine bodyPost_ret (v := .agg #[.bool false, .slice none 0 0]) (by simp [results, Tryz.results205, ehr0, ehr1, go_sem]) rfl ?_
    exact bigEnd_zero HZ.out ((BW_1.out.setCell (by dsimp only; omega) _).setCell (by dsimp only; omega) _)
  have K1 := Lib.hid (hi1.1 rfl)
  clear hi1
  go_wp2_with fail
  refine (impl_bigOk' g2 A2 n2 c2 ys _ HI2.out).mono ?_
  rintro e wb ⟨⟨b, rfl, hi2⟩, hb⟩
  have hx0_2 := Lib.hid (hx0_1.out.below hb hx0_1.out.lt)
  have hx1_2 := Lib.hid (hx1_1.out.below hb hx1_1.out.lt)
  have hr_2 := Lib.hid (hr_1.out.below hb hr_1.out.lt)
  have BW_2 := Lib.hid (BW_1.out.trans (hb.mono BW_1.out.size))
  replace HI1 := Lib.hid (HI1.out.below hb)
  replace HI2 := Lib.hid (HI2.out.below hb)
  clear hb
  clear ehx00 ehx01 ehx10 ehx11 ehr0 fhr0 ehr1 fhr1
  have ehx00 := hx0_2.out.cell 0
  have ehx01 := hx0_2.out.cell 1
  have ehx10 := hx1_2.out.cell 0
  have ehx11 := hx1_2.out.cell 1
  have ehr0 := hr_2.out.cell 0
  have ehr1 := hr_2.out.cell 1
  have fhr0 := hr_2.out.free 0
  have fhr1 := hr_2.out.free 1
  simp at ehx00 ehx01 ehx10 ehx11 ehr0 ehr1
  cases b
  · have hno : ¬ (BOk g1 xs ∧ BOk g2 ys) := fun h => by have := hi2.2 h.2; cases this
    clear hi2
    have HZ : Hid (BigIntMulIs g1 xs g2 ys false []) := .inr ⟨hno, rfl, rfl⟩
    go_wp2_with fail
    refine bodyPost_ret (v := .agg #[.bool false, .slice none 0 0]) (by simp [results, Tryz.results205, ehr0, ehr1, go_sem]) rfl ?_
    exact bigEnd_zero HZ.out ((BW_2.out.setCell (by dsimp only; omega) _).setCell (by dsimp only; omega) _)
  have K2 := Lib.hid (hi2.1 rfl)
  clear hi2
  go_wp2_with fail
  clear ehx00 ehx01 ehx10 ehx11 ehr0 fhr0 ehr1 fhr1
  have sk1 := sok_sg K1.out HI1.out.1
  have hbd1 := sg_bd g1 n1
  obtain ⟨s1, hs1⟩ : ∃ s, sg g1 n1 = s := ⟨_, rfl⟩
  rw [hs1] at sk1 hbd1
  have SK1 := Lib.hid sk1.1
  have E1 := Lib.hid sk1.2
  have Hs1 := Lib.hid hs1
  clear sk1 hs1
  have sk2 := sok_sg K2.out HI2.out.1
  have hbd2 := sg_bd g2 n2
  obtain ⟨s2, hs2⟩ : ∃ s, sg g2 n2 = s := ⟨_, rfl⟩
  rw [hs2] at sk2 hbd2
  have SK2 := Lib.hid sk2.1
  have E2 := Lib.hid sk2.2
  have Hs2 := Lib.hid hs2
  clear sk2 hs2
  obtain ⟨p, hp⟩ : ∃ p, s1 * s2 = p := ⟨_, rfl⟩
  obtain ⟨q3, hq3⟩ : ∃ q, decide (p = -1) = q := ⟨_, rfl⟩
  have HP3 := Lib.hid hp
  have HQ3 := Lib.hid hq3
  have hwr : IntKind.i64.wrap (s1 * s2) = p := by
    rw [hp]
    refine IntWalk.i64_in _ ?_
    rw [← hp]
    rcases SK1.out.2 with ⟨e, _⟩ | ⟨e, _⟩ | ⟨e, _⟩ <;> rw [e] <;> omega
  clear hp hq3
  have hx0_3 := Lib.hid hx0_2.out.drew
  have hx1_3 := Lib.hid hx1_2.out.drew
  have hr_3 := Lib.hid hr_2.out.drew
  have BW_3 := Lib.hid BW_2.out.drew
  replace HI1 := Lib.hid HI1.out.drew
  replace HI2 := Lib.hid HI2.out.drew
  go_region_held3 (fun w' => w'.cell? ⟨w.heap.size, 0, none⟩ = some (.bool g1) ∧ w'.cell? ⟨w.heap.size, 1, none⟩ = some (.slice A1 n1 c1) ∧ w'.cell? ⟨w.heap.size + 1, 0, none⟩ = some (.bool g2) ∧ w'.cell? ⟨w.heap.size + 1, 1, none⟩ = some (.slice A2 n2 c2)) (first | exact two_boxes hx0_3.out hx1_3.out | exact two_boxes hx0_4.out hx1_4.out | exact two_boxes hx0_5.out hx1_5.out | exact two_boxes hx0_6.out hx1_6.out | exact two_boxes hx0_7.out hx1_7.out | exact two_boxes ((hx0_7.out.far (by dsimp only; omega) _).far (by dsimp only; omega) _) ((hx1_7.out.far (by dsimp only; omega) _).far (by dsimp only; omega) _)) (first | (go_at_call 238; refine (impl_withSign p q3 HQ3.out _ A2m N c2m r _ HN.out.symm HL.out HO.out).mono ?_; rintro e wz ⟨v, rfl, hv, ho, hb⟩; obtain ⟨A9, c9, rfl⟩ : ∃ A c, v = .slice A N c := own_slice ho; obtain ⟨bx, e0, e1, f0, f1⟩ := box_facts (hr_6.out.below hb hr_6.out.lt); simp at e0 e1; have HV2 := Lib.hid (tail2 (g := w.heap.size + 1 + 1) ho HG.out (BW_6.out.trans (hb.mono BW_6.out.size)) (by omega)); obtain ⟨s, hs⟩ : ∃ s, s = sgn q3 r := ⟨_, rfl⟩; have HQ := Lib.hid (HQ0.out); rw [← hs] at HQ ⊢; have HV := Lib.hid (HV2.out (.bool s) (.slice A9 N c9)); have hx0_7 := Lib.hid (hx0_6.out.below hb hx0_6.out.lt); have hx1_7 := Lib.hid (hx1_6.out.below hb hx1_6.out.lt); have BW_7 := Lib.hid (BW_6.out.trans (hb.mono BW_6.out.size)); clear hs hv ho hb HV2 bx) | (go_at_call 246; refine (impl_natMul A1 n1 c1 xs A2 n2 c2 ys _ HI1.out HI2.out).mono ?_; rintro e wy ⟨r, v, rfl, hmul, hres, hb⟩; have HG := Lib.hid hr_5.out.lt; have hx0_6 := Lib.hid (hx0_5.out.below hb hx0_5.out.lt); have hx1_6 := Lib.hid (hx1_5.out.below hb hx1_5.out.lt); have hr_6 := Lib.hid (hr_5.out.below hb hr_5.out.lt); have BW_6 := Lib.hid (BW_5.out.trans (hb.mono BW_5.out.size)); obtain ⟨A2m, c2m, rfl, hl, ho⟩ := own_rows hres; obtain ⟨N, hN⟩ : ∃ N, N = r.length := ⟨_, rfl⟩; rw [← hN] at ho hl ⊢; have HO := Lib.hid ho; have HN := Lib.hid hN; have HL := Lib.hid hl; have HQ0 := Lib.hid (mul_i K1.out K2.out SK1.out SK2.out E1.out E2.out HP3.out HQ3.out hmul); clear hmul hres ho hl hb hN) | (go_at_call 71; (with_reducible refine (impl_signOf g1 A1 n1 c1 s1 _ Hs1.out (by omega)).mono ?_); rintro e w4 ⟨rfl, hb⟩; have hx0_4 := Lib.hid (hx0_3.out.below hb hx0_3.out.lt); have hx1_4 := Lib.hid (hx1_3.out.below hb hx1_3.out.lt); have hr_4 := Lib.hid (hr_3.out.below hb hr_3.out.lt); have BW_4 := Lib.hid (BW_3.out.trans (hb.mono BW_3.out.size)); replace HI1 := Lib.hid (HI1.out.below hb); replace HI2 := Lib.hid (HI2.out.below hb); clear hb) | (go_at_call 71; (with_reducible refine (impl_signOf g2 A2 n2 c2 s2 _ Hs2.out (by omega)).mono ?_); rintro e w5 ⟨rfl, hb⟩; have hx0_5 := Lib.hid (hx0_4.out.below hb hx0_4.out.lt); have hx1_5 := Lib.hid (hx1_4.out.below hb hx1_4.out.lt); have hr_5 := Lib.hid (hr_4.out.below hb hr_4.out.lt); have BW_5 := Lib.hid (BW_4.out.trans (hb.mono BW_4.out.size)); replace HI1 := Lib.hid (HI1.out.below hb); replace HI2 := Lib.hid (HI2.out.below hb); clear hb))
  go_wp2_with fail
  refine bodyPost_ret (v := .agg #[.bool s, .slice A9 N c9]) (by simp [results, Tryz.results205, e0, e1, go_sem]) rfl ?_
  exact ⟨s, r, _, rfl, HQ.out, ⟨by rw [← HN.out]; exact HL.out, by rw [← HN.out]; exact HV.out.1⟩, HV.out.2⟩
end Go.Proofs.YtegclofijaoajaaGreat
namespace Go.Proofs.YtegclofijaoajaaGreat
set_option maxRecDepth 100000
open Go.RowKit

theorem cmpV_anti (a b : Int) : cmpV b a = - cmpV a b := by
  unfold cmpV
  by_cases h : a < b
  · rw [if_neg (by omega), if_neg (by omega), if_pos h]; rfl
  · by_cases e : a = b
    · subst e; simp
    · rw [if_pos (by omega), if_neg h, if_neg e]
theorem cmp_s_lt {s t : Int} {a b : List Int} (k1 : SOk s a) (k2 : SOk t b) (h : s < t) : s * val a < t * val b := by
  rcases k1.2 with ⟨rfl, h1⟩ | ⟨rfl, h1⟩ | ⟨rfl, h1⟩ <;> rcases k2.2 with ⟨rfl, h2⟩ | ⟨rfl, h2⟩ | ⟨rfl, h2⟩ <;> omega
theorem cmp_s_eq {s : Int} {a b : List Int} (k1 : SOk s a) : s * cmpV (val a) (val b) = cmpV (s * val a) (s * val b) := by
  rcases k1.2 with ⟨rfl, h1⟩ | ⟨rfl, h1⟩ | ⟨rfl, h1⟩
  · rw [show (-1 : Int) * val a = - val a by omega, show (-1 : Int) * val b = - val b by omega, cmp_neg, cmpV_anti]; omega
  · rw [Int.zero_mul, Int.zero_mul, Int.zero_mul, cmpV_eq rfl]
  · rw [Int.one_mul, Int.one_mul, Int.one_mul]
theorem isNaNS_any (x : Int) (w : World) : Calls Tryz.prog 276 #[.int .i64 x] w fun e w' => e = .returned (.bool false) ∧ w = w' := by
  have h : (x == x) = true := by simp
  go_enter Tryz.func276, Tryz.ntmps276
  go_wp2
  go_ret
  exact ⟨rfl, rfl⟩
theorem compareS_any (x y : Int) (w : World) : Calls Tryz.prog 274 #[.int .i64 x, .int .i64 y] w fun e w' => e = .returned (.int .i64 (cmpV x y)) ∧ w = w' := by
  by_cases h : x < y
  · have hf := Lib.hid (cmpV_lt h)
    go_enter Tryz.func274, Tryz.ntmps274
    go_wp2_with ((with_reducible refine (isNaNS_any _ _).mono ?_); rintro e w' ⟨rfl, rfl⟩)
    go_ret
    exact ⟨ret_int hf.out.symm, rfl⟩
  · by_cases h2 : y < x
    · have hf := Lib.hid (cmpV_gt h2)
      go_enter Tryz.func274, Tryz.ntmps274
      go_wp2_with ((with_reducible refine (isNaNS_any _ _).mono ?_); rintro e w' ⟨rfl, rfl⟩)
      go_ret
      exact ⟨ret_int hf.out.symm, rfl⟩
    · have hf := Lib.hid (cmpV_eq (show x = y by omega))
      go_enter Tryz.func274, Tryz.ntmps274
      go_wp2_with ((with_reducible refine (isNaNS_any _ _).mono ?_); rintro e w' ⟨rfl, rfl⟩)
      go_ret
      exact ⟨ret_int hf.out.symm, rfl⟩
set_option maxHeartbeats 1600000 in
theorem impl_bigIntCmp' (g1 : Bool) (A1 : Option Addr) (n1 c1 : Nat) (xs : List Int) (g2 : Bool) (A2 : Option Addr) (n2 c2 : Nat) (ys : List Int) (w : World) (h1 : InI w A1 n1 xs) (h2 : InI w A2 n2 ys) :
    Calls Tryz.prog 269 #[.agg #[.bool g1, .slice A1 n1 c1], .agg #[.bool g2, .slice A2 n2 c2]] w fun e w' => BCmpEnd g1 xs g2 ys w w' e := by
  have hx0_0 := Lib.hid ((by have := Box.new w 32 #[.bool g1, .slice A1 n1 c1]; simpa using this : Box (w.alloc (.cells #[.bool g1, .slice A1 n1 c1] 32)) (w.heap.size) 32 #[.bool g1, .slice A1 n1 c1]).alloc (.cells #[.bool g2, .slice A2 n2 c2] 32))
  have hx1_0 := Lib.hid (by have := Box.new (w.alloc (.cells #[.bool g1, .slice A1 n1 c1] 32)) 32 #[.bool g2, .slice A2 n2 c2]; simpa using this : Box ((w.alloc (.cells #[.bool g1, .slice A1 n1 c1] 32)).alloc (.cells #[.bool g2, .slice A2 n2 c2] 32)) (w.heap.size + 1) 32 #[.bool g2, .slice A2 n2 c2])
  have BW_0 := Lib.hid (((Below.refl w.heap.size w).alloc (by simp) (.cells #[.bool g1, .slice A1 n1 c1] 32)).alloc (by simp) (.cells #[.bool g2, .slice A2 n2 c2] 32))
  have hn1 := h1.2.1
  have hn2 := h2.2.1
  have HI1 := Lib.hid (h1.below BW_0.out)
  have HI2 := Lib.hid (h2.below BW_0.out)
  clear h1 h2
  go_enter Tryz.func269, Tryz.ntmps269
  go_wp2_with fail
  refine (impl_bigOk' g1 A1 n1 c1 xs _ HI1.out).mono ?_
  rintro e wa ⟨⟨b, rfl, hi1⟩, hb⟩
  have hx0_1 := Lib.hid (hx0_0.out.below hb hx0_0.out.lt)
  have hx1_1 := Lib.hid (hx1_0.out.below hb hx1_0.out.lt)
  have BW_1 := Lib.hid (BW_0.out.trans (hb.mono BW_0.out.size))
  replace HI1 := Lib.hid (HI1.out.below hb)
  replace HI2 := Lib.hid (HI2.out.below hb)
  clear hb
  have ehx00 := hx0_1.out.cell 0
  have ehx01 := hx0_1.out.cell 1
  have ehx10 := hx1_1.out.cell 0
  have ehx11 := hx1_1.out.cell 1
  simp at ehx00 ehx01 ehx10 ehx11
  cases b
  · have HF := Lib.hid (bcmp_no (g1 := g1) (g2 := g2) (xs := xs) (ys := ys) (fun h => by have := hi1.2 h.1; cases this) BW_1.out)
    clear hi1
    go_wp2_with fail
    go_ret
    exact HF.out
  have K1 := Lib.hid (hi1.1 rfl)
  clear hi1
  go_wp2_with fail
  refine (impl_bigOk' g2 A2 n2 c2 ys _ HI2.out).mono ?_
  rintro e wb ⟨⟨b, rfl, hi2⟩, hb⟩
  have hx0_2 := Lib.hid (hx0_1.out.below hb hx0_1.out.lt)
  have hx1_2 := Lib.hid (hx1_1.out.below hb hx1_1.out.lt)
  have BW_2 := Lib.hid (BW_1.out.trans (hb.mono BW_1.out.size))
  replace HI1 := Lib.hid (HI1.out.below hb)
  replace HI2 := Lib.hid (HI2.out.below hb)
  clear hb
  cases b
  · have HF := Lib.hid (bcmp_no (g1 := g1) (g2 := g2) (xs := xs) (ys := ys) (fun h => by have := hi2.2 h.2; cases this) BW_2.out)
    clear hi2
    clear ehx00 ehx01 ehx10 ehx11
    have ehx00 := hx0_2.out.cell 0
    have ehx01 := hx0_2.out.cell 1
    have ehx10 := hx1_2.out.cell 0
    have ehx11 := hx1_2.out.cell 1
    simp at ehx00 ehx01 ehx10 ehx11
    go_wp2_with fail
    go_ret
    exact HF.out
  have K2 := Lib.hid (hi2.1 rfl)
  clear hi2
  clear ehx00 ehx01 ehx10 ehx11
  have ehx00 := hx0_2.out.cell 0
  have ehx01 := hx0_2.out.cell 1
  have ehx10 := hx1_2.out.cell 0
  have ehx11 := hx1_2.out.cell 1
  simp at ehx00 ehx01 ehx10 ehx11
  have sk1 := sok_sg K1.out HI1.out.1
  have hbd1 := sg_bd g1 n1
  obtain ⟨s1, hs1⟩ : ∃ s, sg g1 n1 = s := ⟨_, rfl⟩
  rw [hs1] at sk1 hbd1
  have SK1 := Lib.hid sk1.1
  have E1 := Lib.hid sk1.2
  have Hs1 := Lib.hid hs1
  clear sk1 hs1
  have sk2 := sok_sg K2.out HI2.out.1
  have hbd2 := sg_bd g2 n2
  obtain ⟨s2, hs2⟩ : ∃ s, sg g2 n2 = s := ⟨_, rfl⟩
  rw [hs2] at sk2 hbd2
  have SK2 := Lib.hid sk2.1
  have E2 := Lib.hid sk2.2
  have Hs2 := Lib.hid hs2
  clear sk2 hs2
  go_wp2_with fail
  refine (impl_signOf g1 A1 n1 c1 s1 _ Hs1.out (by omega)).mono ?_
  rintro e wc ⟨rfl, hb⟩
  have hx0_3 := Lib.hid (hx0_2.out.below hb hx0_2.out.lt)
  have hx1_3 := Lib.hid (hx1_2.out.below hb hx1_2.out.lt)
  have BW_3 := Lib.hid (BW_2.out.trans (hb.mono BW_2.out.size))
  replace HI1 := Lib.hid (HI1.out.below hb)
  replace HI2 := Lib.hid (HI2.out.below hb)
  clear hb
  clear ehx00 ehx01 ehx10 ehx11
  have ehx00 := hx0_3.out.cell 0
  have ehx01 := hx0_3.out.cell 1
  have ehx10 := hx1_3.out.cell 0
  have ehx11 := hx1_3.out.cell 1
  simp at ehx00 ehx01 ehx10 ehx11
  go_wp2_with fail
  refine (impl_signOf g2 A2 n2 c2 s2 _ Hs2.out (by omega)).mono ?_
  rintro e wd ⟨rfl, hb⟩
  have hx0_4 := Lib.hid (hx0_3.out.below hb hx0_3.out.lt)
  have hx1_4 := Lib.hid (hx1_3.out.below hb hx1_3.out.lt)
  have BW_4 := Lib.hid (BW_3.out.trans (hb.mono BW_3.out.size))
  replace HI1 := Lib.hid (HI1.out.below hb)
  replace HI2 := Lib.hid (HI2.out.below hb)
  clear hb
  clear ehx00 ehx01 ehx10 ehx11
  have ehx00 := hx0_4.out.cell 0
  have ehx01 := hx0_4.out.cell 1
  have ehx10 := hx1_4.out.cell 0
  have ehx11 := hx1_4.out.cell 1
  simp at ehx00 ehx01 ehx10 ehx11
  go_wp2_with fail
  refine (compareS_any s1 s2 _).mono ?_
  rintro e we ⟨rfl, rfl⟩
  by_cases hlt : s1 < s2
  · have HF := Lib.hid (bcmp_yes K1.out K2.out (show (-1 : Int) = cmpV (bval g1 xs) (bval g2 ys) by rw [E1.out, E2.out, cmpV_lt (cmp_s_lt SK1.out SK2.out hlt)]) BW_4.out)
    rw [cmpV_lt hlt]
    clear hlt
    go_wp2_with fail
    go_ret
    exact HF.out
  by_cases hgt : s2 < s1
  · have HF := Lib.hid (bcmp_yes K1.out K2.out (show (1 : Int) = cmpV (bval g1 xs) (bval g2 ys) by rw [E1.out, E2.out, cmpV_gt (cmp_s_lt SK2.out SK1.out hgt)]) BW_4.out)
    rw [cmpV_gt hgt]
    clear hlt hgt
    go_wp2_with fail
    go_ret
    exact HF.out
  have he : s1 = s2 := by omega
  rw [cmpV_eq he]
  have HE := Lib.hid he
  clear he hlt hgt
  go_wp2_with fail
  refine (impl_cmp A1 n1 c1 xs A2 n2 c2 ys _ HI1.out.canon HI2.out.canon K1.out.1.1 K2.out.1.1).mono ?_
  rintro e wf ⟨rfl, hb⟩
  have BW_5 := Lib.hid (BW_4.out.trans (hb.mono BW_4.out.size))
  have HR : Hid (s1 * cmpV (val xs) (val ys) = cmpV (bval g1 xs) (bval g2 ys)) := by
    unfold Hid; rw [E1.out, E2.out, ← HE.out]; exact cmp_s_eq SK1.out
  have hcb := cmpV_bd (val xs) (val ys)
  obtain ⟨cm, hcm⟩ : ∃ cm, cm = cmpV (val xs) (val ys) := ⟨_, rfl⟩
  rw [← hcm] at HR hcb ⊢
  have HF := Lib.hid (bcmp_yes K1.out K2.out HR.out BW_5.out)
  clear hb hcm HR
  have hs : s1 = -1 ∨ s1 = 0 ∨ s1 = 1 := by omega
  clear HE
  rcases hs with rfl | rfl | rfl
  · rw [show (-1 : Int) * cm = -cm by omega] at HF
    go_wp2_with fail
    go_ret
    exact HF.out
  · rw [Int.zero_mul] at HF
    go_wp2_with fail
    go_ret
    exact HF.out
  · rw [Int.one_mul] at HF
    go_wp2_with fail
    go_ret
    exact HF.out
theorem apart_with {u v : Value} {A : Option Addr} {n c : Nat} (h : Apart u (.slice A n c)) (hv : v = .slice A n c ∨ v = .slice none 0 0) : Apart u v := by
  rcases hv with rfl | rfl
  · exact h
  · intro k _ hk; simp [Value.ownBlock] at hk
end Go.Proofs.YtegclofijaoajaaGreat
