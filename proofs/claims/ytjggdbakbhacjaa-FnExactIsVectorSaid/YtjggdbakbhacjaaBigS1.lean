/- Contracts of the model's big integers: valid or not, from and to int, the negative. -/
import Derived.Test.YtjggdbakbhacjaaBigS
namespace Go.Proofs.Ytjggdbakbhacjaa
set_option maxRecDepth 100000
open Go.RowKit

def BOkEnd (g : Bool) (xs : List Int) (e : Ending) : Prop := ∃ b, e = .returned (.bool b) ∧ BigIntOkIs g xs b
set_option maxHeartbeats 400000 in
theorem spec_bigOk' (g : Bool) (A : Option Addr) (n c : Nat) (xs : List Int) (w : World) (h : InI w A n xs) :
    Calls Try.prog 103 #[.agg #[.bool g, .slice A n c]] w fun e w' => BOkEnd g xs e ∧ Below w.heap.size w w' := by
  have H := Lib.hid h
  have hn := h.2.1
  clear h
  have con := fun (x : Value) (t : TypeId) => spec_natOk' A n c xs (w.alloc (.cells #[.bool g, x] t)) (H.out.below ((Below.refl _ _).alloc (Nat.le_refl _) _))
  have Con := Lib.hid con
  clear con
  have HF0 := Lib.hid (fun b (hb : NatOkIs xs b) => bigOk_mk (g := g) hb H.out.1)
  by_cases h0 : 0 < n
  all_goals
    cases g
    all_goals
      go_enter Try.func103, Try.ntmps103
      go_wp2_with fail
      refine (Con.out _ _).mono ?_
      rintro e w1 ⟨⟨b, rfl, hb⟩, rfl⟩
      have HF := Lib.hid (HF0.out _ hb)
      clear hb
      cases b
      all_goals
        go_wp2_with fail
        go_ret
        exact ⟨⟨_, rfl, by have := HF.out; simpa [h0] using this⟩, (Below.refl _ _).alloc (Nat.le_refl _) _⟩
theorem spec_bigIntOk (g : Bool) (A : Option Addr) (n c : Nat) (xs : List Int) (w : World) (h : InI w A n xs) (_hR : Room A n c) :
    Calls Try.prog 103 #[.agg #[.bool g, .slice A n c]] w fun e w' => ∃ b, e = .returned (.bool b) ∧ BigIntOkIs g xs b ∧ Below w.heap.size w w' :=
  (spec_bigOk' g A n c xs w h).mono fun _ _ ⟨⟨b, he, hi⟩, hw⟩ => ⟨b, he, hi, hw⟩

/-- What a function that hands back a big integer ends in. -/
def BigEnd (Q : Bool → List Int → Prop) (w w' : World) (e : Ending) : Prop := ∃ g r v, e = .returned (.agg #[.bool g, v]) ∧ Q g r ∧ ResI w w' v r ∧ Below w.heap.size w w'
theorem bigEnd_zero {Q : Bool → List Int → Prop} {w w' : World} (h : Q false []) (hb : Below w.heap.size w w') : BigEnd Q w w' (.returned (.agg #[.bool false, .slice none 0 0])) :=
  ⟨false, [], _, rfl, h, ⟨by simp, World.ownsRow_nil _ _ _ _⟩, hb⟩
set_option maxHeartbeats 800000 in
theorem spec_bigOf' (n : Int) (w : World) (hn : -9223372036854775808 ≤ n ∧ n ≤ 9223372036854775807) :
    Calls Try.prog 108 #[.int .i64 n] w fun e w' => BigEnd (BigIntOfIs n) w w' e := by
  obtain ⟨hn0, hn1⟩ := hn
  have hbox := Lib.hid (Box.new w 24 #[.bool false, .slice none 0 0])
  have hbw := Lib.hid ((Below.refl w.heap.size w).alloc (Nat.le_refl _) (.cells #[.bool false, .slice none 0 0] 24))
  by_cases hmin : n = -9223372036854775808
  · have hr : Hid (Reads ((w.alloc (.cells #[.bool false, .slice none 0 0] 24)).alloc (.cells #[.int .i64 854775808, .int .i64 223372036, .int .i64 9] 3)) (some ⟨w.heap.size + 1, 0, none⟩) ([854775808, 223372036, 9].map (.int .i64))) :=
      .inr ⟨w.heap.size + 1, 0, rfl, by simp, by have := cells_new (w.alloc (.cells #[.bool false, .slice none 0 0] 24)) [.int .i64 854775808, .int .i64 223372036, .int .i64 9] 3; simpa using this⟩
    have hfin : Hid (∀ r, (∃ l, Canon l ∧ val l = val [854775808, 223372036, 9] ∧ r = cap l) → BigIntOfIs n (sgn true r) r) := fun r h => make_rep h (by rw [hmin]; decide) (fun _ => by rw [hmin]; decide)
    have hmb : (n == -9223372036854775808) = true := by rw [hmin]; decide
    have hin : Hid (InR [854775808, 223372036, 9]) := by intro d hd; simp at hd; omega
    clear hmin
    go_enter Try.func108, Try.ntmps108
    go_wp2_with fail
    refine (spec_make true (some ⟨w.heap.size + 1, 0, none⟩) 3 3 [854775808, 223372036, 9] _ rfl (by decide) ⟨Nat.le_refl _, fun h => by cases h⟩ hr.out hin.out).mono ?_
    rintro e w2 ⟨r, v, rfl, hm, ⟨hl, ho⟩, hb⟩
    obtain ⟨N, hN⟩ : ∃ N, N = r.length := ⟨_, rfl⟩
    rw [← hN] at hl ho
    obtain ⟨A1, c1, rfl⟩ := own_slice ho
    obtain ⟨e0, e1, f0, f1, hfn⟩ := tail_facts (g := w.heap.size) (hbox.out.alloc (.cells #[.int .i64 854775808, .int .i64 223372036, .int .i64 9] 3)) hb (hbw.out.alloc hbw.out.size _) (by omega) ho
    simp at e0 e1
    have HQ := Lib.hid (hfin.out r hm)
    obtain ⟨s, hs⟩ : ∃ s, s = sgn true r := ⟨_, rfl⟩
    rw [← hs] at HQ ⊢
    have HO := Lib.hid (hfn (.bool s) (.slice A1 N c1))
    have HN := Lib.hid hN
    have HL := Lib.hid hl
    clear hs ho hb hN hfn hl
    go_wp2_with fail
    refine bodyPost_ret (v := .agg #[.bool s, .slice A1 N c1]) (by simp [results, Try.results108, e0, e1, go_sem]) rfl ?_
    exact ⟨s, r, _, rfl, HQ.out, ⟨by rw [← HN.out]; exact HL.out, by rw [← HN.out]; exact HO.out.1⟩, HO.out.2⟩
  have hmb : (n == -9223372036854775808) = false := by simpa using hmin
  have hlo : -9223372036854775807 ≤ n := by omega
  clear hmin
  by_cases hneg : n < 0
  · go_enter Try.func108, Try.ntmps108
    go_wp2_with fail
    refine (spec_natOf (-n) _ ⟨by omega, by omega⟩).mono ?_
    rintro e w1 ⟨rs, v0, rfl, hof, ⟨hl0, ho0⟩, hb0⟩
    have hbx1 := Lib.hid (hbox.out.below hb0 (by simp))
    have hbw1 := Lib.hid (hbw.out.trans (hb0.mono hbw.out.size))
    have hin := Lib.hid hof.1.1
    have hfin := Lib.hid (fun r hm => of_neg (r := r) hneg hof hm)
    obtain ⟨M, hM⟩ : ∃ M, M = rs.length := ⟨_, rfl⟩
    rw [← hM] at hl0 ho0
    obtain ⟨A0, c0, rfl⟩ := own_slice ho0
    have HO0 := Lib.hid ho0
    have HM := Lib.hid hM
    clear hof ho0 hb0 hM
    go_wp2_with fail
    refine (spec_make true A0 M c0 rs _ HM.out.symm hl0 (room_own HO0.out) (Reads.of_own HO0.out) hin.out).mono ?_
    rintro e w2 ⟨r, v, rfl, hm, ⟨hl, ho⟩, hb⟩
    obtain ⟨N, hN⟩ : ∃ N, N = r.length := ⟨_, rfl⟩
    rw [← hN] at hl ho
    obtain ⟨A1, c1, rfl⟩ := own_slice ho
    obtain ⟨e0, e1, f0, f1, hfn⟩ := tail_facts (g := w.heap.size) (hbx1.out) hb (hbw1.out) (by omega) ho
    simp at e0 e1
    have HQ := Lib.hid (hfin.out r hm)
    obtain ⟨s, hs⟩ : ∃ s, s = sgn true r := ⟨_, rfl⟩
    rw [← hs] at HQ ⊢
    have HO := Lib.hid (hfn (.bool s) (.slice A1 N c1))
    have HN := Lib.hid hN
    have HL := Lib.hid hl
    clear hs ho hb hN hfn hl
    go_wp2_with fail
    refine bodyPost_ret (v := .agg #[.bool s, .slice A1 N c1]) (by simp [results, Try.results108, e0, e1, go_sem]) rfl ?_
    exact ⟨s, r, _, rfl, HQ.out, ⟨by rw [← HN.out]; exact HL.out, by rw [← HN.out]; exact HO.out.1⟩, HO.out.2⟩
  · go_enter Try.func108, Try.ntmps108
    go_wp2_with fail
    refine (spec_natOf n _ ⟨by omega, by omega⟩).mono ?_
    rintro e w1 ⟨rs, v0, rfl, hof, ⟨hl0, ho0⟩, hb0⟩
    have hbx1 := Lib.hid (hbox.out.below hb0 (by simp))
    have hbw1 := Lib.hid (hbw.out.trans (hb0.mono hbw.out.size))
    have hin := Lib.hid hof.1.1
    have hfin := Lib.hid (fun r hm => of_pos (r := r) (by omega) hof hm)
    obtain ⟨M, hM⟩ : ∃ M, M = rs.length := ⟨_, rfl⟩
    rw [← hM] at hl0 ho0
    obtain ⟨A0, c0, rfl⟩ := own_slice ho0
    have HO0 := Lib.hid ho0
    have HM := Lib.hid hM
    clear hof ho0 hb0 hM
    go_wp2_with fail
    refine (spec_make false A0 M c0 rs _ HM.out.symm hl0 (room_own HO0.out) (Reads.of_own HO0.out) hin.out).mono ?_
    rintro e w2 ⟨r, v, rfl, hm, ⟨hl, ho⟩, hb⟩
    obtain ⟨N, hN⟩ : ∃ N, N = r.length := ⟨_, rfl⟩
    rw [← hN] at hl ho
    obtain ⟨A1, c1, rfl⟩ := own_slice ho
    obtain ⟨e0, e1, f0, f1, hfn⟩ := tail_facts (g := w.heap.size) (hbx1.out) hb (hbw1.out) (by omega) ho
    simp at e0 e1
    have HQ := Lib.hid (hfin.out r hm)
    obtain ⟨s, hs⟩ : ∃ s, s = sgn false r := ⟨_, rfl⟩
    rw [← hs] at HQ ⊢
    have HO := Lib.hid (hfn (.bool s) (.slice A1 N c1))
    have HN := Lib.hid hN
    have HL := Lib.hid hl
    clear hs ho hb hN hfn hl
    go_wp2_with fail
    refine bodyPost_ret (v := .agg #[.bool s, .slice A1 N c1]) (by simp [results, Try.results108, e0, e1, go_sem]) rfl ?_
    exact ⟨s, r, _, rfl, HQ.out, ⟨by rw [← HN.out]; exact HL.out, by rw [← HN.out]; exact HO.out.1⟩, HO.out.2⟩
theorem spec_bigIntOf (n : Int) (w : World) (hn : -9223372036854775808 ≤ n ∧ n ≤ 9223372036854775807) :
    Calls Try.prog 108 #[.int .i64 n] w fun e w' => ∃ g r v, e = .returned (.agg #[.bool g, v]) ∧ BigIntOfIs n g r ∧ ResI w w' v r ∧ Below w.heap.size w w' :=
  (spec_bigOf' n w hn).mono fun _ _ ⟨g, r, v, he, hi, hr, hb⟩ => ⟨g, r, v, he, hi, hr, hb⟩

def BToIntEnd (g : Bool) (xs : List Int) (e : Ending) : Prop := ∃ v b, e = .returned (.tuple #[.int .i64 v, .bool b]) ∧ BigIntToIntIs g xs v b

end Go.Proofs.Ytjggdbakbhacjaa
