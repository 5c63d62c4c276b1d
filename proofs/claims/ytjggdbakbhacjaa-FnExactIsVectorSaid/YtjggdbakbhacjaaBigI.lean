/- Contracts of the program's big integers: signs, valid or not, from and to int, the negative. -/
import Derived.Test.YtjggdbakbhacjaaBigS4
import Derived.Test.YtjggdbakbhacjaaIm4
import Derived.Test.YtjggdbakbhacjaaIm5
namespace Go.Proofs.Ytjggdbakbhacjaa
set_option maxRecDepth 100000
open Go.RowKit

theorem one_box {w : World} {b0 : Nat} {t : TypeId} {u0 u1 : Value} (h : Box w b0 t #[u0, u1]) : w.cell? ⟨b0, 0, none⟩ = some u0 ∧ w.cell? ⟨b0, 1, none⟩ = some u1 := ⟨h.cell 0, h.cell 1⟩
theorem box_facts {w : World} {g : Nat} {t : TypeId} {cs : Array Value} (h : Box w g t cs) : Box w g t cs ∧ w.cell? ⟨g, 0, none⟩ = cs[0]? ∧ w.cell? ⟨g, 1, none⟩ = cs[1]? ∧ w.frozen? ⟨g, 0, none⟩ = false ∧ w.frozen? ⟨g, 1, none⟩ = false := ⟨h, h.cell 0, h.cell 1, h.free 0, h.free 1⟩
set_option maxHeartbeats 400000 in
theorem impl_signOf (g : Bool) (A : Option Addr) (n c : Nat) (s : Int) (w : World) (hs : sg g n = s) (_hn : n ≤ 1048576) :
    Calls Try.prog 148 #[.agg #[.bool g, .slice A n c]] w fun e w' => e = .returned (.int .i64 s) ∧ Below w.heap.size w w' := by
  cases g
  · by_cases h0 : n = 0
    · have hfin : Hid (0 = s) := by rw [← hs, h0]; rfl
      have ht : ((n : Int) == 0) = true := by simp [h0]
      clear hs h0
      go_enter Try.func148, Try.ntmps148
      go_wp2_with fail
      go_ret
      exact ⟨ret_int hfin.out, (Below.refl _ _).alloc (Nat.le_refl _) _⟩
    · have hfin : Hid (1 = s) := by unfold Hid; rw [← hs]; simp [sg, h0]
      have ht : ((n : Int) == 0) = false := by simp [h0]
      clear hs h0
      go_enter Try.func148, Try.ntmps148
      go_wp2_with fail
      go_ret
      exact ⟨ret_int hfin.out, (Below.refl _ _).alloc (Nat.le_refl _) _⟩
  · have hfin : Hid (-1 = s) := by rw [← hs]; rfl
    clear hs
    go_enter Try.func148, Try.ntmps148
    go_wp2_with fail
    go_ret
    exact ⟨ret_int hfin.out, (Below.refl _ _).alloc (Nat.le_refl _) _⟩

/-- A sign put to limbs: the limbs stay where they lie. -/
def WithEnd (b : Bool) (base : Nat) (A : Option Addr) (n c : Nat) (xs : List Int) (w w' : World) (e : Ending) : Prop :=
  ∃ v, e = .returned (.agg #[.bool (sgn b xs), v]) ∧ (v = .slice A n c ∨ v = .slice none 0 0) ∧ w'.ownsRow base 3 1 v n (xs.map (.int .i64)) ∧ Below w.heap.size w w'
set_option maxHeartbeats 800000 in
theorem impl_withSign (s : Int) (b : Bool) (hs : decide (s = -1) = b) (base : Nat) (A : Option Addr) (n c : Nat) (xs : List Int) (w : World) (hn : xs.length = n) (_hb : n ≤ 4194304) (ho : w.ownsRow base 3 1 (.slice A n c) n (xs.map (.int .i64))) :
    Calls Try.prog 94 #[.int .i64 s, .slice A n c] w fun e w' => WithEnd b base A n c xs w w' e := by
  have HO := Lib.hid (ho.alloc (.cells #[.bool false, .slice none 0 0] 24))
  have hr_0 := Lib.hid (by have := Box.new w 24 #[.bool false, .slice none 0 0]; simpa using this : Box (w.alloc (.cells #[.bool false, .slice none 0 0] 24)) (w.heap.size) 24 #[.bool false, .slice none 0 0])
  have BW_0 := Lib.hid ((Below.refl w.heap.size w).alloc (by simp) (.cells #[.bool false, .slice none 0 0] 24))
  by_cases h0 : n = 0
  · have hx := Lib.hid (List.eq_nil_of_length_eq_zero (hn.trans h0))
    have HN := Lib.hid h0
    have ht : ((n : Int) == 0) = true := by simp [h0]
    clear h0 ho hn
    go_enter Try.func94, Try.ntmps94
    go_wp2_with fail
    refine bodyPost_ret (v := .agg #[.bool false, .slice none 0 0]) (by simp [results, Try.results94, go_sem]) rfl ?_
    rw [hx.out, HN.out]
    exact ⟨_, by simp [sgn], .inr rfl, World.ownsRow_nil _ _ _ _, (Below.refl _ _).alloc (Nat.le_refl _) _⟩
  · have ht : ((n : Int) == 0) = false := by simp [h0]
    have hne : xs ≠ [] := fun h => h0 (by rw [← hn, h]; rfl)
    have hq : (s == -1) = b := hs
    have HQ : Hid (sgn b xs = b) := by unfold Hid sgn; simp [hne]
    have HO2 := Lib.hid (fun b => ho.alloc (.cells #[.bool b, .slice A n c] 24))
    clear h0 ho hn hne
    go_enter Try.func94, Try.ntmps94
    go_wp2_with fail
    refine bodyPost_ret (v := .agg #[.bool b, .slice A n c]) (by simp [results, Try.results94, go_sem]) rfl ?_
    exact ⟨_, by rw [HQ.out], .inl rfl, HO2.out _, (Below.refl _ _).alloc (Nat.le_refl _) _⟩

set_option maxHeartbeats 400000 in
theorem impl_bigOk' (g : Bool) (A : Option Addr) (n c : Nat) (xs : List Int) (w : World) (h : InI w A n xs) :
    Calls Try.prog 97 #[.agg #[.bool g, .slice A n c]] w fun e w' => BOkEnd g xs e ∧ Below w.heap.size w w' := by
  have H := Lib.hid h
  have hn := h.2.1
  clear h
  have con := fun (x : Value) (t : TypeId) => impl_natOk' A n c xs (w.alloc (.cells #[.bool g, x] t)) (H.out.below ((Below.refl _ _).alloc (Nat.le_refl _) _))
  have Con := Lib.hid con
  clear con
  have HF0 := Lib.hid (fun b (hb : NatOkIs xs b) => bigOk_mk (g := g) hb H.out.1)
  by_cases h0 : 0 < n
  all_goals
    cases g
    all_goals
      go_enter Try.func97, Try.ntmps97
      go_wp2_with fail
      refine (Con.out _ _).mono ?_
      rintro e w1 ⟨⟨b, rfl, hb⟩, rfl⟩
      have HF := Lib.hid (HF0.out _ hb)
      clear hb
      cases b
      all_goals
        go_wp2_with fail
        go_ret
        exact ⟨⟨_, rfl, by have := HF.out; simpa [h0] using this⟩, (Below.refl _ _).alloc (Nat.le_refl _) _⟩
theorem impl_bigIntOk (g : Bool) (A : Option Addr) (n c : Nat) (xs : List Int) (w : World) (h : InI w A n xs) (_hR : Room A n c) :
    Calls Try.prog 97 #[.agg #[.bool g, .slice A n c]] w fun e w' => ∃ b, e = .returned (.bool b) ∧ BigIntOkIs g xs b ∧ Below w.heap.size w w' :=
  (impl_bigOk' g A n c xs w h).mono fun _ _ ⟨⟨b, he, hi⟩, hw⟩ => ⟨b, he, hi, hw⟩


theorem natOf_ok {n : Int} {r : List Int} (h : NatOfIs n r) (hn : n ≤ 9223372036854775807) : Ok r := by
  refine ⟨h.1, ?_⟩
  have hp : pw 3 = 1000000000000000000000000000 := by decide
  have : r.length ≤ 3 := short_of h.1 (by rw [h.2, hp]; split <;> omega)
  omega
theorem of_pos_i {n : Int} {r : List Int} (hn : 0 ≤ n) (hn1 : n ≤ 9223372036854775807) (h : NatOfIs n r) : BigIntOfIs n (sgn false r) r := by
  have hok := natOf_ok h hn1
  exact of_pos hn h (ok_cap hok)
theorem of_neg_i {n : Int} {a b r : List Int} (hn : n < 0) (hn1 : -9223372036854775808 ≤ n) (ha : NatOfIs (-(n + 1)) a) (hb : NatOfIs 1 b) (h : NatAddIs a b r) : BigIntOfIs n (sgn true r) r := by
  obtain ⟨l, hc, hv, hr⟩ := bin_cap h ⟨natOf_ok ha (by omega), natOf_ok hb (by omega)⟩
  refine make_rep (n := true) ⟨l, hc, rfl, hr⟩ ?_ (fun _ => by simp; omega)
  have e1 := ha.2
  have e2 := hb.2
  rw [if_neg (by omega)] at e2
  rw [hv, e2, e1]; split <;> omega
theorem own_rows {w w1 : World} {v : Value} {r : List Int} (h : ResI w w1 v r) : ∃ A c, v = .slice A r.length c ∧ r.length ≤ 4194304 ∧ w1.ownsRow w.heap.size 3 1 (.slice A r.length c) r.length (r.map (.int .i64)) := by
  obtain ⟨A, c, rfl⟩ := own_slice h.2
  exact ⟨A, c, rfl, h.1, h.2⟩
set_option maxHeartbeats 1600000 in
theorem impl_bigOf' (n : Int) (w : World) (hn : -9223372036854775808 ≤ n ∧ n ≤ 9223372036854775807) :
    Calls Try.prog 49 #[.int .i64 n] w fun e w' => BigEnd (BigIntOfIs n) w w' e := by
  obtain ⟨hn0, hn1⟩ := hn
  have hr_0 := Lib.hid (by have := Box.new w 24 #[.bool false, .slice none 0 0]; simpa using this : Box (w.alloc (.cells #[.bool false, .slice none 0 0] 24)) (w.heap.size) 24 #[.bool false, .slice none 0 0])
  have BW_0 := Lib.hid ((Below.refl w.heap.size w).alloc (by simp) (.cells #[.bool false, .slice none 0 0] 24))
  by_cases hneg : n < 0
  · have hge : ¬ 0 ≤ n := by omega
    go_enter Try.func49, Try.ntmps49
    go_wp2_with fail
    refine (impl_natOf (-(n + 1)) _ ⟨by omega, by omega⟩).mono ?_
    rintro e w1 ⟨ra, v0, rfl, hof, hr0, hb⟩
    have hr_1 := Lib.hid (hr_0.out.below hb hr_0.out.lt)
    have BW_1 := Lib.hid (BW_0.out.trans (hb.mono BW_0.out.size))
    obtain ⟨A0, c0, rfl, hl0, ho0⟩ := own_rows hr0
    have HIa := Lib.hid (in_own (natOf_ok hof (by omega)) ho0)
    have HA := Lib.hid hof
    obtain ⟨M, hM⟩ : ∃ M, M = ra.length := ⟨_, rfl⟩
    rw [← hM] at HIa ⊢
    clear hof hr0 hb ho0 hl0 hM
    go_wp2_with fail
    refine (impl_natOf 1 _ ⟨by omega, by omega⟩).mono ?_
    rintro e w2 ⟨rb, v1, rfl, hof, hr0, hb⟩
    have hr_2 := Lib.hid (hr_1.out.below hb hr_1.out.lt)
    have BW_2 := Lib.hid (BW_1.out.trans (hb.mono BW_1.out.size))
    obtain ⟨A1, c1, rfl, hl0, ho0⟩ := own_rows hr0
    have HIb := Lib.hid (in_own (natOf_ok hof (by omega)) ho0)
    have HIa2 := Lib.hid (HIa.out.below hb)
    have HB := Lib.hid hof
    obtain ⟨M1, hM⟩ : ∃ M, M = rb.length := ⟨_, rfl⟩
    rw [← hM] at HIb ⊢
    clear hof hr0 hb ho0 hl0 hM
    go_wp2_with fail
    refine (impl_natAdd A0 M c0 ra A1 M1 c1 rb _ HIa2.out HIb.out).mono ?_
    rintro e w3 ⟨r, v, rfl, hadd, hres, hb⟩
    have HG := Lib.hid hr_2.out.lt
    have hr_3 := Lib.hid (hr_2.out.below hb hr_2.out.lt)
    have BW_3 := Lib.hid (BW_2.out.trans (hb.mono BW_2.out.size))
    have HQ0 := Lib.hid (of_neg_i hneg hn0 HA.out HB.out hadd)
    clear hadd
    obtain ⟨A2, c2, rfl, hl, ho⟩ := own_rows hres
    have HO := Lib.hid ho
    obtain ⟨N, hN⟩ : ∃ N, N = r.length := ⟨_, rfl⟩
    rw [← hN] at HO hl ⊢
    have HN := Lib.hid hN
    have HL := Lib.hid hl
    clear hres ho hN hb
    go_wp2_with fail
    refine (impl_withSign ((-1)) true (by decide) _ A2 N c2 r _ HN.out.symm HL.out HO.out).mono ?_
    rintro e w4 ⟨v, rfl, hv, ho, hb⟩
    obtain ⟨A9, c9, rfl⟩ : ∃ A c, v = .slice A N c := own_slice ho
    obtain ⟨bx, e0, e1, f0, f1⟩ := box_facts (hr_3.out.below hb hr_3.out.lt)
    simp at e0 e1
    have HV2 := Lib.hid (tail2 (g := w.heap.size) ho (HG.out) (BW_3.out.trans (hb.mono BW_3.out.size)) (by omega))
    obtain ⟨s, hs⟩ : ∃ s, s = sgn true r := ⟨_, rfl⟩
    have HQ := Lib.hid (HQ0.out)
    rw [← hs] at HQ ⊢
    have HV := Lib.hid (HV2.out (.bool s) (.slice A9 N c9))
    clear hs hv ho hb HV2 bx
    go_wp2_with fail
    refine bodyPost_ret (v := .agg #[.bool s, .slice A9 N c9]) (by simp [results, Try.results49, e0, e1, go_sem]) rfl ?_
    exact ⟨s, r, _, rfl, HQ.out, ⟨by rw [← HN.out]; exact HL.out, by rw [← HN.out]; exact HV.out.1⟩, HV.out.2⟩
  · have hge : 0 ≤ n := by omega
    go_enter Try.func49, Try.ntmps49
    go_wp2_with fail
    refine (impl_natOf n _ ⟨by omega, by omega⟩).mono ?_
    rintro e w3 ⟨r, v, rfl, hof, hres, hb⟩
    have HG := Lib.hid hr_0.out.lt
    have hr_3 := Lib.hid (hr_0.out.below hb hr_0.out.lt)
    have BW_3 := Lib.hid (BW_0.out.trans (hb.mono BW_0.out.size))
    have HQ0 := Lib.hid (of_pos_i hge hn1 hof)
    clear hof
    obtain ⟨A2, c2, rfl, hl, ho⟩ := own_rows hres
    have HO := Lib.hid ho
    obtain ⟨N, hN⟩ : ∃ N, N = r.length := ⟨_, rfl⟩
    rw [← hN] at HO hl ⊢
    have HN := Lib.hid hN
    have HL := Lib.hid hl
    clear hres ho hN hb
    go_wp2_with fail
    refine (impl_withSign (1) false (by decide) _ A2 N c2 r _ HN.out.symm HL.out HO.out).mono ?_
    rintro e w4 ⟨v, rfl, hv, ho, hb⟩
    obtain ⟨A9, c9, rfl⟩ : ∃ A c, v = .slice A N c := own_slice ho
    obtain ⟨bx, e0, e1, f0, f1⟩ := box_facts (hr_3.out.below hb hr_3.out.lt)
    simp at e0 e1
    have HV2 := Lib.hid (tail2 (g := w.heap.size) ho (HG.out) (BW_3.out.trans (hb.mono BW_3.out.size)) (by omega))
    obtain ⟨s, hs⟩ : ∃ s, s = sgn false r := ⟨_, rfl⟩
    have HQ := Lib.hid (HQ0.out)
    rw [← hs] at HQ ⊢
    have HV := Lib.hid (HV2.out (.bool s) (.slice A9 N c9))
    clear hs hv ho hb HV2 bx
    go_wp2_with fail
    refine bodyPost_ret (v := .agg #[.bool s, .slice A9 N c9]) (by simp [results, Try.results49, e0, e1, go_sem]) rfl ?_
    exact ⟨s, r, _, rfl, HQ.out, ⟨by rw [← HN.out]; exact HL.out, by rw [← HN.out]; exact HV.out.1⟩, HV.out.2⟩
theorem impl_bigIntOf (n : Int) (w : World) (hn : -9223372036854775808 ≤ n ∧ n ≤ 9223372036854775807) :
    Calls Try.prog 49 #[.int .i64 n] w fun e w' => ∃ g r v, e = .returned (.agg #[.bool g, v]) ∧ BigIntOfIs n g r ∧ ResI w w' v r ∧ Below w.heap.size w w' :=
  (impl_bigOf' n w hn).mono fun _ _ ⟨g, r, v, he, hi, hr, hb⟩ => ⟨g, r, v, he, hi, hr, hb⟩
end Go.Proofs.Ytjggdbakbhacjaa
