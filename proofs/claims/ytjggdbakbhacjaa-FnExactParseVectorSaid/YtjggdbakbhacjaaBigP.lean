/- Contracts of ParseBigInt: the model's and the program's. -/
import Derived.Test.YtjggdbakbhacjaaGC
import Derived.Test.YtjggdbakbhacjaaPar
namespace Go.Proofs.Ytjggdbakbhacjaa
set_option maxRecDepth 100000
open Go.RowKit

/-- Does it begin with a minus? What stands behind it. -/
def negT (s : ByteArray) : Bool := decide (s.data.toList.head? = some 45)
def bodyT (s : ByteArray) : ByteArray := if negT s = true then s.extract 1 s.size else s
def Parsed (s : ByteArray) (r : List Int) : Prop := ParseNatIs (bodyT s) r true ∧ (negT s = true → r ≠ [])
def ParseBigIntIs (s : ByteArray) (g : Bool) (r : List Int) (b : Bool) : Prop :=
  (b = true ∧ g = negT s ∧ Parsed s r) ∨ (b = false ∧ g = false ∧ r = [] ∧ ¬ ∃ q, Parsed s q)
theorem parseBigInt_unique {s : ByteArray} {g g' b b' : Bool} {r r' : List Int} (h : ParseBigIntIs s g r b) (h' : ParseBigIntIs s g' r' b') : g = g' ∧ r = r' ∧ b = b' := by
  rcases h with ⟨rfl, rfl, k⟩ | ⟨rfl, rfl, rfl, k⟩ <;> rcases h' with ⟨rfl, rfl, k'⟩ | ⟨rfl, rfl, rfl, k'⟩
  · exact ⟨rfl, (parseNat_unique k.1 k'.1).1, rfl⟩
  · exact absurd ⟨_, k⟩ k'
  · exact absurd ⟨_, k'⟩ k
  · exact ⟨rfl, rfl, rfl⟩
def ParBEnd (s : ByteArray) (w w' : World) (e : Ending) : Prop := ∃ g r v b, e = .returned (.tuple #[.agg #[.bool g, v], .bool b]) ∧ ParseBigIntIs s g r b ∧ ResI w w' v r ∧ Below w.heap.size w w'
theorem parB_no {s : ByteArray} {w w' : World} (h : ¬ ∃ q, Parsed s q) (hb : Below w.heap.size w w') : ParBEnd s w w' (.returned (.tuple #[.agg #[.bool false, .slice none 0 0], .bool false])) :=
  ⟨false, [], _, false, rfl, .inr ⟨rfl, rfl, rfl, h⟩, ⟨by simp, World.ownsRow_nil _ _ _ _⟩, hb⟩
theorem negT_nil {s : ByteArray} (h : s.size = 0) : negT s = false := by
  have : s.data.toList = [] := List.eq_nil_of_length_eq_zero (by rw [len_size]; exact h)
  unfold negT; rw [this]; rfl
theorem negT_at {s : ByteArray} (h : 0 < s.size) : negT s = decide (s[0] = 45) := by
  unfold negT; rw [head_at s h]; simp
theorem parsed_no {s : ByteArray} {r : List Int} (h : ParseNatIs (bodyT s) r false) : ¬ ∃ q, Parsed s q := fun ⟨q, hq⟩ => by
  have := (parseNat_unique h hq.1).2; cases this
theorem parsed_zero {s : ByteArray} (hn : negT s = true) (h : ParseNatIs (bodyT s) [] true) : ¬ ∃ q, Parsed s q := fun ⟨q, hq⟩ => by
  obtain ⟨rfl, _⟩ := parseNat_unique h hq.1
  exact hq.2 hn rfl
theorem pw_pow : ∀ k, pw k = ((10 ^ (9 * k) : Nat) : Int)
  | 0 => rfl
  | k + 1 => by
    rw [pw, pw_pow k, Nat.mul_add, Nat.pow_add]
    have : (10 : Nat) ^ (9 * 1) = 1000000000 := by decide
    rw [this, Int.natCast_mul, Int.mul_comm]; rfl
theorem lt_pw {l : List UInt8} (hd : l.all digB = true) (k : Nat) (h : l.length ≤ 9 * k) : ((valFrom 0 l : Nat) : Int) < pw k := by
  rw [pw_pow]
  exact Int.ofNat_lt.2 (Nat.lt_of_lt_of_le (valFrom_lt l hd) (Nat.pow_le_pow_right (by omega) h))
theorem parse_ok {s : ByteArray} {r : List Int} (h : ParseNatIs s r true) : Ok r := by
  rcases h with ⟨_, hn, hc, hv⟩ | ⟨h, _⟩
  · refine ⟨hc, short_of hc ?_⟩
    obtain ⟨hd, h540, _⟩ := hn
    rw [hv]
    unfold worth
    rw [List.take_of_length_le (by rw [len_size]; exact Nat.le_refl _)]
    exact lt_pw (digits_pos s hd).2 60 (by rw [len_size]; omega)
  · cases h
theorem parsed_mk {s : ByteArray} {r : List Int} (h : ParseNatIs (bodyT s) r true) (hn : BOk (negT s) r) : Parsed s r := ⟨h, fun e => hn.2 e⟩
set_option maxHeartbeats 1600000 in
theorem spec_parseBigInt' (s : ByteArray) (w : World) (hs : s.size ≤ 1048576) :
    Calls Try.prog 44 #[.string s] w fun e w' => ParBEnd s w w' e := by
  have hr_0 := Lib.hid (by have := Box.new w 24 #[.bool false, .slice none 0 0]; simpa using this : Box (w.alloc (.cells #[.bool false, .slice none 0 0] 24)) (w.heap.size) 24 #[.bool false, .slice none 0 0])
  have BW_0 := Lib.hid ((Below.refl w.heap.size w).alloc (by simp) (.cells #[.bool false, .slice none 0 0] 24))
  have hcase : (s.size < 1 ∧ Hid (negT s = false)) ∨ (0 < s.size ∧ ∃ h : 0 < s.size, Hid (negT s = true) ∧ ((s[0].toNat : Int) == 45) = true) ∨ (0 < s.size ∧ ∃ h : 0 < s.size, Hid (negT s = false) ∧ ((s[0].toNat : Int) == 45) = false) := by
    by_cases h0 : s.size = 0
    · exact .inl ⟨by omega, negT_nil h0⟩
    · have h1 : 0 < s.size := by omega
      by_cases h2 : s[0] = 45
      · exact .inr (.inl ⟨h1, h1, by unfold Hid; rw [negT_at h1, decide_eq_true h2], by rw [h2]; rfl⟩)
      · refine .inr (.inr ⟨h1, h1, by unfold Hid; rw [negT_at h1, decide_eq_false h2], ?_⟩)
        have : s[0].toNat ≠ 45 := fun e => h2 (UInt8.toNat_inj.1 e)
        simp; omega
  rcases hcase with ⟨h0, hn⟩ | ⟨h0, _, hn, hc⟩ | ⟨h0, _, hn, hc⟩
  · have hbd : Hid (bodyT s = s) := by unfold bodyT Hid; rw [hn.out]; simp
    go_enter Try.func44, Try.ntmps44
    go_wp2_with fail
    refine (spec_parseNat' s _ hs).mono ?_
    rintro e w1 ⟨r, v, b, rfl, hp, hres, hb⟩
    have HP : Hid (ParseNatIs (bodyT s) r b) := by unfold Hid; rw [hbd.out]; exact hp
    have hr_1 := Lib.hid (hr_0.out.below hb hr_0.out.lt)
    have BW_1 := Lib.hid (BW_0.out.trans (hb.mono BW_0.out.size))
    obtain ⟨A1, c1, rfl, hl, ho⟩ := own_rows hres
    have HG := Lib.hid hr_0.out.lt
    obtain ⟨N, hN⟩ : ∃ N, N = r.length := ⟨_, rfl⟩
    rw [← hN] at hl ho ⊢
    have HO := Lib.hid ho
    have HN := Lib.hid hN
    have HL := Lib.hid hl
    clear hp hres hb ho hN
    cases b
    · have HNO := Lib.hid (parsed_no HP.out)
      have HF := Lib.hid (parB_no (w := w) HNO.out (below_two (g := w.heap.size) BW_1.out (Nat.le_refl _) (.bool false) (.slice none 0 0)))
      have ehr0 := hr_1.out.cell 0
      have ehr1 := hr_1.out.cell 1
      have fhr0 := hr_1.out.free 0
      have fhr1 := hr_1.out.free 1
      simp at ehr0 ehr1
      go_wp2_with fail
      refine bodyPost_ret (v := .tuple #[.agg #[.bool false, .slice none 0 0], .bool false]) (by simp [results, Try.results44, ehr0, ehr1, go_sem]) rfl ?_
      exact HF.out
    · have HY : Hid (Parsed s r) := ⟨HP.out, fun e => by rw [hn.out] at e; cases e⟩
      have HV := Lib.hid (tail2 (g := w.heap.size) HO.out HG.out BW_1.out (Nat.le_refl _) (.bool false) (.slice A1 N c1))
      have ehr0 := hr_1.out.cell 0
      have ehr1 := hr_1.out.cell 1
      have fhr0 := hr_1.out.free 0
      have fhr1 := hr_1.out.free 1
      simp at ehr0 ehr1
      go_wp2_with fail
      refine bodyPost_ret (v := .tuple #[.agg #[.bool false, .slice A1 N c1], .bool true]) (by simp [results, Try.results44, ehr0, ehr1, go_sem]) rfl ?_
      exact ⟨false, r, _, true, rfl, .inl ⟨rfl, hn.out.symm, HY.out⟩, ⟨by rw [← HN.out]; exact HL.out, by rw [← HN.out]; exact HV.out.1⟩, HV.out.2⟩
  · have hbd : Hid (bodyT s = s.extract 1 s.size) := by unfold bodyT Hid; rw [hn.out]; simp
    go_enter Try.func44, Try.ntmps44
    go_wp2_with fail
    refine (spec_parseNat' (s.extract 1 s.size) _ (by simp; omega)).mono ?_
    rintro e w1 ⟨r, v, b, rfl, hp, hres, hb⟩
    have HP : Hid (ParseNatIs (bodyT s) r b) := by unfold Hid; rw [hbd.out]; exact hp
    have hr_1 := Lib.hid (hr_0.out.below hb hr_0.out.lt)
    have BW_1 := Lib.hid (BW_0.out.trans (hb.mono BW_0.out.size))
    obtain ⟨A1, c1, rfl, hl, ho⟩ := own_rows hres
    have HG := Lib.hid hr_0.out.lt
    obtain ⟨N, hN⟩ : ∃ N, N = r.length := ⟨_, rfl⟩
    rw [← hN] at hl ho ⊢
    have HO := Lib.hid ho
    have HN := Lib.hid hN
    have HL := Lib.hid hl
    clear hp hres hb ho hN
    cases b
    · have HNO := Lib.hid (parsed_no HP.out)
      have HF := Lib.hid (parB_no (w := w) HNO.out (below_two (g := w.heap.size) BW_1.out (Nat.le_refl _) (.bool false) (.slice none 0 0)))
      have ehr0 := hr_1.out.cell 0
      have ehr1 := hr_1.out.cell 1
      have fhr0 := hr_1.out.free 0
      have fhr1 := hr_1.out.free 1
      simp at ehr0 ehr1
      go_wp2_with fail
      refine bodyPost_ret (v := .tuple #[.agg #[.bool false, .slice none 0 0], .bool false]) (by simp [results, Try.results44, ehr0, ehr1, go_sem]) rfl ?_
      exact HF.out
    · by_cases hN0 : N = 0
      · have HNO : Hid (¬ ∃ q, Parsed s q) := by
          have hr0 := List.eq_nil_of_length_eq_zero (HN.out.symm.trans hN0)
          have := HP.out
          rw [hr0] at this
          exact parsed_zero hn.out this
        have ht : ((N : Int) == 0) = true := by simp [hN0]
        clear hN0
        have HF := Lib.hid (parB_no (w := w) HNO.out (below_two (g := w.heap.size) BW_1.out (Nat.le_refl _) (.bool false) (.slice none 0 0)))
        have ehr0 := hr_1.out.cell 0
        have ehr1 := hr_1.out.cell 1
        have fhr0 := hr_1.out.free 0
        have fhr1 := hr_1.out.free 1
        simp at ehr0 ehr1
        go_wp2_with fail
        refine bodyPost_ret (v := .tuple #[.agg #[.bool false, .slice none 0 0], .bool false]) (by simp [results, Try.results44, ehr0, ehr1, go_sem]) rfl ?_
        exact HF.out
      · have HY : Hid (Parsed s r) := ⟨HP.out, fun _ e => hN0 (by rw [HN.out, e]; rfl)⟩
        have ht : ((N : Int) == 0) = false := by simp [hN0]
        clear hN0
        have HV := Lib.hid (tail2 (g := w.heap.size) HO.out HG.out BW_1.out (Nat.le_refl _) (.bool true) (.slice A1 N c1))
        have ehr0 := hr_1.out.cell 0
        have ehr1 := hr_1.out.cell 1
        have fhr0 := hr_1.out.free 0
        have fhr1 := hr_1.out.free 1
        simp at ehr0 ehr1
        go_wp2_with fail
        refine bodyPost_ret (v := .tuple #[.agg #[.bool true, .slice A1 N c1], .bool true]) (by simp [results, Try.results44, ehr0, ehr1, go_sem]) rfl ?_
        exact ⟨true, r, _, true, rfl, .inl ⟨rfl, hn.out.symm, HY.out⟩, ⟨by rw [← HN.out]; exact HL.out, by rw [← HN.out]; exact HV.out.1⟩, HV.out.2⟩
  · have hbd : Hid (bodyT s = s) := by unfold bodyT Hid; rw [hn.out]; simp
    go_enter Try.func44, Try.ntmps44
    go_wp2_with fail
    refine (spec_parseNat' s _ hs).mono ?_
    rintro e w1 ⟨r, v, b, rfl, hp, hres, hb⟩
    have HP : Hid (ParseNatIs (bodyT s) r b) := by unfold Hid; rw [hbd.out]; exact hp
    have hr_1 := Lib.hid (hr_0.out.below hb hr_0.out.lt)
    have BW_1 := Lib.hid (BW_0.out.trans (hb.mono BW_0.out.size))
    obtain ⟨A1, c1, rfl, hl, ho⟩ := own_rows hres
    have HG := Lib.hid hr_0.out.lt
    obtain ⟨N, hN⟩ : ∃ N, N = r.length := ⟨_, rfl⟩
    rw [← hN] at hl ho ⊢
    have HO := Lib.hid ho
    have HN := Lib.hid hN
    have HL := Lib.hid hl
    clear hp hres hb ho hN
    cases b
    · have HNO := Lib.hid (parsed_no HP.out)
      have HF := Lib.hid (parB_no (w := w) HNO.out (below_two (g := w.heap.size) BW_1.out (Nat.le_refl _) (.bool false) (.slice none 0 0)))
      have ehr0 := hr_1.out.cell 0
      have ehr1 := hr_1.out.cell 1
      have fhr0 := hr_1.out.free 0
      have fhr1 := hr_1.out.free 1
      simp at ehr0 ehr1
      go_wp2_with fail
      refine bodyPost_ret (v := .tuple #[.agg #[.bool false, .slice none 0 0], .bool false]) (by simp [results, Try.results44, ehr0, ehr1, go_sem]) rfl ?_
      exact HF.out
    · have HY : Hid (Parsed s r) := ⟨HP.out, fun e => by rw [hn.out] at e; cases e⟩
      have HV := Lib.hid (tail2 (g := w.heap.size) HO.out HG.out BW_1.out (Nat.le_refl _) (.bool false) (.slice A1 N c1))
      have ehr0 := hr_1.out.cell 0
      have ehr1 := hr_1.out.cell 1
      have fhr0 := hr_1.out.free 0
      have fhr1 := hr_1.out.free 1
      simp at ehr0 ehr1
      go_wp2_with fail
      refine bodyPost_ret (v := .tuple #[.agg #[.bool false, .slice A1 N c1], .bool true]) (by simp [results, Try.results44, ehr0, ehr1, go_sem]) rfl ?_
      exact ⟨false, r, _, true, rfl, .inl ⟨rfl, hn.out.symm, HY.out⟩, ⟨by rw [← HN.out]; exact HL.out, by rw [← HN.out]; exact HV.out.1⟩, HV.out.2⟩
theorem spec_parseBigInt (s : ByteArray) (w : World) (hs : s.size ≤ 1048576) :
    Calls Try.prog 44 #[.string s] w fun e w' => ∃ g r v b, e = .returned (.tuple #[.agg #[.bool g, v], .bool b]) ∧ ParseBigIntIs s g r b ∧ ResI w w' v r ∧ Below w.heap.size w w' :=
  (spec_parseBigInt' s w hs).mono fun _ _ h => h
end Go.Proofs.Ytjggdbakbhacjaa
