/- Contracts of FormatRat, by the model and by the program. -/
import Derived.Test.YtbfanjalinkmhaaDoorRatS
import Derived.Test.YtbfanjalinkmhaaDoorBigF
namespace Go.Proofs.YtbfanjalinkmhaaDoor
set_option maxRecDepth 100000
open Go.RowKit

def FormatRatIs (g : Bool) (xs es : List Int) (t : ByteArray) : Prop :=
  (ROk g xs es ∧ ∃ a, FormatBigIntIs g xs a ∧ ((es = [1] ∧ t = a) ∨ (es ≠ [1] ∧ ∃ b, FormatNatIs es b ∧ t = a ++ ⟨#[47]⟩ ++ b))) ∨ (¬ ROk g xs es ∧ t = ⟨#[]⟩)
theorem formatRat_unique {g : Bool} {xs es : List Int} {t t' : ByteArray} (h : FormatRatIs g xs es t) (h' : FormatRatIs g xs es t') : t = t' := by
  rcases h with ⟨k, a, ha, h⟩ | ⟨k, rfl⟩ <;> rcases h' with ⟨k', a', ha', h'⟩ | ⟨k', rfl⟩
  · obtain rfl := formatBigInt_unique ha ha'
    rcases h with ⟨e, rfl⟩ | ⟨e, b, hb, rfl⟩ <;> rcases h' with ⟨e', rfl⟩ | ⟨e', b', hb', rfl⟩
    · rfl
    · exact absurd e e'
    · exact absurd e' e
    · rw [formatNat_unique hb hb']
  · exact absurd k k'
  · exact absurd k' k
  · rfl
def FRatEnd (g : Bool) (xs es : List Int) (w w' : World) (e : Ending) : Prop := ∃ r, e = .returned (.string r) ∧ FormatRatIs g xs es r ∧ Below w.heap.size w w'
theorem nat_text_size {xs : List Int} {t : ByteArray} (h : Ok xs) (ht : FormatNatIs xs t) : t.size ≤ 541 := by
  unfold FormatNatIs at ht
  subst ht
  rw [fmtNat_ok h]
  show (textL xs).toArray.size ≤ 541
  by_cases e : xs = []
  · subst e; unfold textL; rw [show (val []).toNat = 0 from rfl, Lib.decDigits_one (by omega)]; decide
  · have h1 := textL_len h.1.1 (List.length_pos_iff.2 e)
    have h2 := h.2
    simp
    omega
theorem big_text_size {g : Bool} {xs : List Int} {t : ByteArray} (h : BOk g xs) (ht : FormatBigIntIs g xs t) : t.size ≤ 542 := by
  rcases ht with ⟨_, a, ha, rfl⟩ | ⟨k, _⟩
  · have := nat_text_size h.1 ha
    have h1 : (⟨#[45]⟩ : ByteArray).size = 1 := rfl
    cases g
    · rw [if_neg (by decide)]; omega
    · rw [if_pos rfl, ByteArray.size_append]; omega
  · exact absurd h k
/-- The denominator's text is 1 just where the denominator is. -/
theorem text_one {es : List Int} {t : ByteArray} (h : Ok es) (ht : FormatNatIs es t) : t = ⟨#[49]⟩ ↔ es = [1] := by
  constructor
  · intro e
    have h1 := (format_parse h ht).2
    subst e
    exact one_of h.1 (by rw [← h1]; rfl)
  · intro e
    subst e
    unfold FormatNatIs at ht
    rw [ht, fmtNat_ok h]
    unfold textL
    rw [show (val [1]).toNat = 1 from rfl, Lib.decDigits_one (by omega)]
    rfl
theorem list49 {b : ByteArray} : b.toList = [49] ↔ b = ⟨#[49]⟩ := by
  rw [Lib.toList_data]
  constructor
  · intro e; rw [← bytes_eta' b, e]
  · intro e; rw [e]
theorem cat_fits {a b : ByteArray} (h : a.size ≤ 542) (k : b.size ≤ 541) : ¬ 9223372036854775807 < (a ++ ⟨#[47]⟩ : ByteArray).size + b.size := by
  have h1 : (⟨#[47]⟩ : ByteArray).size = 1 := rfl
  rw [ByteArray.size_append]; omega
set_option maxRecDepth 100000 in
set_option maxHeartbeats 3200000 in
theorem spec_formatRat0 (g1 : Bool) (A1 : Option Addr) (n1 c1 : Nat) (xs : List Int) (B1 : Option Addr) (m1 d1 : Nat) (es : List Int) (w : World) (h1 : InI w A1 n1 xs) (r1 : Room A1 n1 c1) (k1 : InI w B1 m1 es) (s1 : Room B1 m1 d1) :
    Calls Tryd.prog 5 #[.agg #[.bool g1, .slice A1 n1 c1, .slice B1 m1 d1]] w fun e w' => FRatEnd g1 xs es w w' e := by
  have hn1 := h1.2.1
  have hm1 := k1.2.1
  obtain ⟨W0, hW0⟩ : ∃ W, W = (w.alloc (.cells #[.bool g1, .slice A1 n1 c1, .slice B1 m1 d1] 31)) := ⟨_, rfl⟩
  have hy0_0 : Hid (Box W0 (w.heap.size) 31 #[.bool g1, .slice A1 n1 c1, .slice B1 m1 d1]) := by rw [hW0]; exact (Box.at' (by simp))
  have BW_0 : Hid (Below w.heap.size w W0) := by rw [hW0]; exact ((Below.refl w.heap.size w).alloc (by simp) _)
  have hsz0 : w.heap.size + 1 ≤ W0.heap.size := by rw [hW0]; simp
  have HI1 := Lib.hid (h1.below BW_0.out)
  have HJ1 := Lib.hid (k1.below BW_0.out)
  have R1 := Lib.hid r1
  have S1 := Lib.hid s1
  clear h1 k1 r1 s1
  go_enter Tryd.func5, Tryd.ntmps5
  go_wp2_with fail
  rw [← hW0]
  clear hW0
  refine (spec_ratOk' g1 A1 n1 c1 xs B1 m1 d1 es _ HI1.out HJ1.out).mono ?_
  rintro e wa ⟨⟨b, rfl, hi⟩, hb⟩
  have hy0_1 := Lib.hid (hy0_0.out.below hb hy0_0.out.lt)
  have BW_1 := Lib.hid (BW_0.out.trans (hb.mono BW_0.out.size))
  replace HI1 := Lib.hid (HI1.out.below hb)
  replace HJ1 := Lib.hid (HJ1.out.below hb)
  clear hb
  have ehy00 := hy0_1.out.cell 0
  have ehy01 := hy0_1.out.cell 1
  have ehy02 := hy0_1.out.cell 2
  simp at ehy00 ehy01 ehy02
  cases b
  · have hno : ¬ ROk g1 xs es := fun h => by have := hi.2 h; cases this
    clear hi
    have HF : Hid (FRatEnd g1 xs es w wa (.returned (.string ⟨#[]⟩))) := ⟨_, rfl, .inr ⟨hno, rfl⟩, BW_1.out⟩
    go_wp2_with fail
    go_ret
    exact HF.out
  have K1 := Lib.hid (hi.1 rfl)
  clear hi
  have hn1 : n1 ≤ 24 := by have := K1.out.2.2.2.2.1; rwa [HI1.out.1] at this
  have hm1 : m1 ≤ 24 := by have := K1.out.2.2.2.2.2; rwa [HJ1.out.1] at this
  obtain ⟨b1, hb1⟩ : ∃ q, decide (es = [1]) = q := ⟨_, rfl⟩
  have HB1 := Lib.hid hb1
  clear hb1
  go_wp2_with fail
  refine (spec_one B1 m1 d1 es b1 _ HB1.out HJ1.out.1 (by omega) HJ1.out.2.2.1).mono ?_
  rintro e wb ⟨rfl, rfl⟩
  cases b1
  case true =>
    go_wp2_with fail
    refine (spec_formatBigInt' g1 A1 n1 c1 xs _ HI1.out).mono ?_
    rintro e wc ⟨a, rfl, ha, hb⟩
    have HF : Hid (FRatEnd g1 xs es w wc (.returned (.string a))) := ⟨_, rfl, .inl ⟨K1.out, a, ha, .inl ⟨of_decide_eq_true HB1.out, rfl⟩⟩, BW_1.out.trans (hb.mono BW_1.out.size)⟩
    clear ha hb
    go_wp2_with fail
    go_ret
    exact HF.out
  go_wp2_with fail
  clear ehy00 ehy01 ehy02
  have hy0_2 := Lib.hid hy0_1.out.drew
  have BW_2 := Lib.hid BW_1.out.drew
  replace HI1 := Lib.hid HI1.out.drew
  replace HJ1 := Lib.hid HJ1.out.drew
  have cvhy00 : Hid ((#[.bool g1, .slice A1 n1 c1, .slice B1 m1 d1] : Array Value)[0]? = some (.bool g1)) := rfl
  have cvhy01 : Hid ((#[.bool g1, .slice A1 n1 c1, .slice B1 m1 d1] : Array Value)[1]? = some (.slice A1 n1 c1)) := rfl
  have cvhy02 : Hid ((#[.bool g1, .slice A1 n1 c1, .slice B1 m1 d1] : Array Value)[2]? = some (.slice B1 m1 d1)) := rfl
  go_region_held3 (fun w' => w'.cell? ⟨w.heap.size, 0, none⟩ = some (.bool g1) ∧ w'.cell? ⟨w.heap.size, 1, none⟩ = some (.slice A1 n1 c1) ∧ w'.cell? ⟨w.heap.size, 2, none⟩ = some (.slice B1 m1 d1)) (first | with_reducible exact ⟨cellS hy0_4 cvhy00, cellS hy0_4 cvhy01, cellS hy0_4 cvhy02⟩ | with_reducible exact ⟨cellS hy0_4 cvhy00, cellS hy0_4 cvhy01, cellS hy0_4 cvhy02⟩ | with_reducible exact ⟨cellS hy0_3 cvhy00, cellS hy0_3 cvhy01, cellS hy0_3 cvhy02⟩ | with_reducible exact ⟨cellS hy0_2 cvhy00, cellS hy0_2 cvhy01, cellS hy0_2 cvhy02⟩) (first | (go_at_call 14; refine (spec_formatNat B1 m1 d1 es _ HJ1.out).mono ?_; rintro e w4 ⟨tb, rfl, htb, hb⟩; have HTB := Lib.hid htb; have hsb := nat_text_size K1.out.2.1 htb; have hz3 : ¬ 9223372036854775807 < ta.size + 1 + tb.size := (by omega); have hz4 : ¬ 9223372036854775807 < (ta ++ ⟨#[47]⟩ : ByteArray).size + tb.size := cat_fits hsa hsb; clear htb; have hy0_4 := Lib.hid (hy0_3.out.below hb hy0_3.out.lt); have BW_4 := Lib.hid (BW_3.out.trans (hb.mono BW_3.out.size)); clear hb) | (go_at_call 13; refine (spec_formatBigInt' g1 A1 n1 c1 xs _ HI1.out).mono ?_; rintro e w3 ⟨ta, rfl, hta, hb⟩; have HTA := Lib.hid hta; have hsa := big_text_size K1.out.1 hta; have hz1 : ¬ 9223372036854775807 ≤ ta.size := (by omega); have hz2 : ¬ 9223372036854775807 < ta.size + 1 := (by omega); clear hta; have hy0_3 := Lib.hid (hy0_2.out.below hb hy0_2.out.lt); have BW_3 := Lib.hid (BW_2.out.trans (hb.mono BW_2.out.size)); replace HI1 := Lib.hid (HI1.out.below hb); replace HJ1 := Lib.hid (HJ1.out.below hb); clear hb))
  all_goals
    have HF : Hid (FRatEnd g1 xs es w w4 (.returned (.string (ta ++ ⟨#[47]⟩ ++ tb)))) := ⟨_, rfl, .inl ⟨K1.out, ta, HTA.out, .inr ⟨of_decide_eq_false HB1.out, tb, HTB.out, rfl⟩⟩, BW_4.out⟩
    go_wp2_with fail
    go_ret
    exact HF.out
theorem spec_formatRat (g1 : Bool) (A1 : Option Addr) (n1 c1 : Nat) (xs : List Int) (B1 : Option Addr) (m1 d1 : Nat) (es : List Int) (w : World) (h1 : InI w A1 n1 xs) (r1 : Room A1 n1 c1) (k1 : InI w B1 m1 es) (s1 : Room B1 m1 d1) :
    Calls Tryd.prog 5 #[.agg #[.bool g1, .slice A1 n1 c1, .slice B1 m1 d1]] w fun e w' => ∃ r, e = .returned (.string r) ∧ FormatRatIs g1 xs es r ∧ Below w.heap.size w w' :=
  (spec_formatRat0 g1 A1 n1 c1 xs B1 m1 d1 es w h1 r1 k1 s1).mono fun _ _ h => h
def KeyEnd (g : Bool) (xs es : List Int) (w w' : World) (e : Ending) : Prop := ∃ a b, e = .returned (.agg #[.string a, .string b]) ∧ FormatBigIntIs g xs a ∧ FormatNatIs es b ∧ Below w.heap.size w w'
set_option maxHeartbeats 3200000 in
theorem impl_ratKeyOf (g1 : Bool) (A1 : Option Addr) (n1 c1 : Nat) (xs : List Int) (B1 : Option Addr) (m1 d1 : Nat) (es : List Int) (w : World) (h1 : InI w A1 n1 xs) (r1 : Room A1 n1 c1) (k1 : InI w B1 m1 es) (s1 : Room B1 m1 d1) (q1 : ROk g1 xs es) (ht : Tab w) :
    Calls Tryd.prog 18 #[.agg #[.bool g1, .slice A1 n1 c1, .slice B1 m1 d1]] w fun e w' => KeyEnd g1 xs es w w' e := by
  have hn1 := h1.2.1
  have hm1 := k1.2.1
  obtain ⟨W0, hW0⟩ : ∃ W, W = ((w.alloc (.cells #[.bool g1, .slice A1 n1 c1, .slice B1 m1 d1] 31)).alloc (.cells #[.string ⟨#[]⟩, .string ⟨#[]⟩] 44)) := ⟨_, rfl⟩
  have hy0_0 : Hid (Box W0 (w.heap.size) 31 #[.bool g1, .slice A1 n1 c1, .slice B1 m1 d1]) := by rw [hW0]; exact ((Box.at' (by simp)).alloc _)
  have hk_0 : Hid (Box W0 (w.heap.size + 1) 44 #[.string ⟨#[]⟩, .string ⟨#[]⟩]) := by rw [hW0]; exact (Box.at' (by simp))
  have BW_0 : Hid (Below w.heap.size w W0) := by rw [hW0]; exact (((Below.refl w.heap.size w).alloc (by simp) _).alloc (by simp) _)
  have hsz0 : w.heap.size + 1 + 1 ≤ W0.heap.size := by rw [hW0]; simp
  have HI1 := Lib.hid (h1.below BW_0.out)
  have HJ1 := Lib.hid (k1.below BW_0.out)
  have R1 := Lib.hid r1
  have S1 := Lib.hid s1
  clear h1 k1 r1 s1
  go_enter Tryd.func18, Tryd.ntmps18
  go_wp2_with fail
  rw [← hW0]
  clear hW0
  have K1 := Lib.hid q1
  have HT := Lib.hid ht
  clear q1 ht
  have hy0_1 := Lib.hid hy0_0.out.drew
  have hk_1 := Lib.hid hk_0.out.drew
  have BW_1 := Lib.hid BW_0.out.drew
  replace HI1 := Lib.hid HI1.out.drew
  replace HJ1 := Lib.hid HJ1.out.drew
  have cvhy00 : Hid ((#[.bool g1, .slice A1 n1 c1, .slice B1 m1 d1] : Array Value)[0]? = some (.bool g1)) := rfl
  have cvhy01 : Hid ((#[.bool g1, .slice A1 n1 c1, .slice B1 m1 d1] : Array Value)[1]? = some (.slice A1 n1 c1)) := rfl
  have cvhy02 : Hid ((#[.bool g1, .slice A1 n1 c1, .slice B1 m1 d1] : Array Value)[2]? = some (.slice B1 m1 d1)) := rfl
  go_region_held3 (fun w' => w'.cell? ⟨w.heap.size, 0, none⟩ = some (.bool g1) ∧ w'.cell? ⟨w.heap.size, 1, none⟩ = some (.slice A1 n1 c1) ∧ w'.cell? ⟨w.heap.size, 2, none⟩ = some (.slice B1 m1 d1)) (first | with_reducible exact ⟨cellS hy0_3 cvhy00, cellS hy0_3 cvhy01, cellS hy0_3 cvhy02⟩ | with_reducible exact ⟨cellS (hFar (hFar hy0_3 (by dsimp only; omega) _) (by dsimp only; omega) _) cvhy00, cellS (hFar (hFar hy0_3 (by dsimp only; omega) _) (by dsimp only; omega) _) cvhy01, cellS (hFar (hFar hy0_3 (by dsimp only; omega) _) (by dsimp only; omega) _) cvhy02⟩ | with_reducible exact ⟨cellS hy0_2 cvhy00, cellS hy0_2 cvhy01, cellS hy0_2 cvhy02⟩ | with_reducible exact ⟨cellS hy0_1 cvhy00, cellS hy0_1 cvhy01, cellS hy0_1 cvhy02⟩) (first | (go_at_call 32; refine (impl_formatNat B1 m1 d1 es _ HJ1.out (HT.out.below BW_2.out)).mono ?_; rintro e w3 ⟨tb, rfl, htb, hb⟩; have HTB := Lib.hid htb; clear htb; have hy0_3 := Lib.hid (hy0_2.out.below hb hy0_2.out.lt); have hk_3 := Lib.hid (hk_2.out.below hb hk_2.out.lt); have BW_3 := Lib.hid (BW_2.out.trans (hb.mono BW_2.out.size)); clear hb; have ehk0 := hk_3.out.cell 0; have ehk1 := hk_3.out.cell 1; have fhk0 := hk_3.out.free 0; have fhk1 := hk_3.out.free 1; simp at ehk0 ehk1) | (go_at_call 31; refine (impl_formatBigInt' g1 A1 n1 c1 xs _ HI1.out (HT.out.below BW_1.out)).mono ?_; rintro e w2 ⟨ta, rfl, hta, hb⟩; have HTA := Lib.hid hta; clear hta; have hy0_2 := Lib.hid (hy0_1.out.below hb hy0_1.out.lt); have hk_2 := Lib.hid (hk_1.out.below hb hk_1.out.lt); have BW_2 := Lib.hid (BW_1.out.trans (hb.mono BW_1.out.size)); replace HI1 := Lib.hid (HI1.out.below hb); replace HJ1 := Lib.hid (HJ1.out.below hb); clear hb))
  have HF : Hid (∀ W, Below w.heap.size w W → KeyEnd g1 xs es w W (.returned (.agg #[.string ta, .string tb]))) := fun W hW => ⟨ta, tb, rfl, HTA.out, HTB.out, hW⟩
  go_wp2_with fail
  refine bodyPost_ret (v := .agg #[.string ta, .string tb]) (by simp [results, Tryd.results18, ehk0, ehk1, go_sem]) rfl ?_
  exact HF.out _ ((BW_3.out.setCell (by dsimp only; omega) _).setCell (by dsimp only; omega) _)
def keyText (a b : ByteArray) : ByteArray := if b = ⟨#[49]⟩ then a else a ++ ⟨#[47]⟩ ++ b
set_option maxHeartbeats 400000 in
theorem impl_text (a b : ByteArray) (w : World) (ha : a.size ≤ 542) (hb : b.size ≤ 541) :
    Calls Tryd.prog 19 #[.agg #[.string a, .string b]] w fun e w' => e = .returned (.string (keyText a b)) ∧ Below w.heap.size w w' := by
  by_cases h : b = ⟨#[49]⟩
  · have HF : Hid (keyText a b = a) := if_pos h
    have ht : (b.toList == [49]) = true := by simpa using list49.2 h
    clear h
    go_enter Tryd.func19, Tryd.ntmps19
    go_wp2_with fail
    go_ret
    exact ⟨ret_str HF.out.symm, (Below.refl _ _).alloc (Nat.le_refl _) _⟩
  · have HF : Hid (keyText a b = a ++ ⟨#[47]⟩ ++ b) := if_neg h
    have ht : (b.toList == [49]) = false := by simpa using fun e => h (list49.1 e)
    clear h
    go_enter Tryd.func19, Tryd.ntmps19
    go_wp2_with fail
    go_ret
    exact ⟨ret_str HF.out.symm, (Below.refl _ _).alloc (Nat.le_refl _) _⟩
theorem key_text {g : Bool} {xs es : List Int} {a b : ByteArray} {w w' : World} (k : ROk g xs es) (ha : FormatBigIntIs g xs a) (hb : FormatNatIs es b) (hw : Below w.heap.size w w') : FRatEnd g xs es w w' (.returned (.string (keyText a b))) := by
  refine ⟨_, rfl, .inl ⟨k, a, ha, ?_⟩, hw⟩
  have h1 := text_one k.2.1 hb
  unfold keyText
  by_cases h : b = ⟨#[49]⟩
  · rw [if_pos h]; exact .inl ⟨h1.1 h, rfl⟩
  · rw [if_neg h]; exact .inr ⟨fun e => h (h1.2 e), b, hb, rfl⟩
set_option maxHeartbeats 3200000 in
theorem impl_formatRat0 (g1 : Bool) (A1 : Option Addr) (n1 c1 : Nat) (xs : List Int) (B1 : Option Addr) (m1 d1 : Nat) (es : List Int) (w : World) (h1 : InI w A1 n1 xs) (r1 : Room A1 n1 c1) (k1 : InI w B1 m1 es) (s1 : Room B1 m1 d1) (ht : Tab w) :
    Calls Tryd.prog 7 #[.agg #[.bool g1, .slice A1 n1 c1, .slice B1 m1 d1]] w fun e w' => FRatEnd g1 xs es w w' e := by
  have hn1 := h1.2.1
  have hm1 := k1.2.1
  obtain ⟨W0, hW0⟩ : ∃ W, W = (w.alloc (.cells #[.bool g1, .slice A1 n1 c1, .slice B1 m1 d1] 31)) := ⟨_, rfl⟩
  have hy0_0 : Hid (Box W0 (w.heap.size) 31 #[.bool g1, .slice A1 n1 c1, .slice B1 m1 d1]) := by rw [hW0]; exact (Box.at' (by simp))
  have BW_0 : Hid (Below w.heap.size w W0) := by rw [hW0]; exact ((Below.refl w.heap.size w).alloc (by simp) _)
  have hsz0 : w.heap.size + 1 ≤ W0.heap.size := by rw [hW0]; simp
  have HI1 := Lib.hid (h1.below BW_0.out)
  have HJ1 := Lib.hid (k1.below BW_0.out)
  have R1 := Lib.hid r1
  have S1 := Lib.hid s1
  clear h1 k1 r1 s1
  go_enter Tryd.func7, Tryd.ntmps7
  go_wp2_with fail
  rw [← hW0]
  clear hW0
  have HT := Lib.hid ht
  clear ht
  refine (impl_ratOk' g1 A1 n1 c1 xs B1 m1 d1 es _ HI1.out HJ1.out).mono ?_
  rintro e wa ⟨⟨b, rfl, hi⟩, hb⟩
  have hy0_1 := Lib.hid (hy0_0.out.below hb hy0_0.out.lt)
  have BW_1 := Lib.hid (BW_0.out.trans (hb.mono BW_0.out.size))
  replace HI1 := Lib.hid (HI1.out.below hb)
  replace HJ1 := Lib.hid (HJ1.out.below hb)
  clear hb
  have ehy00 := hy0_1.out.cell 0
  have ehy01 := hy0_1.out.cell 1
  have ehy02 := hy0_1.out.cell 2
  simp at ehy00 ehy01 ehy02
  cases b
  · have hno : ¬ ROk g1 xs es := fun h => by have := hi.2 h; cases this
    clear hi
    have HF : Hid (FRatEnd g1 xs es w wa (.returned (.string ⟨#[]⟩))) := ⟨_, rfl, .inr ⟨hno, rfl⟩, BW_1.out⟩
    go_wp2_with fail
    go_ret
    exact HF.out
  have K1 := Lib.hid (hi.1 rfl)
  clear hi
  have hn1 : n1 ≤ 24 := by have := K1.out.2.2.2.2.1; rwa [HI1.out.1] at this
  have hm1 : m1 ≤ 24 := by have := K1.out.2.2.2.2.2; rwa [HJ1.out.1] at this
  go_wp2_with fail
  clear ehy00 ehy01 ehy02
  refine (impl_ratKeyOf g1 A1 n1 c1 xs B1 m1 d1 es _ HI1.out R1.out HJ1.out S1.out K1.out (HT.out.below BW_1.out)).mono ?_
  rintro e wb ⟨ta, tb, rfl, hta, htb, hb⟩
  have HTA := Lib.hid hta
  have HTB := Lib.hid htb
  have hsa := big_text_size K1.out.1 hta
  have hsb := nat_text_size K1.out.2.1 htb
  have hy0_2 := Lib.hid (hy0_1.out.below hb hy0_1.out.lt)
  have BW_2 := Lib.hid (BW_1.out.trans (hb.mono BW_1.out.size))
  clear hb
  clear hta htb
  go_wp2_with fail
  refine (impl_text ta tb _ hsa hsb).mono ?_
  rintro e wc ⟨rfl, hb⟩
  have HF := Lib.hid (key_text (w := w) K1.out HTA.out HTB.out (BW_2.out.trans (hb.mono BW_2.out.size)))
  clear hb
  go_wp2_with fail
  go_ret
  exact HF.out
theorem impl_formatRat (g1 : Bool) (A1 : Option Addr) (n1 c1 : Nat) (xs : List Int) (B1 : Option Addr) (m1 d1 : Nat) (es : List Int) (w : World) (h1 : InI w A1 n1 xs) (r1 : Room A1 n1 c1) (k1 : InI w B1 m1 es) (s1 : Room B1 m1 d1) (ht : Tab w) :
    Calls Tryd.prog 7 #[.agg #[.bool g1, .slice A1 n1 c1, .slice B1 m1 d1]] w fun e w' => ∃ r, e = .returned (.string r) ∧ FormatRatIs g1 xs es r ∧ Below w.heap.size w w' :=
  (impl_formatRat0 g1 A1 n1 c1 xs B1 m1 d1 es w h1 r1 k1 s1 ht).mono fun _ _ h => h
end Go.Proofs.YtbfanjalinkmhaaDoor
