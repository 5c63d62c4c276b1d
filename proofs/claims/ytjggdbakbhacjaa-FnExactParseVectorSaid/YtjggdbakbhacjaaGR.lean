/- Plain facts: a text that is read as a natural number (or as a big integer) is the text of that number; no program is named here. -/
import Derived.Test.YtjggdbakbhacjaaGP
import Derived.Test.YtjggdbakbhacjaaBigP
import Derived.Test.YtjggdbakbhacjaaGD
namespace Go.Proofs.Ytjggdbakbhacjaa
set_option maxRecDepth 100000
open Go.RowKit

theorem digit_back {c : UInt8} (h : digB c = true) {k : Nat} (hk : k = c.toNat - 48) : UInt8.ofNat (48 + k) = c := by
  obtain ⟨h1, h2⟩ := digB_range h
  subst hk
  rw [show 48 + (c.toNat - 48) = c.toNat by omega]
  simp
theorem head_val {c : UInt8} {l : List UInt8} (hd : (c :: l).all digB = true) (h0 : c ≠ 48) : 10 ^ l.length ≤ valFrom 0 (c :: l) := by
  rw [List.all_cons, Bool.and_eq_true] at hd
  obtain ⟨h1, h2⟩ := digB_range hd.1
  have h3 : c.toNat ≠ 48 := fun e => h0 (UInt8.toNat.inj e)
  rw [valFrom_cons, valFrom_acc]
  have h4 : 1 * 10 ^ l.length ≤ (0 * 10 + (c.toNat - 48)) * 10 ^ l.length := Nat.mul_le_mul_right _ (by omega)
  omega
/-- Digits without a zero ahead are the digits of their value. -/
theorem dec_back (n : Nat) : ∀ l : List UInt8, l.length = n → l.all digB = true → 0 < l.length → (l.length ≤ 1 ∨ l.head? ≠ some 48) → Lib.decDigits (valFrom 0 l) = l := by
  induction n using Nat.strongRecOn with
  | ind n ih =>
    intro l hn hd hp hz
    obtain ⟨l', c, rfl⟩ : ∃ l' c, l = l' ++ [c] := ⟨l.dropLast, l.getLast (List.length_pos_iff.1 hp), (List.dropLast_concat_getLast _).symm⟩
    rw [List.all_append, Bool.and_eq_true] at hd
    have hc : digB c = true := by simpa using hd.2
    obtain ⟨c1, c2⟩ := digB_range hc
    have hv : valFrom 0 (l' ++ [c]) = valFrom 0 l' * 10 + (c.toNat - 48) := by rw [valFrom_append, valFrom_cons, valFrom_nil]
    rw [hv]
    match l', hd, hz, hn, hp with
    | [], _, _, _, _ =>
      rw [valFrom_nil, Lib.decDigits_one (by omega), digit_back hc (by omega)]; rfl
    | a :: r, hd, hz, hn, _ =>
      have ha : a ≠ 48 := by
        rcases hz with h | h
        · simp at h
        · simpa using h
      have h1 := head_val hd.1 ha
      have h2 : 1 ≤ 10 ^ r.length := Nat.one_le_pow _ _ (by omega)
      rw [decDigits_last (by omega), show (valFrom 0 (a :: r) * 10 + (c.toNat - 48)) / 10 = valFrom 0 (a :: r) by omega, show (valFrom 0 (a :: r) * 10 + (c.toNat - 48)) % 10 = c.toNat - 48 by omega, digit_back hc rfl]
      rw [ih (a :: r).length (by rw [← hn]; simp) (a :: r) rfl hd.1 (by simp) (.inr (by simpa using ha))]
theorem text_of_parse {s : ByteArray} {r : List Int} (h : ParseNatIs s r true) : FormatNatIs r s := by
  have hok := parse_ok h
  rcases h with ⟨_, ⟨hd, h540, hz⟩, hc, hv⟩ | ⟨h, _⟩
  · obtain ⟨hp, ha⟩ := digits_pos s hd
    unfold FormatNatIs
    rw [fmtNat_ok hok]
    unfold textL
    have e : (val r).toNat = valFrom 0 s.data.toList := by
      rw [hv]; unfold worth
      rw [List.take_of_length_le (by rw [len_size]; exact Nat.le_refl _)]; simp
    rw [e, dec_back _ s.data.toList rfl ha (by rw [len_size]; exact hp) (by rw [len_size]; exact hz), bytes_eta']
  · cases h
theorem parse_of_text {s : ByteArray} {r : List Int} (h : Ok r) (ht : FormatNatIs r s) : ParseNatIs s r true := by
  obtain ⟨h1, h2⟩ := format_parse h ht
  exact .inl ⟨rfl, h1, h.1, h2.symm⟩
end Go.Proofs.Ytjggdbakbhacjaa
namespace Go.Proofs.Ytjggdbakbhacjaa
set_option maxRecDepth 100000
open Go.RowKit

/-- A list, cut at its first 47. -/
def cut1 : List UInt8 → List UInt8 × List UInt8 × Bool
  | [] => ([], [], false)
  | b :: l => if b = 47 then ([], l, true) else (b :: (cut1 l).1, (cut1 l).2.1, (cut1 l).2.2)
theorem cut1_none : ∀ {l : List UInt8}, 47 ∉ l → cut1 l = (l, [], false)
  | [], _ => rfl
  | b :: l, h => by
    have h1 : b ≠ 47 := fun e => h (by simp [e])
    have h2 := cut1_none (l := l) (fun e => h (by simp [e]))
    unfold cut1
    rw [if_neg h1, h2]
theorem cut1_mid : ∀ {a : List UInt8} (b : List UInt8), 47 ∉ a → cut1 (a ++ 47 :: b) = (a, b, true)
  | [], b, _ => by simp [cut1]
  | c :: a, b, h => by
    have h1 : c ≠ 47 := fun e => h (by simp [e])
    have h2 := cut1_mid (a := a) b (fun e => h (by simp [e]))
    rw [List.cons_append]
    unfold cut1
    rw [if_neg h1, h2]
def numT (s : ByteArray) : ByteArray := ⟨(cut1 s.data.toList).1.toArray⟩
def denT (s : ByteArray) : ByteArray := if (cut1 s.data.toList).2.2 = true then ⟨(cut1 s.data.toList).2.1.toArray⟩ else ⟨#[49]⟩
/-- s is read as this fraction. -/
def RatParsed (s : ByteArray) (g : Bool) (l d : List Int) : Prop := ParseBigIntIs (numT s) g l true ∧ ParseNatIs (denT s) d true ∧ ROk g l d ∧ keyText (numT s) (denT s) = s
def ParseRatIs (s : ByteArray) (g : Bool) (l d : List Int) (b : Bool) : Prop := (b = true ∧ RatParsed s g l d) ∨ (b = false ∧ g = false ∧ l = [] ∧ d = [] ∧ ¬ ∃ g l d, RatParsed s g l d)
theorem parseRat_unique {s : ByteArray} {g g' b b' : Bool} {l d l' d' : List Int} (h : ParseRatIs s g l d b) (h' : ParseRatIs s g' l' d' b') : g = g' ∧ l = l' ∧ d = d' ∧ b = b' := by
  rcases h with ⟨rfl, k1, k2, _, _⟩ | ⟨rfl, rfl, rfl, rfl, k⟩ <;> rcases h' with ⟨rfl, q1, q2, q3, q4⟩ | ⟨rfl, rfl, rfl, rfl, q⟩
  · obtain ⟨e1, e2, _⟩ := parseBigInt_unique k1 q1
    exact ⟨e1, e2, (parseNat_unique k2 q2).1, rfl⟩
  · exact absurd ⟨_, _, _, k1, k2, by assumption, by assumption⟩ q
  · exact absurd ⟨_, _, _, q1, q2, q3, q4⟩ k
  · exact ⟨rfl, rfl, rfl, rfl⟩

theorem no_slash_digits {l : List UInt8} (h : l.all digB = true) : 47 ∉ l := by
  intro hm
  rw [List.all_eq_true] at h
  have := digB_range (h _ hm)
  have e : (47 : UInt8).toNat = 47 := rfl
  omega
theorem natText_digits {s : ByteArray} (h : NatText s) : 0 < s.size ∧ s.data.toList.all digB = true := digits_pos s h.1
theorem negT_digits {s : ByteArray} (h : NatText s) : negT s = false := by
  obtain ⟨h1, h2⟩ := natText_digits h
  rw [negT_at h1, decide_eq_false_iff_not]
  intro e
  rw [List.all_eq_true] at h2
  have := digB_range (h2 _ (mem_at s 0 h1))
  rw [e] at this
  have e : (45 : UInt8).toNat = 45 := rfl
  omega
theorem minus_list (a : ByteArray) : (⟨#[45]⟩ ++ a : ByteArray).data.toList = 45 :: a.data.toList := by simp
theorem negT_minus (a : ByteArray) : negT (⟨#[45]⟩ ++ a) = true := by
  unfold negT; rw [minus_list]; rfl
theorem bodyT_minus (a : ByteArray) : bodyT (⟨#[45]⟩ ++ a) = a := by
  unfold bodyT
  rw [if_pos (negT_minus a)]
  apply ByteArray.ext
  apply Array.toList_inj.1
  have e : (⟨#[45]⟩ : ByteArray).size = 1 := rfl
  simp
  exact List.take_of_length_le (by rw [len_size, e]; omega)
/-- A minus and what stands behind it. -/
theorem negT_split {s : ByteArray} (h : negT s = true) : s = ⟨#[45]⟩ ++ bodyT s := by
  have h1 : s.data.toList.head? = some 45 := by unfold negT at h; simpa using h
  unfold bodyT
  rw [if_pos h]
  apply ByteArray.ext
  apply Array.toList_inj.1
  match hl : s.data.toList, h1 with
  | c :: r, h1 =>
    have hc : c = 45 := by simpa using h1
    subst hc
    have hsz : s.size = r.length + 1 := by rw [← len_size, hl]; rfl
    simp [hl, hsz]
theorem big_of_parse {s : ByteArray} {g : Bool} {r : List Int} (h : ParseBigIntIs s g r true) : BOk g r ∧ FormatBigIntIs g r s := by
  rcases h with ⟨_, rfl, h1, h2⟩ | ⟨h, _⟩
  · have hok : BOk (negT s) r := ⟨parse_ok h1, h2⟩
    refine ⟨hok, .inl ⟨hok, bodyT s, text_of_parse h1, ?_⟩⟩
    by_cases hn : negT s = true
    · rw [if_pos hn]; exact negT_split hn
    · rw [if_neg hn]; unfold bodyT; rw [if_neg hn]
  · cases h
theorem parse_of_big {s : ByteArray} {g : Bool} {r : List Int} (k : BOk g r) (h : FormatBigIntIs g r s) : ParseBigIntIs s g r true := by
  rcases h with ⟨_, a, ha, rfl⟩ | ⟨h, _⟩
  · have hp := parse_of_text k.1 ha
    have ht := (format_parse k.1 ha).1
    cases g
    · rw [if_neg (by decide)]
      have hn := negT_digits ht
      refine .inl ⟨rfl, hn.symm, ?_, fun e => by rw [hn] at e; cases e⟩
      unfold bodyT; rwa [if_neg (by rw [hn]; decide)]
    · rw [if_pos rfl]
      exact .inl ⟨rfl, (negT_minus a).symm, by rw [bodyT_minus]; exact hp, fun _ => k.2 rfl⟩
  · exact absurd k h
theorem no_slash_big {s : ByteArray} {g : Bool} {r : List Int} (k : BOk g r) (h : FormatBigIntIs g r s) : 47 ∉ s.data.toList := by
  rcases h with ⟨_, a, ha, rfl⟩ | ⟨h, _⟩
  · have hd := no_slash_digits (natText_digits (format_parse k.1 ha).1).2
    cases g
    · rw [if_neg (by decide)]; exact hd
    · rw [if_pos rfl, minus_list]
      intro hm
      rcases List.mem_cons.1 hm with h | h
      · exact absurd h (by decide)
      · exact hd h
  · exact absurd k h
theorem slash_list (a b : ByteArray) : (a ++ ⟨#[47]⟩ ++ b : ByteArray).data.toList = a.data.toList ++ 47 :: b.data.toList := by simp
theorem num_den_none {s : ByteArray} (h : 47 ∉ s.data.toList) : numT s = s ∧ denT s = ⟨#[49]⟩ := by
  unfold numT denT
  rw [cut1_none h]
  exact ⟨bytes_eta' s, by simp⟩
theorem num_den_mid {a b : ByteArray} (h : 47 ∉ a.data.toList) : numT (a ++ ⟨#[47]⟩ ++ b) = a ∧ denT (a ++ ⟨#[47]⟩ ++ b) = b := by
  unfold numT denT
  rw [slash_list, cut1_mid _ h]
  exact ⟨bytes_eta' a, by simp⟩
/-- A valid fraction's text is read as that fraction. -/
theorem parsed_of_text {s : ByteArray} {g : Bool} {l d : List Int} (k : ROk g l d) (h : FormatRatIs g l d s) : RatParsed s g l d := by
  rcases h with ⟨_, a, ha, h⟩ | ⟨h, _⟩
  · have hs := no_slash_big k.1 ha
    rcases h with ⟨rfl, rfl⟩ | ⟨hne, b, hb, rfl⟩
    · obtain ⟨e1, e2⟩ := num_den_none hs
      have hone : FormatNatIs [1] ⟨#[49]⟩ := by
        have ht := formatNat_text k.2.1
        rwa [(text_one k.2.1 ht).2 rfl] at ht
      refine ⟨by rw [e1]; exact parse_of_big k.1 ha, by rw [e2]; exact parse_of_text k.2.1 hone, k, ?_⟩
      rw [e1, e2]; unfold keyText; rw [if_pos rfl]
    · obtain ⟨e1, e2⟩ := num_den_mid (b := b) hs
      refine ⟨by rw [e1]; exact parse_of_big k.1 ha, by rw [e2]; exact parse_of_text k.2.1 hb, k, ?_⟩
      rw [e1, e2]; unfold keyText
      rw [if_neg (fun e => hne ((text_one k.2.1 hb).1 e))]
  · exact absurd k h
/-- What is read as a fraction is its text. -/
theorem text_of_parsed {s : ByteArray} {g : Bool} {l d : List Int} (h : RatParsed s g l d) : ROk g l d ∧ FormatRatIs g l d s := by
  obtain ⟨h1, h2, k, h4⟩ := h
  have hb := text_of_parse h2
  refine ⟨k, .inl ⟨k, numT s, (big_of_parse h1).2, ?_⟩⟩
  have e := text_one k.2.1 hb
  unfold keyText at h4
  by_cases hd : denT s = ⟨#[49]⟩
  · rw [if_pos hd] at h4; exact .inl ⟨e.1 hd, h4.symm⟩
  · rw [if_neg hd] at h4; exact .inr ⟨fun c => hd (e.2 c), denT s, hb, h4.symm⟩
end Go.Proofs.Ytjggdbakbhacjaa
namespace Go.Proofs.Ytjggdbakbhacjaa
set_option maxRecDepth 100000
open Go.RowKit

def slashT : ByteArray := ⟨#[47]⟩
theorem slash_miss {s : ByteArray} {k : Nat} (h : byteAt s k ≠ 47) : slashT.data.toList.contains (byteAt s k) = false := by
  simp [slashT]; exact fun e => h e
theorem split_free {s : ByteArray} {k : Nat} (h : ∀ j, j < k → byteAt s j ≠ 47) : pieces s slashT k = [] ∧ begins s slashT k = 0 := by
  induction k with
  | zero => exact ⟨rfl, rfl⟩
  | succ k ih =>
    obtain ⟨h1, h2⟩ := split_miss (d := slashT) (slash_miss (h k (by omega)))
    obtain ⟨h3, h4⟩ := ih (fun j hj => h j (by omega))
    exact ⟨h1.trans h3, h2.trans h4⟩
theorem byteAt_mem {s : ByteArray} {k : Nat} (h : k < s.size) : byteAt s k ∈ s.data.toList := by rw [byteAt_lt h]; exact mem_at s k h
theorem extract_all (s : ByteArray) : s.extract 0 s.size = s := by
  apply ByteArray.ext
  apply Array.toList_inj.1
  simp
/-- No slash: one piece. -/
theorem splitAll_none {s : ByteArray} (h : 47 ∉ s.data.toList) : splitAll s slashT = [s] := by
  obtain ⟨h1, h2⟩ := split_free (s := s) (k := s.size) (fun j hj e => h (e ▸ byteAt_mem hj))
  unfold splitAll
  rw [h1, h2, extract_all]; rfl
section
variable {a b : ByteArray}
theorem mid_size : (a ++ slashT ++ b).size = a.size + 1 + b.size := by rw [ByteArray.size_append, ByteArray.size_append]; rfl
theorem mid_list : (a ++ slashT ++ b).data.toList = a.data.toList ++ 47 :: b.data.toList := slash_list a b
theorem byteAt_list {s : ByteArray} {k : Nat} (h : k < s.size) : s.data.toList[k]? = some (byteAt s k) := by
  rw [byteAt_lt h, List.getElem?_eq_getElem (by rw [len_size]; exact h)]; rfl
theorem byteAt_left {k : Nat} (h : k < a.size) : byteAt (a ++ slashT ++ b) k = byteAt a k := by
  have h1 := byteAt_list (s := a ++ slashT ++ b) (k := k) (by rw [mid_size]; omega)
  rw [mid_list, List.getElem?_append_left (by rw [len_size]; exact h), byteAt_list h] at h1
  exact (Option.some.inj h1).symm
theorem byteAt_mid : byteAt (a ++ slashT ++ b) a.size = 47 := by
  have h1 := byteAt_list (s := a ++ slashT ++ b) (k := a.size) (by rw [mid_size]; omega)
  rw [mid_list, List.getElem?_append_right (by rw [len_size]; exact Nat.le_refl _), len_size, Nat.sub_self] at h1
  simpa using h1.symm
theorem byteAt_right {k : Nat} (h : k < b.size) : byteAt (a ++ slashT ++ b) (a.size + 1 + k) = byteAt b k := by
  have h1 := byteAt_list (s := a ++ slashT ++ b) (k := a.size + 1 + k) (by rw [mid_size]; omega)
  rw [mid_list, List.getElem?_append_right (by rw [len_size]; omega), len_size, show a.size + 1 + k - a.size = k + 1 by omega, List.getElem?_cons_succ, byteAt_list h] at h1
  exact (Option.some.inj h1).symm
theorem mid_pieces (ha : 47 ∉ a.data.toList) (hb : 47 ∉ b.data.toList) : ∀ j, j ≤ b.size → pieces (a ++ slashT ++ b) slashT (a.size + 1 + j) = [(a ++ slashT ++ b).extract 0 a.size] ∧ begins (a ++ slashT ++ b) slashT (a.size + 1 + j) = a.size + 1
  | 0, _ => by
    obtain ⟨h1, h2⟩ := split_free (s := a ++ slashT ++ b) (k := a.size) (fun j hj e => ha (by rw [byteAt_left hj] at e; exact e ▸ byteAt_mem hj))
    have hc : slashT.data.toList.contains (byteAt (a ++ slashT ++ b) a.size) = true := by rw [byteAt_mid]; decide
    obtain ⟨h3, h4⟩ := split_hit hc
    rw [h1, h2] at h3
    exact ⟨h3, h4⟩
  | j + 1, hj => by
    obtain ⟨h1, h2⟩ := mid_pieces ha hb j (by omega)
    have hm := slash_miss (s := a ++ slashT ++ b) (k := a.size + 1 + j) (by rw [byteAt_right (by omega)]; exact fun e => hb (e ▸ byteAt_mem (by omega)))
    obtain ⟨h3, h4⟩ := split_miss hm
    exact ⟨h3.trans h1, h4.trans h2⟩
theorem mid_first : (a ++ slashT ++ b).extract 0 a.size = a := by
  apply ByteArray.ext
  apply Array.toList_inj.1
  have h : a.data.size = a.size := rfl
  simp [h]
  exact List.take_of_length_le (by rw [len_size]; exact Nat.le_refl _)
theorem mid_last : (a ++ slashT ++ b).extract (a.size + 1) (a ++ slashT ++ b).size = b := by
  apply ByteArray.ext
  apply Array.toList_inj.1
  have h1 : (a ++ slashT ++ b).size = a.size + 1 + b.size := mid_size
  obtain ⟨S, hS⟩ : ∃ S, S = a ++ slashT ++ b := ⟨_, rfl⟩
  have hl : S.data.toList = a.data.toList ++ 47 :: b.data.toList := by rw [hS]; exact mid_list
  rw [← hS] at h1 ⊢
  have e : (S.extract (a.size + 1) S.size).data.toList = (S.data.toList.drop (a.size + 1)).take (S.size - (a.size + 1)) := by simp
  rw [e, List.take_of_length_le (by rw [List.length_drop, len_size]; exact Nat.le_refl _), hl, List.drop_append, List.drop_eq_nil_of_le (by rw [len_size]; omega), List.nil_append, len_size, show a.size + 1 - a.size = 1 by omega]
  rfl
/-- One slash: two pieces. -/
theorem splitAll_mid (ha : 47 ∉ a.data.toList) (hb : 47 ∉ b.data.toList) : splitAll (a ++ slashT ++ b) slashT = [a, b] := by
  obtain ⟨h1, h2⟩ := mid_pieces ha hb b.size (Nat.le_refl _)
  unfold splitAll
  have e : (a ++ slashT ++ b).size = a.size + 1 + b.size := mid_size
  rw [← e] at h1 h2
  rw [h1, h2, mid_first, mid_last]; rfl
end
end Go.Proofs.Ytjggdbakbhacjaa
namespace Go.Proofs.Ytjggdbakbhacjaa
set_option maxRecDepth 100000
open Go.RowKit

theorem extract_le (s : ByteArray) (i j : Nat) : (s.extract i j).size ≤ s.size := by
  rw [ByteArray.size_extract]; omega
theorem pieces_size {s d : ByteArray} : ∀ k, ∀ p ∈ pieces s d k, p.size ≤ s.size
  | 0, p, h => by cases h
  | k + 1, p, h => by
    cases hc : d.data.toList.contains (byteAt s k)
    · rw [(split_miss hc).1] at h; exact pieces_size k p h
    · rw [(split_hit hc).1] at h
      rcases List.mem_append.1 h with h | h
      · exact pieces_size k p h
      · have : p = s.extract (begins s d k) k := by simpa using h
        rw [this]; exact extract_le _ _ _
theorem splitAll_size {s d : ByteArray} : ∀ p ∈ splitAll s d, p.size ≤ s.size := by
  intro p h
  unfold splitAll at h
  rcases List.mem_append.1 h with h | h
  · exact pieces_size _ p h
  · have : p = s.extract (begins s d s.size) s.size := by simpa using h
    rw [this]; exact extract_le _ _ _
def PRatEnd (s : ByteArray) (w w' : World) (e : Ending) : Prop := ∃ g l v d u b, e = .returned (.tuple #[.agg #[.bool g, v, u], .bool b]) ∧ ParseRatIs s g l d b ∧ ResI w w' v l ∧ ResI w w' u d ∧ Apart u v ∧ Below w.heap.size w w'
theorem pr_no {s : ByteArray} {w w' : World} (h : ¬ ∃ g l d, RatParsed s g l d) (hb : Below w.heap.size w w') : PRatEnd s w w' (.returned (.tuple #[.agg #[.bool false, .slice none 0 0, .slice none 0 0], .bool false])) :=
  ⟨false, [], _, [], _, false, rfl, .inr ⟨rfl, rfl, rfl, rfl, h⟩, ⟨by simp, World.ownsRow_nil _ _ _ _⟩, ⟨by simp, World.ownsRow_nil _ _ _ _⟩, (fun k hk => by simp [Value.ownBlock] at hk), hb⟩
/-- What the pieces of a text say of it. -/
theorem parsed_pieces {s : ByteArray} {g : Bool} {l d : List Int} (h : RatParsed s g l d) :
    (splitAll s slashT = [s] ∧ d = [1] ∧ ParseBigIntIs s g l true) ∨ ∃ a b, splitAll s slashT = [a, b] ∧ ParseBigIntIs a g l true ∧ ParseNatIs b d true := by
  obtain ⟨k, ht⟩ := text_of_parsed h
  rcases ht with ⟨_, a, ha, ht⟩ | ⟨ht, _⟩
  · have hs := no_slash_big k.1 ha
    rcases ht with ⟨rfl, rfl⟩ | ⟨hne, b, hb, rfl⟩
    · exact .inl ⟨splitAll_none hs, rfl, parse_of_big k.1 ha⟩
    · have hbd := no_slash_digits (natText_digits (format_parse k.2.1 hb).1).2
      exact .inr ⟨a, b, splitAll_mid hs hbd, parse_of_big k.1 ha, parse_of_text k.2.1 hb⟩
  · exact absurd k ht
end Go.Proofs.Ytjggdbakbhacjaa
namespace Go.Proofs.Ytjggdbakbhacjaa
set_option maxRecDepth 100000
open Go.RowKit

theorem ok_none : Ok [] := ⟨⟨fun z hz => (by cases hz), (by decide)⟩, (by decide)⟩
theorem nat_any_ok {s : ByteArray} {r : List Int} {b : Bool} (h : ParseNatIs s r b) : Ok r := by
  cases b
  · rcases h with ⟨h, _⟩ | ⟨_, rfl, _⟩
    · cases h
    · exact ok_none
  · exact parse_ok h
theorem big_any_ok {s : ByteArray} {g : Bool} {r : List Int} {b : Bool} (h : ParseBigIntIs s g r b) : Ok r := by
  rcases h with ⟨_, _, h, _⟩ | ⟨_, _, rfl, _⟩
  · exact parse_ok h
  · exact ok_none
theorem ok_one : Ok [1] := ⟨⟨fun d h => (by simp at h; omega), (by decide)⟩, (by decide)⟩
theorem parsed_ne {s : ByteArray} {g : Bool} {l d : List Int} (h : RatParsed s g l d) : s ≠ ⟨#[]⟩ := by
  rintro rfl
  obtain ⟨h, _⟩ := h
  rcases h with ⟨_, _, h, _⟩ | ⟨h, _⟩
  · rcases h with ⟨_, h, _⟩ | ⟨h, _⟩
    · have h1 := (natText_digits h).1
      have e : (bodyT (numT ⟨#[]⟩)).size = 0 := by rfl
      omega
    · cases h
  · cases h
theorem fr_yes {s t : ByteArray} {g : Bool} {l d : List Int} (ht : FormatRatIs g l d t) (h0 : t ≠ ⟨#[]⟩) (h1 : t = s) : RatParsed s g l d := by
  subst h1
  have h := ht
  rcases ht with ⟨k, _⟩ | ⟨_, e⟩
  · exact parsed_of_text k h
  · exact absurd e h0
theorem fr_no {s t : ByteArray} {g : Bool} {l d : List Int} (HF : ∀ g' l' d', RatParsed s g' l' d' → g' = g ∧ l' = l ∧ d' = d) (ht : FormatRatIs g l d t) (h : t = ⟨#[]⟩ ∨ t ≠ s) : ¬ ∃ g l d, RatParsed s g l d := fun ⟨g', l', d', q⟩ => by
  obtain ⟨rfl, rfl, rfl⟩ := HF _ _ _ q
  have e := formatRat_unique ht (text_of_parsed q).2
  rcases h with h | h
  · exact parsed_ne q (e.symm.trans h)
  · exact h e
theorem empty_yes {t : ByteArray} (h : t.toList.isEmpty = true) : t = ⟨#[]⟩ := by
  rw [Lib.toList_data] at h
  apply ByteArray.ext
  apply Array.toList_inj.1
  simpa using h
theorem empty_no {t : ByteArray} (h : t.toList.isEmpty = false) : t ≠ ⟨#[]⟩ := by
  rintro rfl
  rw [Lib.toList_data] at h
  simp at h
theorem list_eq {t s : ByteArray} (h : t.toList = s.toList) : t = s := by
  rw [Lib.toList_data, Lib.toList_data] at h
  exact ByteArray.ext (Array.toList_inj.1 h)
theorem pr_yes {q : ByteArray} {w W : World} {gb : Nat} {cs : Array Value} {s : Bool} {r ds : List Int} {A B : Option Addr} {N c M d base1 base2 : Nat}
    (hbx : Box W gb 26 cs) (hg : w.heap.size ≤ gb) (hb : Below w.heap.size w W) (hQ : RatParsed q s r ds) (hr : r.length = N) (hd : ds.length = M) (hN : N ≤ 4194304) (hM : M ≤ 4194304)
    (o1 : W.ownsRow base1 3 1 (.slice A N c) N (r.map (.int .i64))) (b1 : w.heap.size ≤ base1) (o2 : W.ownsRow base2 3 1 (.slice B M d) M (ds.map (.int .i64))) (b2 : w.heap.size ≤ base2) (ap : Apart (.slice B M d) (.slice A N c)) :
    PRatEnd q w (((W.setCell ⟨gb, 0, none⟩ (.bool s)).setCell ⟨gb, 1, none⟩ (.slice A N c)).setCell ⟨gb, 2, none⟩ (.slice B M d)) (.returned (.tuple #[.agg #[.bool s, .slice A N c, .slice B M d], .bool true])) := by
  obtain ⟨g, l, v, e, u, h1, h2, h3, h4, h5, h6⟩ := ratEnd_store (Q := RatParsed q) hbx hg hb hQ hr hd hN hM o1 b1 o2 b2 ap
  cases h1
  exact ⟨_, l, _, e, _, true, rfl, .inl ⟨rfl, h2⟩, h3, h4, h5, h6⟩
set_option maxHeartbeats 1600000 in
theorem spec_parseRat0 (s : ByteArray) (w : World) (hs : s.size ≤ 1048576) :
    Calls Try.prog 13 #[.string s] w fun e w' => PRatEnd s w w' e := by
  obtain ⟨W0, hW0⟩ : ∃ W, W = (w.alloc (.cells #[.bool false, .slice none 0 0, .slice none 0 0] 26)) := ⟨_, rfl⟩
  have hs_0 : Hid (Box W0 (w.heap.size) 26 #[.bool false, .slice none 0 0, .slice none 0 0]) := by rw [hW0]; exact (Box.at' (by simp))
  have BW_0 : Hid (Below w.heap.size w W0) := by rw [hW0]; exact ((Below.refl w.heap.size w).alloc (by simp) _)
  have hsz0 : w.heap.size + 1 ≤ W0.heap.size := by rw [hW0]; simp
  have HS := splitAll_length s slashT
  have hle := splitAll_le s slashT
  have hsz := splitAll_size (s := s) (d := slashT)
  obtain ⟨L, hL⟩ : ∃ L, L = splitAll s slashT := ⟨_, rfl⟩
  rw [← hL] at HS hle hsz
  obtain ⟨P, hP⟩ : ∃ P, P = (pieces s slashT s.size).length := ⟨_, rfl⟩
  rw [← hP] at HS
  have HL := Lib.hid hL
  have HZ := Lib.hid hsz
  have HHS := Lib.hid HS
  clear hL hP hsz
  go_enter Try.func13, Try.ntmps13
  go_wp2_with fail
  rw [← hW0]
  clear hW0
  refine (spec_splitAny s slashT _ (by omega) (by decide)).mono ?_
  rintro e w1 ⟨v1, rfl, ho, hb⟩
  rw [← HL.out, HS] at ho
  obtain ⟨A, c, rfl⟩ := own_slice ho
  obtain ⟨g, rfl, hbase, hgs⟩ := own_at ho (by omega)
  have hcap := (own_cap ho).1
  have O := Lib.hid ho
  obtain ⟨a, r, hLa⟩ : ∃ a r, L = a :: r := by
    cases L with
    | nil => simp at HS
    | cons a r => exact ⟨a, r, rfl⟩
  have hcell : w1.cell? ⟨g, 0, none⟩ = some (.string a) := by
    have := ho.cellAt 0 (by omega)
    rw [hLa] at this
    simpa using this
  have ha : a.size ≤ 1048576 := Nat.le_trans (HZ.out a (by rw [hLa]; exact .head _)) hs
  clear ho
  have hs_1 := Lib.hid (hs_0.out.below hb hs_0.out.lt)
  have BW_1 := Lib.hid (BW_0.out.trans (hb.mono BW_0.out.size))
  clear hb
  go_wp2_with fail
  refine (spec_parseBigInt' a _ ha).mono ?_
  rintro e w2 ⟨gn, ln, vn, bn, rfl, hq, ⟨hl, ho⟩, hb⟩
  have HQ := Lib.hid hq
  have HOK := Lib.hid (big_any_ok hq)
  clear hq hcell
  have hs_2 := Lib.hid (hs_1.out.below hb hs_1.out.lt)
  have BW_2 := Lib.hid (BW_1.out.trans (hb.mono BW_1.out.size))
  replace O := Lib.hid (own_below O.out hb)
  clear hb
  obtain ⟨A1, c1, rfl⟩ := own_slice ho
  obtain ⟨N1, hN1⟩ : ∃ N, N = ln.length := ⟨_, rfl⟩
  rw [← hN1] at hl ho ⊢
  have HN1 := Lib.hid hN1
  have HO1 := Lib.hid ho
  clear ho hN1
  obtain ⟨W3, hW3⟩ : ∃ W, W = (w2.alloc (.cells #[.bool gn, .slice A1 N1 c1] 24)).alloc (.cells #[.int .i64 1] 3) := ⟨_, rfl⟩
  have hs_3 : Hid (Box W3 w.heap.size 26 #[.bool false, .slice none 0 0, .slice none 0 0]) := by rw [hW3]; exact (hs_2.out.alloc _).alloc _
  have hx_3 : Hid (Box W3 w2.heap.size 24 #[.bool gn, .slice A1 N1 c1]) := by rw [hW3]; exact (Box.at' rfl).alloc _
  have BW_3 : Hid (Below w.heap.size w W3) := by rw [hW3]; exact (BW_2.out.alloc BW_2.out.size _).alloc (Nat.le_trans BW_2.out.size (by simp)) _
  have L3 : Hid (W3.ownsRow (w2.heap.size + 1) 3 1 (.slice (some ⟨w2.heap.size + 1, 0, none⟩) 1 1) 1 [.int .i64 1]) := by
    rw [hW3]
    have : ((w2.alloc (.cells #[.bool gn, .slice A1 N1 c1] 24)).alloc (.cells #[.int .i64 1] 3)).ownsRow (w2.alloc (.cells #[.bool gn, .slice A1 N1 c1] 24)).heap.size 3 1 (.slice (some ⟨(w2.alloc (.cells #[.bool gn, .slice A1 N1 c1] 24)).heap.size, 0, none⟩) 1 1) 1 [.int .i64 1] := World.ownsRow_lit _ #[.int .i64 1] 1 (Nat.le_refl _) (by decide) (by rfl)
    exact Lib.hid (by simpa using this)
  have hz2 : W3.heap.size = w2.heap.size + 2 := by rw [hW3]; simp
  have O3 := Lib.hid ((O.out.alloc (.cells #[.bool gn, .slice A1 N1 c1] 24)).alloc (.cells #[.int .i64 1] 3))
  have HO3 := Lib.hid ((HO1.out.alloc (.cells #[.bool gn, .slice A1 N1 c1] 24)).alloc (.cells #[.int .i64 1] 3))
  rw [← hW3] at O3 HO3
  have hg2 : g < w2.heap.size := by have := O.out.lt g rfl; omega
  have hbw2 := BW_2.out.size
  have hP : P = 0 ∨ 0 < P := by omega
  rcases hP with hP | hP
  · subst hP
    obtain ⟨W4, hW4⟩ : ∃ W, W = W3.alloc (.cells #[.bool gn, .slice A1 N1 c1, .slice (some ⟨w2.heap.size + 1, 0, none⟩) 1 1] 26) := ⟨_, rfl⟩
    have hs_4 : Hid (Box W4 w.heap.size 26 #[.bool false, .slice none 0 0, .slice none 0 0]) := by rw [hW4]; exact hs_3.out.alloc _
    have hy_4 : Hid (Box W4 (w2.heap.size + 2) 26 #[.bool gn, .slice A1 N1 c1, .slice (some ⟨w2.heap.size + 1, 0, none⟩) 1 1]) := by rw [hW4]; exact Box.at' hz2.symm
    have BW_4 : Hid (Below w.heap.size w W4) := by rw [hW4]; exact BW_3.out.alloc BW_3.out.size _
    cases bn
    case false =>
      have ehs0 := hs_4.out.cell 0
      have ehs1 := hs_4.out.cell 1
      have ehs2 := hs_4.out.cell 2
      have fhs0 := hs_4.out.free 0
      have fhs1 := hs_4.out.free 1
      have fhs2 := hs_4.out.free 2
      simp at ehs0 ehs1 ehs2
      rw [hW4, hW3] at ehs0 ehs1 ehs2 fhs0 fhs1 fhs2
      have hno : Hid (¬ ∃ g l d, RatParsed s g l d) := fun ⟨g', l', d', h⟩ => by
        have e := HL.out.symm.trans hLa
        rcases parsed_pieces h with ⟨h1, _, h2⟩ | ⟨x, y, h1, h2, _⟩
        · rw [h1] at e; cases e; cases (parseBigInt_unique HQ.out h2).2.2
        · rw [h1] at e; cases e; cases (parseBigInt_unique HQ.out h2).2.2
      go_wp2_with fail
      rw [← hW3, ← hW4]
      rw [← hW3, ← hW4] at ehs0 ehs1 ehs2 fhs0 fhs1 fhs2
      refine bodyPost_ret (v := .tuple #[.agg #[.bool false, .slice none 0 0, .slice none 0 0], .bool false]) (by simp [results, Try.results13, ehs0, ehs1, ehs2, go_sem]) rfl ?_
      exact pr_no hno.out (below_store3 BW_4.out (by omega) _ _ _)
    have ehs0 := hs_4.out.cell 0
    have ehs1 := hs_4.out.cell 1
    have ehs2 := hs_4.out.cell 2
    have fhs0 := hs_4.out.free 0
    have fhs1 := hs_4.out.free 1
    have fhs2 := hs_4.out.free 2
    have ehy0 := hy_4.out.cell 0
    have ehy1 := hy_4.out.cell 1
    have ehy2 := hy_4.out.cell 2
    simp at ehs0 ehs1 ehs2 ehy0 ehy1 ehy2
    rw [hW4, hW3] at ehs0 ehs1 ehs2 fhs0 fhs1 fhs2 ehy0 ehy1 ehy2
    go_wp2_with fail
    have HO4 := Lib.hid (HO3.out.alloc (.cells #[.bool gn, .slice A1 N1 c1, .slice (some ⟨w2.heap.size + 1, 0, none⟩) 1 1] 26))
    have L4 : Hid ((W3.alloc (.cells #[.bool gn, .slice A1 N1 c1, .slice (some ⟨w2.heap.size + 1, 0, none⟩) 1 1] 26)).ownsRow (w2.heap.size + 1) 3 1 (.slice (some ⟨w2.heap.size + 1, 0, none⟩) 1 1) 1 (([1] : List Int).map (.int .i64))) := Lib.hid (L3.out.alloc _)
    rw [← hW4] at HO4 L4
    have HFIT : Hid (∀ g' l' d', RatParsed s g' l' d' → g' = gn ∧ l' = ln ∧ d' = [1]) := fun g' l' d' h => by
      have e := HL.out.symm.trans hLa
      rcases parsed_pieces h with ⟨h1, h3, h2⟩ | ⟨x, y, h1, _, _⟩
      · rw [h1] at e; cases e
        obtain ⟨e1, e2, _⟩ := parseBigInt_unique h2 HQ.out
        exact ⟨e1, e2, h3⟩
      · have h4 := HHS.out; rw [HL.out, h1] at h4; simp at h4
    have HO := Lib.hid (Hid.out HO4)
    have HU' := Lib.hid (Hid.out L4)
    have HAP : Hid (Apart (.slice (some ⟨w2.heap.size + 1, 0, none⟩) 1 1) (.slice A1 N1 c1)) := fun j hj hv => by have h1 := (HO1.out.lt j hv).2; have h2 := (L4.out.lt j hj).1; omega
    have HI : Hid (InI W4 A1 N1 ln) := by have h1 := HO.out; have h2 := HN1.out; subst h2; exact in_own HOK.out h1
    have RI := Lib.hid (room_own HO.out)
    have HJ : Hid (InI W4 (some ⟨w2.heap.size + 1, 0, none⟩) 1 [1]) := by exact in_own ok_one L4.out
    have RJ := Lib.hid (room_own HU'.out)
    rw [← hW3, ← hW4]
    rw [← hW3, ← hW4] at ehs0 ehs1 ehs2 fhs0 fhs1 fhs2 ehy0 ehy1 ehy2
    refine (spec_formatRat0 gn A1 N1 c1 ln (some ⟨w2.heap.size + 1, 0, none⟩) 1 1 [1] _ HI.out RI.out HJ.out RJ.out).mono ?_
    rintro e w8 ⟨t, rfl, ht, hb⟩
    have HT := Lib.hid ht
    clear ht
    clear ehs0 fhs0 ehs1 fhs1 ehs2 fhs2 ehy0 ehy1 ehy2
    have hs_8 := Lib.hid (hs_4.out.below hb hs_4.out.lt)
    have hy_8 := Lib.hid (hy_4.out.below hb hy_4.out.lt)
    have BW_8 := Lib.hid (BW_4.out.trans (hb.mono BW_4.out.size))
    replace HI := Lib.hid (HI.out.below hb)
    replace HJ := Lib.hid (HJ.out.below hb)
    replace HO := Lib.hid (own_below HO.out hb)
    replace HU' := Lib.hid (own_below HU'.out hb)
    clear hb
    have ehs0 := hs_8.out.cell 0
    have ehs1 := hs_8.out.cell 1
    have ehs2 := hs_8.out.cell 2
    have fhs0 := hs_8.out.free 0
    have fhs1 := hs_8.out.free 1
    have fhs2 := hs_8.out.free 2
    have ehy0 := hy_8.out.cell 0
    have ehy1 := hy_8.out.cell 1
    have ehy2 := hy_8.out.cell 2
    simp at ehs0 ehs1 ehs2 ehy0 ehy1 ehy2
    cases h0 : t.toList.isEmpty
    case true =>
      have hno := Lib.hid (fr_no HFIT.out HT.out (.inl (empty_yes h0)))
      go_wp2_with fail
      refine bodyPost_ret (v := .tuple #[.agg #[.bool false, .slice none 0 0, .slice none 0 0], .bool false]) (by simp [results, Try.results13, ehs0, ehs1, ehs2, go_sem]) rfl ?_
      exact pr_no hno.out (below_store3 BW_8.out (by omega) _ _ _)
    have HNE := Lib.hid (empty_no h0)
    go_wp2_with fail
    refine (spec_formatRat0 gn A1 N1 c1 ln (some ⟨w2.heap.size + 1, 0, none⟩) 1 1 [1] _ HI.out RI.out HJ.out RJ.out).mono ?_
    rintro e w9 ⟨t2, rfl, ht2, hb⟩
    have ett := formatRat_unique HT.out ht2
    subst ett
    clear ht2 h0
    clear ehs0 fhs0 ehs1 fhs1 ehs2 fhs2 ehy0 ehy1 ehy2
    have hs_9 := Lib.hid (hs_8.out.below hb hs_8.out.lt)
    have hy_9 := Lib.hid (hy_8.out.below hb hy_8.out.lt)
    have BW_9 := Lib.hid (BW_8.out.trans (hb.mono BW_8.out.size))
    replace HI := Lib.hid (HI.out.below hb)
    replace HJ := Lib.hid (HJ.out.below hb)
    replace HO := Lib.hid (own_below HO.out hb)
    replace HU' := Lib.hid (own_below HU'.out hb)
    clear hb
    have ehs0 := hs_9.out.cell 0
    have ehs1 := hs_9.out.cell 1
    have ehs2 := hs_9.out.cell 2
    have fhs0 := hs_9.out.free 0
    have fhs1 := hs_9.out.free 1
    have fhs2 := hs_9.out.free 2
    have ehy0 := hy_9.out.cell 0
    have ehy1 := hy_9.out.cell 1
    have ehy2 := hy_9.out.cell 2
    simp at ehs0 ehs1 ehs2 ehy0 ehy1 ehy2
    cases h1 : (t.toList == s.toList)
    case false =>
      have hno := Lib.hid (fr_no HFIT.out HT.out (.inr (fun e => by rw [e] at h1; simp at h1)))
      go_wp2_with fail
      refine bodyPost_ret (v := .tuple #[.agg #[.bool false, .slice none 0 0, .slice none 0 0], .bool false]) (by simp [results, Try.results13, ehs0, ehs1, ehs2, go_sem]) rfl ?_
      exact pr_no hno.out (below_store3 BW_9.out (by omega) _ _ _)
    have HYES := Lib.hid (fr_yes HT.out HNE.out (list_eq (eq_of_beq h1)))
    go_wp2_with fail
    refine bodyPost_ret (v := .tuple #[.agg #[.bool gn, .slice A1 N1 c1, .slice (some ⟨w2.heap.size + 1, 0, none⟩) 1 1], .bool true]) (by simp [results, Try.results13, ehs0, ehs1, ehs2, go_sem]) rfl ?_
    exact pr_yes hs_9.out (by omega) BW_9.out HYES.out HN1.out.symm rfl (by have := HI.out.2.1; omega) (by have := HJ.out.2.1; omega) HO.out (by omega) HU'.out (by omega) HAP.out
  · obtain ⟨b, r', hLb⟩ : ∃ b r', r = b :: r' := by
      cases r with
      | nil => rw [hLa] at HS; simp at HS; omega
      | cons b r' => exact ⟨b, r', rfl⟩
    have hcell2 : w2.cell? ⟨g, 1, none⟩ = some (.string b) := by
      have := O.out.cellAt 1 (by omega)
      rw [hLa, hLb] at this
      simpa using this
    have hbs : b.size ≤ 1048576 := Nat.le_trans (HZ.out b (by rw [hLa, hLb]; exact .tail _ (.head _))) hs
    go_wp2_with fail
    rw [← hW3]
    refine (spec_parseNat' b _ hbs).mono ?_
    rintro e w5 ⟨ds, u, bf, rfl, hq, ⟨hl, ho⟩, hb⟩
    have HQ2 := Lib.hid hq
    have HOK2 := Lib.hid (nat_any_ok hq)
    clear hq
    have hs_5 := Lib.hid (hs_3.out.below hb hs_3.out.lt)
    have hx_5 := Lib.hid (hx_3.out.below hb hx_3.out.lt)
    have BW_5 := Lib.hid (BW_3.out.trans (hb.mono BW_3.out.size))
    replace HO3 := Lib.hid (own_below HO3.out hb)
    clear hb
    obtain ⟨B1, d1, rfl⟩ := own_slice ho
    obtain ⟨M1, hM1⟩ : ∃ N, N = ds.length := ⟨_, rfl⟩
    rw [← hM1] at hl ho ⊢
    have HM1 := Lib.hid hM1
    have HU := Lib.hid ho
    clear ho hM1
    have ehx0 := hx_5.out.cell 0
    have ehx1 := hx_5.out.cell 1
    simp at ehx0 ehx1
    obtain ⟨W6, hW6⟩ : ∃ W, W = w5.alloc (.cells #[.bool gn, .slice A1 N1 c1, .slice B1 M1 d1] 26) := ⟨_, rfl⟩
    have hs_6 : Hid (Box W6 w.heap.size 26 #[.bool false, .slice none 0 0, .slice none 0 0]) := by rw [hW6]; exact hs_5.out.alloc _
    have hy_6 : Hid (Box W6 w5.heap.size 26 #[.bool gn, .slice A1 N1 c1, .slice B1 M1 d1]) := by rw [hW6]; exact Box.at' rfl
    have BW_6 : Hid (Below w.heap.size w W6) := by rw [hW6]; exact BW_5.out.alloc BW_5.out.size _
    cases bn
    case false =>
      have ehs0 := hs_6.out.cell 0
      have ehs1 := hs_6.out.cell 1
      have ehs2 := hs_6.out.cell 2
      have fhs0 := hs_6.out.free 0
      have fhs1 := hs_6.out.free 1
      have fhs2 := hs_6.out.free 2
      simp at ehs0 ehs1 ehs2
      rw [hW6] at ehs0 ehs1 ehs2 fhs0 fhs1 fhs2
      have hno : Hid (¬ ∃ g l d, RatParsed s g l d) := fun ⟨g', l', d', h⟩ => by
        have e := HL.out.symm.trans (hLa.trans (by rw [hLb]))
        rcases parsed_pieces h with ⟨h1, _, h2⟩ | ⟨x, y, h1, h2, _⟩
        · rw [h1] at e; cases e
        · rw [h1] at e; cases e; cases (parseBigInt_unique HQ.out h2).2.2
      go_wp2_with fail
      rw [← hW6]
      rw [← hW6] at ehs0 ehs1 ehs2 fhs0 fhs1 fhs2
      refine bodyPost_ret (v := .tuple #[.agg #[.bool false, .slice none 0 0, .slice none 0 0], .bool false]) (by simp [results, Try.results13, ehs0, ehs1, ehs2, go_sem]) rfl ?_
      exact pr_no hno.out (below_store3 BW_6.out (by omega) _ _ _)
    cases bf
    case false =>
      have ehs0 := hs_6.out.cell 0
      have ehs1 := hs_6.out.cell 1
      have ehs2 := hs_6.out.cell 2
      have fhs0 := hs_6.out.free 0
      have fhs1 := hs_6.out.free 1
      have fhs2 := hs_6.out.free 2
      simp at ehs0 ehs1 ehs2
      rw [hW6] at ehs0 ehs1 ehs2 fhs0 fhs1 fhs2
      have hno : Hid (¬ ∃ g l d, RatParsed s g l d) := fun ⟨g', l', d', h⟩ => by
        have e := HL.out.symm.trans (hLa.trans (by rw [hLb]))
        rcases parsed_pieces h with ⟨h1, _, h2⟩ | ⟨x, y, h1, _, h2⟩
        · rw [h1] at e; cases e
        · rw [h1] at e; cases e; cases (parseNat_unique HQ2.out h2).2
      go_wp2_with fail
      rw [← hW6]
      rw [← hW6] at ehs0 ehs1 ehs2 fhs0 fhs1 fhs2
      refine bodyPost_ret (v := .tuple #[.agg #[.bool false, .slice none 0 0, .slice none 0 0], .bool false]) (by simp [results, Try.results13, ehs0, ehs1, ehs2, go_sem]) rfl ?_
      exact pr_no hno.out (below_store3 BW_6.out (by omega) _ _ _)
    have ehs0 := hs_6.out.cell 0
    have ehs1 := hs_6.out.cell 1
    have ehs2 := hs_6.out.cell 2
    have fhs0 := hs_6.out.free 0
    have fhs1 := hs_6.out.free 1
    have fhs2 := hs_6.out.free 2
    have ehy0 := hy_6.out.cell 0
    have ehy1 := hy_6.out.cell 1
    have ehy2 := hy_6.out.cell 2
    simp at ehs0 ehs1 ehs2 ehy0 ehy1 ehy2
    rw [hW6] at ehs0 ehs1 ehs2 fhs0 fhs1 fhs2 ehy0 ehy1 ehy2
    go_wp2_with fail
    have HO6 := Lib.hid (HO3.out.alloc (.cells #[.bool gn, .slice A1 N1 c1, .slice B1 M1 d1] 26))
    have HD6 := Lib.hid (HU.out.alloc (.cells #[.bool gn, .slice A1 N1 c1, .slice B1 M1 d1] 26))
    rw [← hW6] at HO6 HD6
    have HFIT : Hid (∀ g' l' d', RatParsed s g' l' d' → g' = gn ∧ l' = ln ∧ d' = ds) := fun g' l' d' h => by
      have e := HL.out.symm.trans (hLa.trans (by rw [hLb]))
      rcases parsed_pieces h with ⟨h1, _, h2⟩ | ⟨x, y, h1, h3, h2⟩
      · rw [h1] at e; cases e
      · rw [h1] at e; cases e
        obtain ⟨e1, e2, _⟩ := parseBigInt_unique h3 HQ.out
        exact ⟨e1, e2, (parseNat_unique h2 HQ2.out).1⟩
    have HO := Lib.hid (Hid.out HO6)
    have HU' := Lib.hid (Hid.out HD6)
    have HAP : Hid (Apart (.slice B1 M1 d1) (.slice A1 N1 c1)) := fun j hj hv => by have h1 := (HO1.out.lt j hv).2; have h2 := (HD6.out.lt j hj).1; omega
    have HI : Hid (InI W6 A1 N1 ln) := by have h1 := HO.out; have h2 := HN1.out; subst h2; exact in_own HOK.out h1
    have RI := Lib.hid (room_own HO.out)
    have HJ : Hid (InI W6 B1 M1 ds) := by have h1 := HD6.out; have h2 := HM1.out; subst h2; exact in_own HOK2.out h1
    have RJ := Lib.hid (room_own HU'.out)
    rw [← hW6]
    rw [← hW6] at ehs0 ehs1 ehs2 fhs0 fhs1 fhs2 ehy0 ehy1 ehy2
    refine (spec_formatRat0 gn A1 N1 c1 ln B1 M1 d1 ds _ HI.out RI.out HJ.out RJ.out).mono ?_
    rintro e w8 ⟨t, rfl, ht, hb⟩
    have HT := Lib.hid ht
    clear ht
    clear ehs0 fhs0 ehs1 fhs1 ehs2 fhs2 ehy0 ehy1 ehy2
    have hs_8 := Lib.hid (hs_6.out.below hb hs_6.out.lt)
    have hy_8 := Lib.hid (hy_6.out.below hb hy_6.out.lt)
    have BW_8 := Lib.hid (BW_6.out.trans (hb.mono BW_6.out.size))
    replace HI := Lib.hid (HI.out.below hb)
    replace HJ := Lib.hid (HJ.out.below hb)
    replace HO := Lib.hid (own_below HO.out hb)
    replace HU' := Lib.hid (own_below HU'.out hb)
    clear hb
    have ehs0 := hs_8.out.cell 0
    have ehs1 := hs_8.out.cell 1
    have ehs2 := hs_8.out.cell 2
    have fhs0 := hs_8.out.free 0
    have fhs1 := hs_8.out.free 1
    have fhs2 := hs_8.out.free 2
    have ehy0 := hy_8.out.cell 0
    have ehy1 := hy_8.out.cell 1
    have ehy2 := hy_8.out.cell 2
    simp at ehs0 ehs1 ehs2 ehy0 ehy1 ehy2
    cases h0 : t.toList.isEmpty
    case true =>
      have hno := Lib.hid (fr_no HFIT.out HT.out (.inl (empty_yes h0)))
      go_wp2_with fail
      refine bodyPost_ret (v := .tuple #[.agg #[.bool false, .slice none 0 0, .slice none 0 0], .bool false]) (by simp [results, Try.results13, ehs0, ehs1, ehs2, go_sem]) rfl ?_
      exact pr_no hno.out (below_store3 BW_8.out (by omega) _ _ _)
    have HNE := Lib.hid (empty_no h0)
    go_wp2_with fail
    refine (spec_formatRat0 gn A1 N1 c1 ln B1 M1 d1 ds _ HI.out RI.out HJ.out RJ.out).mono ?_
    rintro e w9 ⟨t2, rfl, ht2, hb⟩
    have ett := formatRat_unique HT.out ht2
    subst ett
    clear ht2 h0
    clear ehs0 fhs0 ehs1 fhs1 ehs2 fhs2 ehy0 ehy1 ehy2
    have hs_9 := Lib.hid (hs_8.out.below hb hs_8.out.lt)
    have hy_9 := Lib.hid (hy_8.out.below hb hy_8.out.lt)
    have BW_9 := Lib.hid (BW_8.out.trans (hb.mono BW_8.out.size))
    replace HI := Lib.hid (HI.out.below hb)
    replace HJ := Lib.hid (HJ.out.below hb)
    replace HO := Lib.hid (own_below HO.out hb)
    replace HU' := Lib.hid (own_below HU'.out hb)
    clear hb
    have ehs0 := hs_9.out.cell 0
    have ehs1 := hs_9.out.cell 1
    have ehs2 := hs_9.out.cell 2
    have fhs0 := hs_9.out.free 0
    have fhs1 := hs_9.out.free 1
    have fhs2 := hs_9.out.free 2
    have ehy0 := hy_9.out.cell 0
    have ehy1 := hy_9.out.cell 1
    have ehy2 := hy_9.out.cell 2
    simp at ehs0 ehs1 ehs2 ehy0 ehy1 ehy2
    cases h1 : (t.toList == s.toList)
    case false =>
      have hno := Lib.hid (fr_no HFIT.out HT.out (.inr (fun e => by rw [e] at h1; simp at h1)))
      go_wp2_with fail
      refine bodyPost_ret (v := .tuple #[.agg #[.bool false, .slice none 0 0, .slice none 0 0], .bool false]) (by simp [results, Try.results13, ehs0, ehs1, ehs2, go_sem]) rfl ?_
      exact pr_no hno.out (below_store3 BW_9.out (by omega) _ _ _)
    have HYES := Lib.hid (fr_yes HT.out HNE.out (list_eq (eq_of_beq h1)))
    go_wp2_with fail
    refine bodyPost_ret (v := .tuple #[.agg #[.bool gn, .slice A1 N1 c1, .slice B1 M1 d1], .bool true]) (by simp [results, Try.results13, ehs0, ehs1, ehs2, go_sem]) rfl ?_
    exact pr_yes hs_9.out (by omega) BW_9.out HYES.out HN1.out.symm HM1.out.symm (by have := HI.out.2.1; omega) (by have := HJ.out.2.1; omega) HO.out (by omega) HU'.out (by omega) HAP.out
end Go.Proofs.Ytjggdbakbhacjaa
