/- Plain facts: a text that is read as a natural number (or as a big integer) is the text of that number; no program is named here. -/
import Derived.Test.YtkigfakfadoopaaGreatDoorGP
import Derived.Test.YtkigfakfadoopaaGreatDoorBigP
import Derived.Test.YtkigfakfadoopaaGreatDoorGD
namespace Go.Proofs.YtkigfakfadoopaaGreatDoor
set_option maxRecDepth 100000
open Go.RowKit

theorem digit_back {c : UInt8} (h : digB c = true) {k : Nat} (hk : k = c.toNat - 48) : UInt8.ofNat (48 + k) = c := by
  obtain ⟨h1, h2⟩ := digB_range h
  subst hk
  rw [show 48 + (c.toNat - 48) = c.toNat by omega]
  simp
theorem head_val {c : UInt8} {l : List UInt8} (hd : (c :: l).all digB = true) (h0 : c ≠ 48) : 10 ^ l.length ≤ valFrom 0 (c :: l) := by
  rw [List.all_cons, Bool.and_eq_true] at hd
  obtain ⟨h1, h2⟩ := digB_range hd.1
  have h3 : c.toNat ≠ 48 := fun e => h0 (UInt8.toNat.inj e)
  rw [valFrom_cons, valFrom_acc]
  have h4 : 1 * 10 ^ l.length ≤ (0 * 10 + (c.toNat - 48)) * 10 ^ l.length := Nat.mul_le_mul_right _ (by omega)
  omega
/-- Digits without a zero ahead are the digits of their value. -/
theorem dec_back (n : Nat) : ∀ l : List UInt8, l.length = n → l.all digB = true → 0 < l.length → (l.length ≤ 1 ∨ l.head? ≠ some 48) → Lib.decDigits (valFrom 0 l) = l := by
  induction n using Nat.strongRecOn with
  | ind n ih =>
    intro l hn hd hp hz
    obtain ⟨l', c, rfl⟩ : ∃ l' c, l = l' ++ [c] := ⟨l.dropLast, l.getLast (List.length_pos_iff.1 hp), (List.dropLast_concat_getLast _).symm⟩
    rw [List.all_append, Bool.and_eq_true] at hd
    have hc : digB c = true := by simpa using hd.2
    obtain ⟨c1, c2⟩ := digB_range hc
    have hv : valFrom 0 (l' ++ [c]) = valFrom 0 l' * 10 + (c.toNat - 48) := by rw [valFrom_append, valFrom_cons, valFrom_nil]
    rw [hv]
    match l', hd, hz, hn, hp with
    | [], _, _, _, _ =>
      rw [valFrom_nil, Lib.decDigits_one (by omega), digit_back hc (by omega)]; rfl
    | a :: r, hd, hz, hn, _ =>
      have ha : a ≠ 48 := by
        rcases hz with h | h
        · simp at h
        · simpa using h
      have h1 := head_val hd.1 ha
      have h2 : 1 ≤ 10 ^ r.length := Nat.one_le_pow _ _ (by omega)
      rw [decDigits_last (by omega), show (valFrom 0 (a :: r) * 10 + (c.toNat - 48)) / 10 = valFrom 0 (a :: r) by omega, show (valFrom 0 (a :: r) * 10 + (c.toNat - 48)) % 10 = c.toNat - 48 by omega, digit_back hc rfl]
      rw [ih (a :: r).length (by rw [← hn]; simp) (a :: r) rfl hd.1 (by simp) (.inr (by simpa using ha))]
theorem text_of_parse {s : ByteArray} {r : List Int} (h : ParseNatIs s r true) : FormatNatIs r s := by
  have hok := parse_ok h
  rcases h with ⟨_, ⟨hd, h540, hz⟩, hc, hv⟩ | ⟨h, _⟩
  · obtain ⟨hp, ha⟩ := digits_pos s hd
    unfold FormatNatIs
    rw [fmtNat_ok hok]
    unfold textL
    have e : (val r).toNat = valFrom 0 s.data.toList := by
      rw [hv]; unfold worth
      rw [List.take_of_length_le (by rw [len_size]; exact Nat.le_refl _)]; simp
    rw [e, dec_back _ s.data.toList rfl ha (by rw [len_size]; exact hp) (by rw [len_size]; exact hz), bytes_eta']
  · cases h
theorem parse_of_text {s : ByteArray} {r : List Int} (h : Ok r) (ht : FormatNatIs r s) : ParseNatIs s r true := by
  obtain ⟨h1, h2⟩ := format_parse h ht
  exact .inl ⟨rfl, h1, h.1, h2.symm⟩
end Go.Proofs.YtkigfakfadoopaaGreatDoor
namespace Go.Proofs.YtkigfakfadoopaaGreatDoor
set_option maxRecDepth 100000
open Go.RowKit

/-- A list, cut at its first 47. -/
def cut1 : List UInt8 → List UInt8 × List UInt8 × Bool
  | [] => ([], [], false)
  | b :: l => if b = 47 then ([], l, true) else (b :: (cut1 l).1, (cut1 l).2.1, (cut1 l).2.2)
theorem cut1_none : ∀ {l : List UInt8}, 47 ∉ l → cut1 l = (l, [], false)
  | [], _ => rfl
  | b :: l, h => by
    have h1 : b ≠ 47 := fun e => h (by simp [e])
    have h2 := cut1_none (l := l) (fun e => h (by simp [e]))
    unfold cut1
    rw [if_neg h1, h2]
theorem cut1_mid : ∀ {a : List UInt8} (b : List UInt8), 47 ∉ a → cut1 (a ++ 47 :: b) = (a, b, true)
  | [], b, _ => by simp [cut1]
  | c :: a, b, h => by
    have h1 : c ≠ 47 := fun e => h (by simp [e])
    have h2 := cut1_mid (a := a) b (fun e => h (by simp [e]))
    rw [List.cons_append]
    unfold cut1
    rw [if_neg h1, h2]
def numT (s : ByteArray) : ByteArray := ⟨(cut1 s.data.toList).1.toArray⟩
def denT (s : ByteArray) : ByteArray := if (cut1 s.data.toList).2.2 = true then ⟨(cut1 s.data.toList).2.1.toArray⟩ else ⟨#[49]⟩
/-- s is read as this fraction. -/
def RatParsed (s : ByteArray) (g : Bool) (l d : List Int) : Prop := ParseBigIntIs (numT s) g l true ∧ ParseNatIs (denT s) d true ∧ ROk g l d ∧ keyText (numT s) (denT s) = s
def ParseRatIs (s : ByteArray) (g : Bool) (l d : List Int) (b : Bool) : Prop := (b = true ∧ RatParsed s g l d) ∨ (b = false ∧ g = false ∧ l = [] ∧ d = [] ∧ ¬ ∃ g l d, RatParsed s g l d)
theorem parseRat_unique {s : ByteArray} {g g' b b' : Bool} {l d l' d' : List Int} (h : ParseRatIs s g l d b) (h' : ParseRatIs s g' l' d' b') : g = g' ∧ l = l' ∧ d = d' ∧ b = b' := by
  rcases h with ⟨rfl, k1, k2, _, _⟩ | ⟨rfl, rfl, rfl, rfl, k⟩ <;> rcases h' with ⟨rfl, q1, q2, q3, q4⟩ | ⟨rfl, rfl, rfl, rfl, q⟩
  · obtain ⟨e1, e2, _⟩ := parseBigInt_unique k1 q1
    exact ⟨e1, e2, (parseNat_unique k2 q2).1, rfl⟩
  · exact absurd ⟨_, _, _, k1, k2, by assumption, by assumption⟩ q
  · exact absurd ⟨_, _, _, q1, q2, q3, q4⟩ k
  · exact ⟨rfl, rfl, rfl, rfl⟩

theorem no_slash_digits {l : List UInt8} (h : l.all digB = true) : 47 ∉ l := by
  intro hm
  rw [List.all_eq_true] at h
  have := digB_range (h _ hm)
  have e : (47 : UInt8).toNat = 47 := rfl
  omega
theorem natText_digits {s : ByteArray} (h : NatText s) : 0 < s.size ∧ s.data.toList.all digB = true := digits_pos s h.1
theorem negT_digits {s : ByteArray} (h : NatText s) : negT s = false := by
  obtain ⟨h1, h2⟩ := natText_digits h
  rw [negT_at h1, decide_eq_false_iff_not]
  intro e
  rw [List.all_eq_true] at h2
  have := digB_range (h2 _ (mem_at s 0 h1))
  rw [e] at this
  have e : (45 : UInt8).toNat = 45 := rfl
  omega
theorem minus_list (a : ByteArray) : (⟨#[45]⟩ ++ a : ByteArray).data.toList = 45 :: a.data.toList := by simp
theorem negT_minus (a : ByteArray) : negT (⟨#[45]⟩ ++ a) = true := by
  unfold negT; rw [minus_list]; rfl
theorem bodyT_minus (a : ByteArray) : bodyT (⟨#[45]⟩ ++ a) = a := by
  unfold bodyT
  rw [if_pos (negT_minus a)]
  apply ByteArray.ext
  apply Array.toList_inj.1
  have e : (⟨#[45]⟩ : ByteArray).size = 1 := rfl
  simp
  exact List.take_of_length_le (by rw [len_size, e]; omega)
/-- A minus and what stands behind it. -/
theorem negT_split {s : ByteArray} (h : negT s = true) : s = ⟨#[45]⟩ ++ bodyT s := by
  have h1 : s.data.toList.head? = some 45 := by unfold negT at h; simpa using h
  unfold bodyT
  rw [if_pos h]
  apply ByteArray.ext
  apply Array.toList_inj.1
  match hl : s.data.toList, h1 with
  | c :: r, h1 =>
    have hc : c = 45 := by simpa using h1
    subst hc
    have hsz : s.size = r.length + 1 := by rw [← len_size, hl]; rfl
    simp [hl, hsz]
theorem big_of_parse {s : ByteArray} {g : Bool} {r : List Int} (h : ParseBigIntIs s g r true) : BOk g r ∧ FormatBigIntIs g r s := by
  rcases h with ⟨_, rfl, h1, h2⟩ | ⟨h, _⟩
  · have hok : BOk (negT s) r := ⟨parse_ok h1, h2⟩
    refine ⟨hok, .inl ⟨hok, bodyT s, text_of_parse h1, ?_⟩⟩
    by_cases hn : negT s = true
    · rw [if_pos hn]; exact negT_split hn
    · rw [if_neg hn]; unfold bodyT; rw [if_neg hn]
  · cases h
theorem parse_of_big {s : ByteArray} {g : Bool} {r : List Int} (k : BOk g r) (h : FormatBigIntIs g r s) : ParseBigIntIs s g r true := by
  rcases h with ⟨_, a, ha, rfl⟩ | ⟨h, _⟩
  · have hp := parse_of_text k.1 ha
    have ht := (format_parse k.1 ha).1
    cases g
    · rw [if_neg (by decide)]
      have hn := negT_digits ht
      refine .inl ⟨rfl, hn.symm, ?_, fun e => by rw [hn] at e; cases e⟩
      unfold bodyT; rwa [if_neg (by rw [hn]; decide)]
    · rw [if_pos rfl]
      exact .inl ⟨rfl, (negT_minus a).symm, by rw [bodyT_minus]; exact hp, fun _ => k.2 rfl⟩
  · exact absurd k h
theorem no_slash_big {s : ByteArray} {g : Bool} {r : List Int} (k : BOk g r) (h : FormatBigIntIs g r s) : 47 ∉ s.data.toList := by
  rcases h with ⟨_, a, ha, rfl⟩ | ⟨h, _⟩
  · have hd := no_slash_digits (natText_digits (format_parse k.1 ha).1).2
    cases g
    · rw [if_neg (by decide)]; exact hd
    · rw [if_pos rfl, minus_list]
      intro hm
      rcases List.mem_cons.1 hm with h | h
      · exact absurd h (by decide)
      · exact hd h
  · exact absurd k h
theorem slash_list (a b : ByteArray) : (a ++ ⟨#[47]⟩ ++ b : ByteArray).data.toList = a.data.toList ++ 47 :: b.data.toList := by simp
theorem num_den_none {s : ByteArray} (h : 47 ∉ s.data.toList) : numT s = s ∧ denT s = ⟨#[49]⟩ := by
  unfold numT denT
  rw [cut1_none h]
  exact ⟨bytes_eta' s, by simp⟩
theorem num_den_mid {a b : ByteArray} (h : 47 ∉ a.data.toList) : numT (a ++ ⟨#[47]⟩ ++ b) = a ∧ denT (a ++ ⟨#[47]⟩ ++ b) = b := by
  unfold numT denT
  rw [slash_list, cut1_mid _ h]
  exact ⟨bytes_eta' a, by simp⟩
/-- A valid fraction's text is read as that fraction. -/
theorem parsed_of_text {s : ByteArray} {g : Bool} {l d : List Int} (k : ROk g l d) (h : FormatRatIs g l d s) : RatParsed s g l d := by
  rcases h with ⟨_, a, ha, h⟩ | ⟨h, _⟩
  · have hs := no_slash_big k.1 ha
    rcases h with ⟨rfl, rfl⟩ | ⟨hne, b, hb, rfl⟩
    · obtain ⟨e1, e2⟩ := num_den_none hs
      have hone : FormatNatIs [1] ⟨#[49]⟩ := by
        have ht := formatNat_text k.2.1
        rwa [(text_one k.2.1 ht).2 rfl] at ht
      refine ⟨by rw [e1]; exact parse_of_big k.1 ha, by rw [e2]; exact parse_of_text k.2.1 hone, k, ?_⟩
      rw [e1, e2]; unfold keyText; rw [if_pos rfl]
    · obtain ⟨e1, e2⟩ := num_den_mid (b := b) hs
      refine ⟨by rw [e1]; exact parse_of_big k.1 ha, by rw [e2]; exact parse_of_text k.2.1 hb, k, ?_⟩
      rw [e1, e2]; unfold keyText
      rw [if_neg (fun e => hne ((text_one k.2.1 hb).1 e))]
  · exact absurd k h
/-- What is read as a fraction is its text. -/
theorem text_of_parsed {s : ByteArray} {g : Bool} {l d : List Int} (h : RatParsed s g l d) : ROk g l d ∧ FormatRatIs g l d s := by
  obtain ⟨h1, h2, k, h4⟩ := h
  have hb := text_of_parse h2
  refine ⟨k, .inl ⟨k, numT s, (big_of_parse h1).2, ?_⟩⟩
  have e := text_one k.2.1 hb
  unfold keyText at h4
  by_cases hd : denT s = ⟨#[49]⟩
  · rw [if_pos hd] at h4; exact .inl ⟨e.1 hd, h4.symm⟩
  · rw [if_neg hd] at h4; exact .inr ⟨fun c => hd (e.2 c), denT s, hb, h4.symm⟩
end Go.Proofs.YtkigfakfadoopaaGreatDoor
namespace Go.Proofs.YtkigfakfadoopaaGreatDoor
set_option maxRecDepth 100000
open Go.RowKit

def slashT : ByteArray := ⟨#[47]⟩
theorem slash_miss {s : ByteArray} {k : Nat} (h : byteAt s k ≠ 47) : slashT.data.toList.contains (byteAt s k) = false := by
  simp [slashT]; exact fun e => h e
theorem split_free {s : ByteArray} {k : Nat} (h : ∀ j, j < k → byteAt s j ≠ 47) : pieces s slashT k = [] ∧ begins s slashT k = 0 := by
  induction k with
  | zero => exact ⟨rfl, rfl⟩
  | succ k ih =>
    obtain ⟨h1, h2⟩ := split_miss (d := slashT) (slash_miss (h k (by omega)))
    obtain ⟨h3, h4⟩ := ih (fun j hj => h j (by omega))
    exact ⟨h1.trans h3, h2.trans h4⟩
theorem byteAt_mem {s : ByteArray} {k : Nat} (h : k < s.size) : byteAt s k ∈ s.data.toList := by rw [byteAt_lt h]; exact mem_at s k h
theorem extract_all (s : ByteArray) : s.extract 0 s.size = s := by
  apply ByteArray.ext
  apply Array.toList_inj.1
  simp
/-- No slash: one piece. -/
theorem splitAll_none {s : ByteArray} (h : 47 ∉ s.data.toList) : splitAll s slashT = [s] := by
  obtain ⟨h1, h2⟩ := split_free (s := s) (k := s.size) (fun j hj e => h (e ▸ byteAt_mem hj))
  unfold splitAll
  rw [h1, h2, extract_all]; rfl
section
variable {a b : ByteArray}
theorem mid_size : (a ++ slashT ++ b).size = a.size + 1 + b.size := by rw [ByteArray.size_append, ByteArray.size_append]; rfl
theorem mid_list : (a ++ slashT ++ b).data.toList = a.data.toList ++ 47 :: b.data.toList := slash_list a b
theorem byteAt_list {s : ByteArray} {k : Nat} (h : k < s.size) : s.data.toList[k]? = some (byteAt s k) := by
  rw [byteAt_lt h, List.getElem?_eq_getElem (by rw [len_size]; exact h)]; rfl
theorem byteAt_left {k : Nat} (h : k < a.size) : byteAt (a ++ slashT ++ b) k = byteAt a k := by
  have h1 := byteAt_list (s := a ++ slashT ++ b) (k := k) (by rw [mid_size]; omega)
  rw [mid_list, List.getElem?_append_left (by rw [len_size]; exact h), byteAt_list h] at h1
  exact (Option.some.inj h1).symm
theorem byteAt_mid : byteAt (a ++ slashT ++ b) a.size = 47 := by
  have h1 := byteAt_list (s := a ++ slashT ++ b) (k := a.size) (by rw [mid_size]; omega)
  rw [mid_list, List.getElem?_append_right (by rw [len_size]; exact Nat.le_refl _), len_size, Nat.sub_self] at h1
  simpa using h1.symm
theorem byteAt_right {k : Nat} (h : k < b.size) : byteAt (a ++ slashT ++ b) (a.size + 1 + k) = byteAt b k := by
  have h1 := byteAt_list (s := a ++ slashT ++ b) (k := a.size + 1 + k) (by rw [mid_size]; omega)
  rw [mid_list, List.getElem?_append_right (by rw [len_size]; omega), len_size, show a.size + 1 + k - a.size = k + 1 by omega, List.getElem?_cons_succ, byteAt_list h] at h1
  exact (Option.some.inj h1).symm
theorem mid_pieces (ha : 47 ∉ a.data.toList) (hb : 47 ∉ b.data.toList) : ∀ j, j ≤ b.size → pieces (a ++ slashT ++ b) slashT (a.size + 1 + j) = [(a ++ slashT ++ b).extract 0 a.size] ∧ begins (a ++ slashT ++ b) slashT (a.size + 1 + j) = a.size + 1
  | 0, _ => by
    obtain ⟨h1, h2⟩ := split_free (s := a ++ slashT ++ b) (k := a.size) (fun j hj e => ha (by rw [byteAt_left hj] at e; exact e ▸ byteAt_mem hj))
    have hc : slashT.data.toList.contains (byteAt (a ++ slashT ++ b) a.size) = true := by rw [byteAt_mid]; decide
    obtain ⟨h3, h4⟩ := split_hit hc
    rw [h1, h2] at h3
    exact ⟨h3, h4⟩
  | j + 1, hj => by
    obtain ⟨h1, h2⟩ := mid_pieces ha hb j (by omega)
    have hm := slash_miss (s := a ++ slashT ++ b) (k := a.size + 1 + j) (by rw [byteAt_right (by omega)]; exact fun e => hb (e ▸ byteAt_mem (by omega)))
    obtain ⟨h3, h4⟩ := split_miss hm
    exact ⟨h3.trans h1, h4.trans h2⟩
theorem mid_first : (a ++ slashT ++ b).extract 0 a.size = a := by
  apply ByteArray.ext
  apply Array.toList_inj.1
  have h : a.data.size = a.size := rfl
  simp [h]
  exact List.take_of_length_le (by rw [len_size]; exact Nat.le_refl _)
theorem mid_last : (a ++ slashT ++ b).extract (a.size + 1) (a ++ slashT ++ b).size = b := by
  apply ByteArray.ext
  apply Array.toList_inj.1
  have h1 : (a ++ slashT ++ b).size = a.size + 1 + b.size := mid_size
  obtain ⟨S, hS⟩ : ∃ S, S = a ++ slashT ++ b := ⟨_, rfl⟩
  have hl : S.data.toList = a.data.toList ++ 47 :: b.data.toList := by rw [hS]; exact mid_list
  rw [← hS] at h1 ⊢
  have e : (S.extract (a.size + 1) S.size).data.toList = (S.data.toList.drop (a.size + 1)).take (S.size - (a.size + 1)) := by simp
  rw [e, List.take_of_length_le (by rw [List.length_drop, len_size]; exact Nat.le_refl _), hl, List.drop_append, List.drop_eq_nil_of_le (by rw [len_size]; omega), List.nil_append, len_size, show a.size + 1 - a.size = 1 by omega]
  rfl
/-- One slash: two pieces. -/
theorem splitAll_mid (ha : 47 ∉ a.data.toList) (hb : 47 ∉ b.data.toList) : splitAll (a ++ slashT ++ b) slashT = [a, b] := by
  obtain ⟨h1, h2⟩ := mid_pieces ha hb b.size (Nat.le_refl _)
  unfold splitAll
  have e : (a ++ slashT ++ b).size = a.size + 1 + b.size := mid_size
  rw [← e] at h1 h2
  rw [h1, h2, mid_first, mid_last]; rfl
end
end Go.Proofs.YtkigfakfadoopaaGreatDoor
namespace Go.Proofs.YtkigfakfadoopaaGreatDoor
set_option maxRecDepth 100000
open Go.RowKit

theorem extract_le (s : ByteArray) (i j : Nat) : (s.extract i j).size ≤ s.size := by
  rw [ByteArray.size_extract]; omega
theorem pieces_size {s d : ByteArray} : ∀ k, ∀ p ∈ pieces s d k, p.size ≤ s.size
  | 0, p, h => by cases h
  | k + 1, p, h => by
    cases hc : d.data.toList.contains (byteAt s k)
    · rw [(split_miss hc).1] at h; exact pieces_size k p h
    · rw [(split_hit hc).1] at h
      rcases List.mem_append.1 h with h | h
      · exact pieces_size k p h
      · have : p = s.extract (begins s d k) k := by simpa using h
        rw [this]; exact extract_le _ _ _
theorem splitAll_size {s d : ByteArray} : ∀ p ∈ splitAll s d, p.size ≤ s.size := by
  intro p h
  unfold splitAll at h
  rcases List.mem_append.1 h with h | h
  · exact pieces_size _ p h
  · have : p = s.extract (begins s d s.size) s.size := by simpa using h
    rw [this]; exact extract_le _ _ _
def PRatEnd (s : ByteArray) (w w' : World) (e : Ending) : Prop := ∃ g l v d u b, e = .returned (.tuple #[.agg #[.bool g, v, u], .bool b]) ∧ ParseRatIs s g l d b ∧ ResI w w' v l ∧ ResI w w' u d ∧ Apart u v ∧ Below w.heap.size w w'
theorem pr_no {s : ByteArray} {w w' : World} (h : ¬ ∃ g l d, RatParsed s g l d) (hb : Below w.heap.size w w') : PRatEnd s w w' (.returned (.tuple #[.agg #[.bool false, .slice none 0 0, .slice none 0 0], .bool false])) :=
  ⟨false, [], _, [], _, false, rfl, .inr ⟨rfl, rfl, rfl, rfl, h⟩, ⟨by simp, World.ownsRow_nil _ _ _ _⟩, ⟨by simp, World.ownsRow_nil _ _ _ _⟩, (fun k hk => by simp [Value.ownBlock] at hk), hb⟩
/-- What the pieces of a text say of it. -/
theorem parsed_pieces {s : ByteArray} {g : Bool} {l d : List Int} (h : RatParsed s g l d) :
    (splitAll s slashT = [s] ∧ d = [1] ∧ ParseBigIntIs s g l true) ∨ ∃ a b, splitAll s slashT = [a, b] ∧ ParseBigIntIs a g l true ∧ ParseNatIs b d true := by
  obtain ⟨k, ht⟩ := text_of_parsed h
  rcases ht with ⟨_, a, ha, ht⟩ | ⟨ht, _⟩
  · have hs := no_slash_big k.1 ha
    rcases ht with ⟨rfl, rfl⟩ | ⟨hne, b, hb, rfl⟩
    · exact .inl ⟨splitAll_none hs, rfl, parse_of_big k.1 ha⟩
    · have hbd := no_slash_digits (natText_digits (format_parse k.2.1 hb).1).2
      exact .inr ⟨a, b, splitAll_mid hs hbd, parse_of_big k.1 ha, parse_of_text k.2.1 hb⟩
  · exact absurd k ht
end Go.Proofs.YtkigfakfadoopaaGreatDoor
namespace Go.Proofs.YtkigfakfadoopaaGreatDoor
set_option maxRecDepth 100000
open Go.RowKit

theorem ok_none : Ok [] := ⟨⟨fun z hz => (by cases hz), (by decide)⟩, (by decide)⟩
theorem nat_any_ok {s : ByteArray} {r : List Int} {b : Bool} (h : ParseNatIs s r b) : Ok r := by
  cases b
  · rcases h with ⟨h, _⟩ | ⟨_, rfl, _⟩
    · cases h
    · exact ok_none
  · exact parse_ok h
theorem big_any_ok {s : ByteArray} {g : Bool} {r : List Int} {b : Bool} (h : ParseBigIntIs s g r b) : Ok r := by
  rcases h with ⟨_, _, h, _⟩ | ⟨_, _, rfl, _⟩
  · exact parse_ok h
  · exact ok_none
theorem ok_one : Ok [1] := ⟨⟨fun d h => (by simp at h; omega), (by decide)⟩, (by decide)⟩
theorem parsed_ne {s : ByteArray} {g : Bool} {l d : List Int} (h : RatParsed s g l d) : s ≠ ⟨#[]⟩ := by
  rintro rfl
  obtain ⟨h, _⟩ := h
  rcases h with ⟨_, _, h, _⟩ | ⟨h, _⟩
  · rcases h with ⟨_, h, _⟩ | ⟨h, _⟩
    · have h1 := (natText_digits h).1
      have e : (bodyT (numT ⟨#[]⟩)).size = 0 := by rfl
      omega
    · cases h
  · cases h
theorem fr_yes {s t : ByteArray} {g : Bool} {l d : List Int} (ht : FormatRatIs g l d t) (h0 : t ≠ ⟨#[]⟩) (h1 : t = s) : RatParsed s g l d := by
  subst h1
  have h := ht
  rcases ht with ⟨k, _⟩ | ⟨_, e⟩
  · exact parsed_of_text k h
  · exact absurd e h0
theorem fr_no {s t : ByteArray} {g : Bool} {l d : List Int} (HF : ∀ g' l' d', RatParsed s g' l' d' → g' = g ∧ l' = l ∧ d' = d) (ht : FormatRatIs g l d t) (h : t = ⟨#[]⟩ ∨ t ≠ s) : ¬ ∃ g l d, RatParsed s g l d := fun ⟨g', l', d', q⟩ => by
  obtain ⟨rfl, rfl, rfl⟩ := HF _ _ _ q
  have e := formatRat_unique ht (text_of_parsed q).2
  rcases h with h | h
  · exact parsed_ne q (e.symm.trans h)
  · exact h e
theorem empty_yes {t : ByteArray} (h : t.toList.isEmpty = true) : t = ⟨#[]⟩ := by
  rw [Lib.toList_data] at h
  apply ByteArray.ext
  apply Array.toList_inj.1
  simpa using h
theorem empty_no {t : ByteArray} (h : t.toList.isEmpty = false) : t ≠ ⟨#[]⟩ := by
  rintro rfl
  rw [Lib.toList_data] at h
  simp at h
theorem list_eq {t s : ByteArray} (h : t.toList = s.toList) : t = s := by
  rw [Lib.toList_data, Lib.toList_data] at h
  exact ByteArray.ext (Array.toList_inj.1 h)
theorem pr_yes {q : ByteArray} {w W : World} {gb : Nat} {cs : Array Value} {s : Bool} {r ds : List Int} {A B : Option Addr} {N c M d base1 base2 : Nat}
    (hbx : Box W gb 27 cs) (hg : w.heap.size ≤ gb) (hb : Below w.heap.size w W) (hQ : RatParsed q s r ds) (hr : r.length = N) (hd : ds.length = M) (hN : N ≤ 4194304) (hM : M ≤ 4194304)
    (o1 : W.ownsRow base1 3 1 (.slice A N c) N (r.map (.int .i64))) (b1 : w.heap.size ≤ base1) (o2 : W.ownsRow base2 3 1 (.slice B M d) M (ds.map (.int .i64))) (b2 : w.heap.size ≤ base2) (ap : Apart (.slice B M d) (.slice A N c)) :
    PRatEnd q w (((W.setCell ⟨gb, 0, none⟩ (.bool s)).setCell ⟨gb, 1, none⟩ (.slice A N c)).setCell ⟨gb, 2, none⟩ (.slice B M d)) (.returned (.tuple #[.agg #[.bool s, .slice A N c, .slice B M d], .bool true])) := by
  obtain ⟨g, l, v, e, u, h1, h2, h3, h4, h5, h6⟩ := ratEnd_store (Q := RatParsed q) hbx hg hb hQ hr hd hN hM o1 b1 o2 b2 ap
  cases h1
  exact ⟨_, l, _, e, _, true, rfl, .inl ⟨rfl, h2⟩, h3, h4, h5, h6⟩
end Go.Proofs.YtkigfakfadoopaaGreatDoor
