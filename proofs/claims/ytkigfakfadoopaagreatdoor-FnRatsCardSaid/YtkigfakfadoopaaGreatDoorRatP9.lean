/- Contract of ParseRat, by the program: the rows of the table of small fractions are what their texts are read as. -/
import Derived.Test.YtkigfakfadoopaaGreatDoorRatP8
namespace Go.Proofs.YtkigfakfadoopaaGreatDoor
set_option maxRecDepth 100000
open Go.RowKit

theorem small_row {s a b : ByteArray} {x y : Int} {g g0 : Bool} {l d l0 d0 : List Int} (ha : numT s = a) (hb : denT s = b) (hk : keyText (numT s) (denT s) = s) (hg : BigIntOfIs x g l) (hd : NatOfIs y d) (e1 : BigIntOfIs x g0 l0) (e2 : NatOfIs y d0)
    (f1 : FormatBigIntIs g0 l0 a) (f2 : FormatNatIs d0 b) (k : ROk g0 l0 d0) : RatParsed s g l d := by
  obtain ⟨rfl, rfl⟩ := bigIntOf_unique hg e1
  obtain rfl := natOf_unique hd e2
  exact ⟨by rw [ha]; exact parse_of_big k.1 f1, by rw [hb]; exact parse_of_text k.2.1 f2, k, hk⟩
theorem canon_two : Canon [2] := ⟨InR.one (by omega) (by omega), by simp⟩
theorem ok_two : Ok [2] := ⟨canon_two, by simp⟩
theorem fmt_none : FormatNatIs [] ⟨#[48]⟩ := by
  unfold FormatNatIs
  rw [fmtNat_ok ok_none]
  unfold textL
  rw [show (val []).toNat = 0 from rfl, Lib.decDigits_one (by omega)]
  rfl
theorem fmt_one : FormatNatIs [1] ⟨#[49]⟩ := by
  unfold FormatNatIs
  rw [fmtNat_ok ok_one]
  unfold textL
  rw [show (val [1]).toNat = 1 from rfl, Lib.decDigits_one (by omega)]
  rfl
theorem fmt_two : FormatNatIs [2] ⟨#[50]⟩ := by
  unfold FormatNatIs
  rw [fmtNat_ok ok_two]
  unfold textL
  rw [show (val [2]).toNat = 2 from rfl, Lib.decDigits_one (by omega)]
  rfl
theorem fmt_plus {l : List Int} {t : ByteArray} (k : Ok l) (h : FormatNatIs l t) : FormatBigIntIs false l t := .inl ⟨⟨k, fun e => by cases e⟩, t, h, rfl⟩
theorem fmt_minus {l : List Int} {t u : ByteArray} (k : Ok l) (hn : l ≠ []) (h : FormatNatIs l t) (e : u = ⟨#[45]⟩ ++ t) : FormatBigIntIs true l u := .inl ⟨⟨k, fun _ => hn⟩, t, h, by rw [if_pos rfl]; exact e⟩
theorem small_parsed {s : ByteArray} {x y : Int} {g : Bool} {l d : List Int} (hs : SmallIs (numT s) (denT s) x y) (hk : keyText (numT s) (denT s) = s) (hg : BigIntOfIs x g l) (hd : NatOfIs y d) : RatParsed s g l d := by
  have one : NatOfIs 1 [1] := ⟨one_canon, by simp [val]⟩
  have two : NatOfIs 2 [2] := ⟨canon_two, by simp [val]⟩
  have p : ∀ {z : Int} {w : List Int}, Canon w → val w = z → 0 ≤ z → cap w = w → BigIntOfIs z false w := fun {z w} hc hv hz e => ⟨w, hc, by rw [hv]; omega, e.symm, by simp [sgn]; omega⟩
  have m : ∀ {z : Int} {w : List Int}, Canon w → val w = -z → z < 0 → w ≠ [] → cap w = w → BigIntOfIs z true w := fun {z w} hc hv hz hn e => ⟨w, hc, by rw [hv]; omega, e.symm, by simp [sgn]; exact ⟨hz, hn⟩⟩
  rcases hs with ⟨ha, hb, rfl, rfl⟩ | ⟨ha, hb, rfl, rfl⟩ | ⟨ha, hb, rfl, rfl⟩ | ⟨ha, hb, rfl, rfl⟩ | ⟨ha, hb, rfl, rfl⟩ | ⟨ha, hb, rfl, rfl⟩ | ⟨ha, hb, rfl, rfl⟩
  · exact small_row ha hb hk hg hd (p ok_none.1 (by simp [val]) (by omega) rfl) one (fmt_plus ok_none fmt_none) fmt_one ⟨⟨ok_none, fun e => by cases e⟩, ok_one, by decide, by decide, by decide, by decide⟩
  · exact small_row ha hb hk hg hd (p one_canon (by simp [val]) (by omega) rfl) one (fmt_plus ok_one fmt_one) fmt_one ⟨⟨ok_one, fun e => by cases e⟩, ok_one, by decide, by decide, by decide, by decide⟩
  · exact small_row ha hb hk hg hd (m one_canon (by simp [val]) (by omega) (by simp) rfl) one (fmt_minus ok_one (by simp) fmt_one rfl) fmt_one ⟨⟨ok_one, fun _ => by simp⟩, ok_one, by decide, by decide, by decide, by decide⟩
  · exact small_row ha hb hk hg hd (p canon_two (by simp [val]) (by omega) rfl) one (fmt_plus ok_two fmt_two) fmt_one ⟨⟨ok_two, fun e => by cases e⟩, ok_one, by decide, by decide, by decide, by decide⟩
  · exact small_row ha hb hk hg hd (m canon_two (by simp [val]) (by omega) (by simp) rfl) one (fmt_minus ok_two (by simp) fmt_two rfl) fmt_one ⟨⟨ok_two, fun _ => by simp⟩, ok_one, by decide, by decide, by decide, by decide⟩
  · exact small_row ha hb hk hg hd (p one_canon (by simp [val]) (by omega) rfl) two (fmt_plus ok_one fmt_one) fmt_two ⟨⟨ok_one, fun e => by cases e⟩, ok_two, by decide, by decide, by decide, by decide⟩
  · exact small_row ha hb hk hg hd (m one_canon (by simp [val]) (by omega) (by simp) rfl) two (fmt_minus ok_one (by simp) fmt_one rfl) fmt_two ⟨⟨ok_one, fun _ => by simp⟩, ok_two, by decide, by decide, by decide, by decide⟩
theorem denT_size' {s : ByteArray} (hs : s.size ≤ 1048576) : (denT s).size ≤ 1048576 := by
  have key : ∀ l : List UInt8, (cut1 l).2.2 = true → (cut1 l).2.1.length < l.length := by
    intro l
    induction l with
    | nil => intro h; simp [cut1] at h
    | cons b l ih =>
      intro h
      unfold cut1 at h ⊢
      by_cases hb : b = 47
      · rw [if_pos hb]; simp
      · rw [if_neg hb] at h ⊢; have := ih h; simp; omega
  unfold denT
  split
  · rename_i h
    have h1 := key _ h
    have h2 : (⟨(cut1 s.data.toList).2.1.toArray⟩ : ByteArray).size = (cut1 s.data.toList).2.1.length := size_list _
    rw [len_size] at h1
    omega
  · exact Nat.le_trans (Nat.le_of_eq (show (⟨#[49]⟩ : ByteArray).size = 1 from rfl)) (by omega)
theorem zero_small (w : World) : (zeroValue 48).run Tryz.prog w = .ok (.agg #[.int .i64 0, .int .i64 0]) w := by kernel_rfl
def LookIs (nt dt : ByteArray) (x y : Int) (q : Bool) : Prop := (q = true → SmallIs nt dt x y) ∧ (-9223372036854775808 ≤ x ∧ x ≤ 9223372036854775807) ∧ (-9223372036854775808 ≤ y ∧ y ≤ 9223372036854775807)
/-- The look-up of a key in the table. -/
theorem look_small {w0 w : World} {b : Nat} {nt dt : ByteArray} (h : TabAt Tryz.prog 45 SmallT w0 b w) (hn : nt.size ≤ 1048576) (hd : dt.size ≤ 1048576) :
    ∃ x y q, (Instr.lookup 50 (.map (some b)) (.agg #[.string nt, .string dt]) true).run Tryz.prog w = .ok (.tuple #[.agg #[.int .i64 x, .int .i64 y], .bool q]) w ∧ Hid (LookIs nt dt x y q) := by
  obtain ⟨v, q, hrun, hres⟩ := h.look keyLaw Tryz.underlying50 (key_reads (a := nt) (b := dt) (by unfold maxLen; omega) (by unfold maxLen; omega)) zero_small
  rcases hres with ⟨rfl, a, b', x, y, he, rfl, hs⟩ | ⟨rfl, rfl⟩
  · have h1 : a = nt ∧ b' = dt := by simpa [eq_comm] using he
    obtain ⟨rfl, rfl⟩ := h1
    refine ⟨x, y, true, hrun, Lib.hid ⟨fun _ => hs, ?_⟩⟩
    rcases hs with ⟨_, _, rfl, rfl⟩ | ⟨_, _, rfl, rfl⟩ | ⟨_, _, rfl, rfl⟩ | ⟨_, _, rfl, rfl⟩ | ⟨_, _, rfl, rfl⟩ | ⟨_, _, rfl, rfl⟩ | ⟨_, _, rfl, rfl⟩ <;> omega
  · exact ⟨0, 0, false, hrun, Lib.hid ⟨(fun h => (by cases h)), by omega, by omega⟩⟩
end Go.Proofs.YtkigfakfadoopaaGreatDoor
