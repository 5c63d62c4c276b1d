/- Contracts of FormatBigInt: the model's and the program's. -/
import Derived.Test.YtbfanjalinkmhaaDoorBigI
import Derived.Test.YtbfanjalinkmhaaDoorFnt
namespace Go.Proofs.YtbfanjalinkmhaaDoor
set_option maxRecDepth 100000
open Go.RowKit

/-- The text of a big integer: that of its magnitude, behind a minus where it is negative. -/
def FormatBigIntIs (g : Bool) (xs : List Int) (r : ByteArray) : Prop :=
  (BOk g xs ∧ ∃ t, FormatNatIs xs t ∧ r = if g = true then ⟨#[45]⟩ ++ t else t) ∨ (¬ BOk g xs ∧ r = ⟨#[]⟩)
theorem formatBigInt_unique {g : Bool} {xs : List Int} {r r' : ByteArray} (h : FormatBigIntIs g xs r) (h' : FormatBigIntIs g xs r') : r = r' := by
  rcases h with ⟨k, t, ht, rfl⟩ | ⟨k, rfl⟩ <;> rcases h' with ⟨k', t', ht', rfl⟩ | ⟨k', rfl⟩
  · rw [formatNat_unique ht ht']
  · exact absurd k k'
  · exact absurd k' k
  · rfl
def FmtBEnd (g : Bool) (xs : List Int) (w w' : World) (e : Ending) : Prop := ∃ r, e = .returned (.string r) ∧ FormatBigIntIs g xs r ∧ Below w.heap.size w w'
theorem fmt_size {xs : List Int} {t : ByteArray} (h : BOk true xs) (ht : FormatNatIs xs t) : t.size ≤ 540 := by
  unfold FormatNatIs at ht
  subst ht
  rw [fmtNat_ok h.1]
  have h1 := textL_len h.1.1.1 (List.length_pos_iff.2 (h.2 rfl))
  have h2 := h.1.2
  show (textL xs).toArray.size ≤ 540
  simp
  omega
set_option maxHeartbeats 800000 in
theorem spec_formatBigInt' (g : Bool) (A : Option Addr) (n c : Nat) (xs : List Int) (w : World) (h : InI w A n xs) :
    Calls Tryd.prog 13 #[.agg #[.bool g, .slice A n c]] w fun e w' => FmtBEnd g xs w w' e := by
  have hn := h.2.1
  have hx0_0 := Lib.hid (by have := Box.new w 29 #[.bool g, .slice A n c]; simpa using this : Box (w.alloc (.cells #[.bool g, .slice A n c] 29)) (w.heap.size) 29 #[.bool g, .slice A n c])
  have BW_0 := Lib.hid ((Below.refl w.heap.size w).alloc (by simp) (.cells #[.bool g, .slice A n c] 29))
  have HI := Lib.hid (h.below BW_0.out)
  clear h
  go_enter Tryd.func13, Tryd.ntmps13
  go_wp2_with fail
  refine (spec_bigOk' g A n c xs _ HI.out).mono ?_
  rintro e w1 ⟨⟨b, rfl, hi⟩, hb⟩
  have hx0_1 := Lib.hid (hx0_0.out.below hb hx0_0.out.lt)
  have BW_1 := Lib.hid (BW_0.out.trans (hb.mono BW_0.out.size))
  replace HI := Lib.hid (HI.out.below hb)
  clear hb
  have ehx00 := hx0_1.out.cell 0
  have ehx01 := hx0_1.out.cell 1
  simp at ehx00 ehx01
  cases b
  · have HF : Hid (FmtBEnd g xs w w1 (.returned (.string ⟨#[]⟩))) := ⟨_, rfl, .inr ⟨fun h => (by have := hi.2 h; cases this), rfl⟩, BW_1.out⟩
    clear hi
    go_wp2_with fail
    go_ret
    exact HF.out
  · have HOK := Lib.hid (hi.1 rfl)
    clear hi
    cases g
    · go_wp2_with fail
      refine (spec_formatNat A n c xs _ HI.out).mono ?_
      rintro e w2 ⟨t, rfl, ht, hb⟩
      have HF : Hid (FmtBEnd false xs w w2 (.returned (.string t))) := ⟨_, rfl, .inl ⟨HOK.out, t, ht, (by simp)⟩, BW_1.out.trans (hb.mono BW_1.out.size)⟩
      clear ht hb
      go_wp2_with fail
      go_ret
      exact HF.out
    · go_wp2_with fail
      refine (spec_formatNat A n c xs _ HI.out).mono ?_
      rintro e w2 ⟨t, rfl, ht, hb⟩
      have hts := fmt_size HOK.out ht
      have HF : Hid (FmtBEnd true xs w w2 (.returned (.string (⟨#[45]⟩ ++ t)))) := ⟨_, rfl, .inl ⟨HOK.out, t, ht, (by simp)⟩, BW_1.out.trans (hb.mono BW_1.out.size)⟩
      clear ht hb
      go_wp2_with fail
      go_ret
      exact HF.out
theorem spec_formatBigInt (g : Bool) (A : Option Addr) (n c : Nat) (xs : List Int) (w : World) (h : InI w A n xs) (_hR : Room A n c) :
    Calls Tryd.prog 13 #[.agg #[.bool g, .slice A n c]] w fun e w' => ∃ r, e = .returned (.string r) ∧ FormatBigIntIs g xs r ∧ Below w.heap.size w w' :=
  (spec_formatBigInt' g A n c xs w h).mono fun _ _ h => h
set_option maxHeartbeats 800000 in
theorem impl_formatBigInt' (g : Bool) (A : Option Addr) (n c : Nat) (xs : List Int) (w : World) (h : InI w A n xs) (ht : Tab w) :
    Calls Tryd.prog 31 #[.agg #[.bool g, .slice A n c]] w fun e w' => FmtBEnd g xs w w' e := by
  have hn := h.2.1
  have HT := Lib.hid ht
  clear ht
  have hx0_0 := Lib.hid (by have := Box.new w 29 #[.bool g, .slice A n c]; simpa using this : Box (w.alloc (.cells #[.bool g, .slice A n c] 29)) (w.heap.size) 29 #[.bool g, .slice A n c])
  have BW_0 := Lib.hid ((Below.refl w.heap.size w).alloc (by simp) (.cells #[.bool g, .slice A n c] 29))
  have HI := Lib.hid (h.below BW_0.out)
  clear h
  go_enter Tryd.func31, Tryd.ntmps31
  go_wp2_with fail
  refine (impl_bigOk' g A n c xs _ HI.out).mono ?_
  rintro e w1 ⟨⟨b, rfl, hi⟩, hb⟩
  have hx0_1 := Lib.hid (hx0_0.out.below hb hx0_0.out.lt)
  have BW_1 := Lib.hid (BW_0.out.trans (hb.mono BW_0.out.size))
  replace HI := Lib.hid (HI.out.below hb)
  clear hb
  have ehx00 := hx0_1.out.cell 0
  have ehx01 := hx0_1.out.cell 1
  simp at ehx00 ehx01
  cases b
  · have HF : Hid (FmtBEnd g xs w w1 (.returned (.string ⟨#[]⟩))) := ⟨_, rfl, .inr ⟨fun h => (by have := hi.2 h; cases this), rfl⟩, BW_1.out⟩
    clear hi
    go_wp2_with fail
    go_ret
    exact HF.out
  · have HOK := Lib.hid (hi.1 rfl)
    clear hi
    cases g
    · go_wp2_with fail
      refine (impl_formatNat A n c xs _ HI.out (HT.out.below BW_1.out)).mono ?_
      rintro e w2 ⟨t, rfl, ht, hb⟩
      have HF : Hid (FmtBEnd false xs w w2 (.returned (.string t))) := ⟨_, rfl, .inl ⟨HOK.out, t, ht, (by simp)⟩, BW_1.out.trans (hb.mono BW_1.out.size)⟩
      clear ht hb
      go_wp2_with fail
      go_ret
      exact HF.out
    · go_wp2_with fail
      refine (impl_formatNat A n c xs _ HI.out (HT.out.below BW_1.out)).mono ?_
      rintro e w2 ⟨t, rfl, ht, hb⟩
      have hts := fmt_size HOK.out ht
      have HF : Hid (FmtBEnd true xs w w2 (.returned (.string (⟨#[45]⟩ ++ t)))) := ⟨_, rfl, .inl ⟨HOK.out, t, ht, (by simp)⟩, BW_1.out.trans (hb.mono BW_1.out.size)⟩
      clear ht hb
      go_wp2_with fail
      go_ret
      exact HF.out
theorem impl_formatBigInt (g : Bool) (A : Option Addr) (n c : Nat) (xs : List Int) (w : World) (h : InI w A n xs) (_hR : Room A n c) (ht : Tab w) :
    Calls Tryd.prog 31 #[.agg #[.bool g, .slice A n c]] w fun e w' => ∃ r, e = .returned (.string r) ∧ FormatBigIntIs g xs r ∧ Below w.heap.size w w' :=
  (impl_formatBigInt' g A n c xs w h ht).mono fun _ _ h => h
end Go.Proofs.YtbfanjalinkmhaaDoor
