/- Contracts of fractions: valid or not, by the model and by the program. -/
import Derived.Test.YtjggdbakbhacjaaRatMem
import Derived.Test.YtjggdbakbhacjaaBigI4
import Derived.Test.YtjggdbakbhacjaaNat7
import Derived.Test.YtjggdbakbhacjaaIm9
namespace Go.Proofs.Ytjggdbakbhacjaa
set_option maxRecDepth 100000
open Go.RowKit

def ROkEnd (g : Bool) (xs ds : List Int) (e : Ending) : Prop := ∃ b, e = .returned (.bool b) ∧ RatOkIs g xs ds b
theorem rok_no {g : Bool} {xs ds : List Int} (h : ¬ ROk g xs ds) : ROkEnd g xs ds (.returned (.bool false)) := ⟨false, rfl, by unfold RatOkIs; simp [h]⟩
theorem rok_mk {g : Bool} {xs ds r : List Int} {b : Bool} (k1 : BOk g xs) (k2 : Ok ds) (hd : 0 < val ds) (hx : xs.length ≤ 24) (hy : ds.length ≤ 24) (h : GcdIs (val xs) (val ds) r) (hb : decide (r = [1]) = b) : ROkEnd g xs ds (.returned (.bool b)) := by
  refine ⟨b, rfl, ?_⟩
  unfold RatOkIs
  rw [← hb, decide_eq_true_iff, gcd_one h]
  exact ⟨fun h => ⟨k1, k2, hd, h, hx, hy⟩, fun h => h.2.2.2.1⟩
theorem one_cell {w : World} {A : Option Addr} {xs : List Int} (hn : xs.length = 1) (hr : Reads w A (xs.map (.int .i64))) : ∃ g o x, A = some ⟨g, o, none⟩ ∧ w.cell? ⟨g, o, none⟩ = some (.int .i64 x) ∧ xs = [x] := by
  obtain ⟨x, rfl⟩ : ∃ x, xs = [x] := List.length_eq_one_iff.1 hn
  obtain ⟨g, o, rfl, _, hc⟩ := hr.at_ (by simp)
  refine ⟨g, o, x, rfl, ?_, rfl⟩
  have := hc 0 (by simp)
  simpa using this
set_option maxHeartbeats 400000 in
theorem spec_one (A : Option Addr) (n c : Nat) (xs : List Int) (b : Bool) (w : World) (hq : decide (xs = [1]) = b) (hn : xs.length = n) (hm : n ≤ 4194304) (hr : Reads w A (xs.map (.int .i64))) :
    Calls Try.prog 89 #[.slice A n c] w fun e w' => e = .returned (.bool b) ∧ w = w' := by
  by_cases h1 : n = 1
  · subst h1
    obtain ⟨g, o, x, rfl, hcell, rfl⟩ := one_cell hn hr
    have hx : (x == 1) = b := by rw [← hq, Bool.eq_iff_iff]; simp
    clear hn hr hq
    go_enter Try.func89, Try.ntmps89
    go_wp2_with fail
    go_ret
    exact ⟨rfl, rfl⟩
  · have hf : b = false := by rw [← hq, decide_eq_false_iff_not]; rintro rfl; exact h1 (by rw [← hn]; rfl)
    subst hf
    have ht : ((n : Int) == 1) = false := by simp; omega
    clear hn hr hq
    go_enter Try.func89, Try.ntmps89
    go_wp2_with fail
    go_ret
    exact ⟨rfl, rfl⟩
set_option maxHeartbeats 400000 in
theorem impl_one (A : Option Addr) (n c : Nat) (xs : List Int) (b : Bool) (w : World) (hq : decide (xs = [1]) = b) (hn : xs.length = n) (hm : n ≤ 4194304) (hr : Reads w A (xs.map (.int .i64))) :
    Calls Try.prog 101 #[.slice A n c] w fun e w' => e = .returned (.bool b) ∧ w = w' := by
  by_cases h1 : n = 1
  · subst h1
    obtain ⟨g, o, x, rfl, hcell, rfl⟩ := one_cell hn hr
    have hx : (x == 1) = b := by rw [← hq, Bool.eq_iff_iff]; simp
    clear hn hr hq
    go_enter Try.func101, Try.ntmps101
    go_wp2_with fail
    go_ret
    exact ⟨rfl, rfl⟩
  · have hf : b = false := by rw [← hq, decide_eq_false_iff_not]; rintro rfl; exact h1 (by rw [← hn]; rfl)
    subst hf
    have ht : ((n : Int) == 1) = false := by simp; omega
    clear hn hr hq
    go_enter Try.func101, Try.ntmps101
    go_wp2_with fail
    go_ret
    exact ⟨rfl, rfl⟩
set_option maxHeartbeats 1600000 in
theorem spec_ratOk' (g : Bool) (A : Option Addr) (n c : Nat) (xs : List Int) (B : Option Addr) (m d : Nat) (ds : List Int) (w : World) (h : InI w A n xs) (k : InI w B m ds) :
    Calls Try.prog 60 #[.agg #[.bool g, .slice A n c, .slice B m d]] w fun e w' => ROkEnd g xs ds e ∧ Below w.heap.size w w' := by
  have hn := h.2.1
  have hm := k.2.1
  have hy0_0 := Lib.hid (by have := Box.new w 26 #[.bool g, .slice A n c, .slice B m d]; simpa using this : Box (w.alloc (.cells #[.bool g, .slice A n c, .slice B m d] 26)) (w.heap.size) 26 #[.bool g, .slice A n c, .slice B m d])
  have BW_0 := Lib.hid ((Below.refl w.heap.size w).alloc (by simp) (.cells #[.bool g, .slice A n c, .slice B m d] 26))
  have HI := Lib.hid (h.below BW_0.out)
  have HK := Lib.hid (k.below BW_0.out)
  clear h k
  go_enter Try.func60, Try.ntmps60
  go_wp2_with fail
  refine (spec_bigOk' g A n c xs _ HI.out).mono ?_
  rintro e w1 ⟨⟨b, rfl, hi⟩, hb⟩
  have hy0_1 := Lib.hid (hy0_0.out.below hb hy0_0.out.lt)
  have BW_1 := Lib.hid (BW_0.out.trans (hb.mono BW_0.out.size))
  replace HI := Lib.hid (HI.out.below hb)
  replace HK := Lib.hid (HK.out.below hb)
  clear hb
  have ehy00 := hy0_1.out.cell 0
  have ehy01 := hy0_1.out.cell 1
  have ehy02 := hy0_1.out.cell 2
  simp at ehy00 ehy01 ehy02
  cases b
  · have HF := Lib.hid (rok_no (g := g) (xs := xs) (ds := ds) (fun h => by have := hi.2 h.1; cases this))
    clear hi
    go_wp2_with fail
    go_ret
    exact ⟨HF.out, BW_1.out⟩
  have K1 := Lib.hid (hi.1 rfl)
  clear hi
  go_wp2_with fail
  refine (spec_natOk' B m d ds _ HK.out).mono ?_
  rintro e w2 ⟨⟨b, rfl, hi⟩, rfl⟩
  cases b
  · have HF := Lib.hid (rok_no (g := g) (xs := xs) (ds := ds) (fun h => by have := hi.2 h.2.1; cases this))
    clear hi
    go_wp2_with fail
    go_ret
    exact ⟨HF.out, BW_1.out⟩
  have K2 := Lib.hid (hi.1 rfl)
  clear hi
  by_cases hz : m = 0
  · have HF := Lib.hid (rok_no (g := g) (xs := xs) (ds := ds) (fun h => by have h3 := h.2.2.1; rw [List.eq_nil_of_length_eq_zero (HK.out.1.trans hz)] at h3; simp [val] at h3))
    have ht : ((m : Int) == 0) = true := by simp [hz]
    clear hz
    go_wp2_with fail
    go_ret
    exact ⟨HF.out, BW_1.out⟩
  have ht : ((m : Int) == 0) = false := by simp [hz]
  have HP := Lib.hid (canon_pos K2.out.1 (by rw [HK.out.1]; omega))
  clear hz
  by_cases h24 : 24 < (m : Int)
  · have HF := Lib.hid (rok_no (g := g) (xs := xs) (ds := ds) (fun h => by have h3 := h.2.2.2.2.2; rw [HK.out.1] at h3; omega))
    go_wp2_with fail
    go_ret
    exact ⟨HF.out, BW_1.out⟩
  by_cases h25 : 24 < (n : Int)
  · have HF := Lib.hid (rok_no (g := g) (xs := xs) (ds := ds) (fun h => by have h3 := h.2.2.2.2.1; rw [HI.out.1] at h3; omega))
    go_wp2_with fail
    go_ret
    exact ⟨HF.out, BW_1.out⟩
  go_wp2_with fail
  refine (spec_gcd A n c xs B m d ds _ ⟨HI.out.1, by omega, HI.out.2.2.1⟩ ⟨HK.out.1, by omega, HK.out.2.2.1⟩ K1.out.1.1 K2.out.1).mono ?_
  rintro e w3 ⟨r, v, rfl, hg, ⟨hl, ho⟩, hb⟩
  have BW_2 := Lib.hid (BW_1.out.trans (hb.mono BW_1.out.size))
  obtain ⟨A1, c1, rfl⟩ := own_slice ho
  obtain ⟨q, hq⟩ : ∃ q, decide (r = [1]) = q := ⟨_, rfl⟩
  have HF := Lib.hid (rok_mk K1.out K2.out HP.out (by rw [HI.out.1]; omega) (by rw [HK.out.1]; omega) hg hq)
  have HQ := Lib.hid hq
  have HO := Lib.hid ho
  clear hg ho hb hq
  clear ehy00 ehy01 ehy02
  go_wp2_with fail
  refine (spec_one A1 r.length c1 r q _ HQ.out rfl hl (Reads.of_own HO.out)).mono ?_
  rintro e w4 ⟨rfl, rfl⟩
  go_wp2_with fail
  go_ret
  exact ⟨HF.out, BW_2.out⟩
theorem spec_ratOk (g : Bool) (A : Option Addr) (n c : Nat) (xs : List Int) (B : Option Addr) (m d : Nat) (ds : List Int) (w : World) (h : InI w A n xs) (_r : Room A n c) (k : InI w B m ds) (_s : Room B m d) :
    Calls Try.prog 60 #[.agg #[.bool g, .slice A n c, .slice B m d]] w fun e w' => ∃ b, e = .returned (.bool b) ∧ RatOkIs g xs ds b ∧ Below w.heap.size w w' :=
  (spec_ratOk' g A n c xs B m d ds w h k).mono fun _ _ ⟨⟨b, he, hi⟩, hw⟩ => ⟨b, he, hi, hw⟩
set_option maxHeartbeats 1600000 in
theorem impl_ratOk' (g : Bool) (A : Option Addr) (n c : Nat) (xs : List Int) (B : Option Addr) (m d : Nat) (ds : List Int) (w : World) (h : InI w A n xs) (k : InI w B m ds) :
    Calls Try.prog 53 #[.agg #[.bool g, .slice A n c, .slice B m d]] w fun e w' => ROkEnd g xs ds e ∧ Below w.heap.size w w' := by
  have hn := h.2.1
  have hm := k.2.1
  have hy0_0 := Lib.hid (by have := Box.new w 26 #[.bool g, .slice A n c, .slice B m d]; simpa using this : Box (w.alloc (.cells #[.bool g, .slice A n c, .slice B m d] 26)) (w.heap.size) 26 #[.bool g, .slice A n c, .slice B m d])
  have BW_0 := Lib.hid ((Below.refl w.heap.size w).alloc (by simp) (.cells #[.bool g, .slice A n c, .slice B m d] 26))
  have HI := Lib.hid (h.below BW_0.out)
  have HK := Lib.hid (k.below BW_0.out)
  clear h k
  go_enter Try.func53, Try.ntmps53
  go_wp2_with fail
  refine (impl_bigOk' g A n c xs _ HI.out).mono ?_
  rintro e w1 ⟨⟨b, rfl, hi⟩, hb⟩
  have hy0_1 := Lib.hid (hy0_0.out.below hb hy0_0.out.lt)
  have BW_1 := Lib.hid (BW_0.out.trans (hb.mono BW_0.out.size))
  replace HI := Lib.hid (HI.out.below hb)
  replace HK := Lib.hid (HK.out.below hb)
  clear hb
  have ehy00 := hy0_1.out.cell 0
  have ehy01 := hy0_1.out.cell 1
  have ehy02 := hy0_1.out.cell 2
  simp at ehy00 ehy01 ehy02
  cases b
  · have HF := Lib.hid (rok_no (g := g) (xs := xs) (ds := ds) (fun h => by have := hi.2 h.1; cases this))
    clear hi
    go_wp2_with fail
    go_ret
    exact ⟨HF.out, BW_1.out⟩
  have K1 := Lib.hid (hi.1 rfl)
  clear hi
  go_wp2_with fail
  refine (impl_natOk' B m d ds _ HK.out).mono ?_
  rintro e w2 ⟨⟨b, rfl, hi⟩, rfl⟩
  cases b
  · have HF := Lib.hid (rok_no (g := g) (xs := xs) (ds := ds) (fun h => by have := hi.2 h.2.1; cases this))
    clear hi
    go_wp2_with fail
    go_ret
    exact ⟨HF.out, BW_1.out⟩
  have K2 := Lib.hid (hi.1 rfl)
  clear hi
  by_cases h25 : 24 < (n : Int)
  · have HF := Lib.hid (rok_no (g := g) (xs := xs) (ds := ds) (fun h => by have h3 := h.2.2.2.2.1; rw [HI.out.1] at h3; omega))
    go_wp2_with fail
    go_ret
    exact ⟨HF.out, BW_1.out⟩
  by_cases h24 : 24 < (m : Int)
  · have HF := Lib.hid (rok_no (g := g) (xs := xs) (ds := ds) (fun h => by have h3 := h.2.2.2.2.2; rw [HK.out.1] at h3; omega))
    go_wp2_with fail
    go_ret
    exact ⟨HF.out, BW_1.out⟩
  by_cases hz : (m : Int) < 1
  · have HF := Lib.hid (rok_no (g := g) (xs := xs) (ds := ds) (fun h => by have h3 := h.2.2.1; rw [List.eq_nil_of_length_eq_zero (HK.out.1.trans (show m = 0 by omega))] at h3; simp [val] at h3))
    go_wp2_with fail
    go_ret
    exact ⟨HF.out, BW_1.out⟩
  have HP := Lib.hid (canon_pos K2.out.1 (by rw [HK.out.1]; omega))
  go_wp2_with fail
  refine (impl_natGcd A n c xs B m d ds _ HI.out HK.out).mono ?_
  rintro e w3 ⟨r, v, rfl, hg, ⟨hl, ho⟩, hb⟩
  have hg2 : GcdIs (val xs) (val ds) r := by
    rcases hg with ⟨_, _, hg⟩ | ⟨hg, _⟩
    · exact hg
    · exact absurd ⟨K1.out.1, K2.out⟩ hg
  have BW_2 := Lib.hid (BW_1.out.trans (hb.mono BW_1.out.size))
  obtain ⟨A1, c1, rfl⟩ := own_slice ho
  obtain ⟨q, hq⟩ : ∃ q, decide (r = [1]) = q := ⟨_, rfl⟩
  have HF := Lib.hid (rok_mk K1.out K2.out HP.out (by rw [HI.out.1]; omega) (by rw [HK.out.1]; omega) hg2 hq)
  have HQ := Lib.hid hq
  have HO := Lib.hid ho
  clear hg hg2 ho hb hq
  clear ehy00 ehy01 ehy02
  go_wp2_with fail
  refine (impl_one A1 r.length c1 r q _ HQ.out rfl hl (Reads.of_own HO.out)).mono ?_
  rintro e w4 ⟨rfl, rfl⟩
  go_wp2_with fail
  go_ret
  exact ⟨HF.out, BW_2.out⟩
theorem impl_ratOk (g : Bool) (A : Option Addr) (n c : Nat) (xs : List Int) (B : Option Addr) (m d : Nat) (ds : List Int) (w : World) (h : InI w A n xs) (_r : Room A n c) (k : InI w B m ds) (_s : Room B m d) :
    Calls Try.prog 53 #[.agg #[.bool g, .slice A n c, .slice B m d]] w fun e w' => ∃ b, e = .returned (.bool b) ∧ RatOkIs g xs ds b ∧ Below w.heap.size w w' :=
  (impl_ratOk' g A n c xs B m d ds w h k).mono fun _ _ ⟨⟨b, he, hi⟩, hw⟩ => ⟨b, he, hi, hw⟩
end Go.Proofs.Ytjggdbakbhacjaa
