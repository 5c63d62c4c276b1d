/- Structures: counted and copied by the helpers of the laws. -/
import Derived.Test.YtipmeijfmiiedaaStM
namespace Go.Proofs.Ytipmeijfmiiedaa
set_option maxRecDepth 100000
open Go.RowKit

set_option maxHeartbeats 800000 in
theorem szJoint_any (s : ByteArray) (x y : Int) (f : Bool) (left : Int) (w : World) (hs : s.size ≤ maxLen) (h0 : 0 ≤ left) (hl : left ≤ 1048576) :
    Calls Try.prog 77 #[.agg #[.string s, .int .i64 x, .int .i64 y, .bool f], .int .i64 left] w fun e w' => SzEnd left s.size w w' e := by
  unfold maxLen at hs
  by_cases hneg : left - s.size < 0
  · go_enter Try.func77, Try.ntmps77
    go_wp2_with fail
    go_ret
    exact ⟨-1, rfl, .inl rfl, (Below.refl _ _).alloc (Nat.le_refl _) _⟩
  · have hle : (s.size : Int) ≤ left := by omega
    go_enter Try.func77, Try.ntmps77
    go_wp2_with fail
    go_ret
    exact ⟨left - s.size, by first | rfl | go_num, .inr ⟨by omega, rfl⟩, (Below.refl _ _).alloc (Nat.le_refl _) _⟩
def IsJ (w : World) (A : Option Addr) (n : Nat) (js : List JD) : Prop := js.length = n ∧ n ≤ maxLen ∧ Reads w A (jcells js) ∧ ∀ j ∈ js, j.name.size ≤ maxLen ∧ (-9223372036854775808 ≤ j.x ∧ j.x ≤ 9223372036854775807) ∧ -9223372036854775808 ≤ j.y ∧ j.y ≤ 9223372036854775807
def IsM (w : World) (A : Option Addr) (n : Nat) (js : List MD) : Prop := js.length = n ∧ n ≤ maxLen ∧ Reads w A (mcells js) ∧ ∀ j ∈ js, MFit j
theorem IsJ.below {w w' : World} {A : Option Addr} {n : Nat} {js : List JD} (h : IsJ w A n js) (hb : Below w.heap.size w w') : IsJ w' A n js := ⟨h.1, h.2.1, h.2.2.1.below hb, h.2.2.2⟩
theorem IsJ.inJ {w : World} {A : Option Addr} {n : Nat} {js : List JD} (h : IsJ w A n js) (hn : n + jtot js ≤ 1048576) : InJ w A n js :=
  ⟨h.1, by omega, h.2.2.1, fun j hj => ⟨by have := jtot_at hj; omega, (h.2.2.2 j hj).2⟩⟩
theorem IsM.inM {w : World} {A : Option Addr} {n : Nat} {js : List MD} (h : IsM w A n js) (hn : n ≤ 1048576) : InM w A n js := ⟨h.1, hn, h.2.2.1, h.2.2.2⟩
theorem IsJ.at_ {w : World} {A : Option Addr} {n : Nat} {js : List JD} (h : IsJ w A n js) (i : Nat) (hi : i < n) : ∃ b o, A = some ⟨b, o, none⟩ ∧ b < w.heap.size ∧ ∃ j, js[i]? = some j ∧ AtJ w b (o + i * 4) j ∧ j.name.size ≤ maxLen := by
  obtain ⟨b, o, h1, h2, j, h3, h4⟩ := h.2.2.1.atJ (i := i) (by rw [h.1]; exact hi)
  exact ⟨b, o, h1, h2, j, h3, h4, (h.2.2.2 j (List.mem_of_getElem? h3)).1⟩
set_option maxHeartbeats 1600000 in
theorem szJointS_any (A : Option Addr) (n c : Nat) (js : List JD) (left : Int) (w : World) (h : IsJ w A n js) (h0 : 0 ≤ left) (hl : left ≤ 1048576) :
    Calls Try.prog 55 #[.slice A n c, .int .i64 left] w fun e w' => SzEnd left (n + jtot js) w w' e := by
  have hm := h.2.1
  have hlen := h.1
  unfold maxLen at hm
  have HV := Lib.hid h
  have HL := Lib.hid hlen
  clear h hlen
  by_cases hneg : left - n < 0
  · go_enter Try.func55, Try.ntmps55
    go_wp2_with fail
    go_ret
    exact ⟨-1, rfl, .inl rfl, Below.refl _ _⟩
  go_enter Try.func55, Try.ntmps55
  go_wp2_with fail
  go_loopw [1, 5] (fun x y wr => ∃ i : Nat, i ≤ n ∧ y = .int .i64 i ∧ (∃ z : Int, x = .int .i64 z ∧ 0 ≤ z ∧ z ≤ 1048576 ∧ Hid (z = left - n - jtot (js.take i))) ∧ Hid (Below w.heap.size w wr)) (fun _ y _ => n - (intOf y).toNat)
  case atStart => exact ⟨0, Nat.zero_le _, rfl, ⟨left - n, by first | rfl | go_num, by omega, by omega, by unfold Hid; simp [jtot]⟩, Below.refl _ _⟩
  case round =>
    obtain ⟨i, hi, rfl, ⟨z, rfl, hz0, hz1, hz⟩, hb⟩ := hrel
    by_cases hlt : i < n
    · obtain ⟨b, o, rfl, hbs, ⟨s, x, y, f⟩, hr, ⟨e0, e1, e2, e3⟩, hsz⟩ := (HV.out.below hb.out).at_ i hlt
      have hi0 : (0 : Int) ≤ (i : Int) := by omega
      have hi1 : (i : Int) < (n : Int) := by omega
      have HR := Lib.hid hr
      clear hr
      simp only at e0 e1 e2 e3 hsz
      go_wp2_with fail
      refine (szJoint_any s x y f z _ hsz hz0 hz1).mono ?_
      rintro e w1 ⟨r, rfl, hr, hb1⟩
      have HB := Lib.hid (hb.out.trans (hb1.mono hb.out.size))
      clear hb1 e0 e1 e2 e3
      rcases hr with rfl | ⟨hr0, hr1⟩
      · go_wp2_with fail
        go_ret
        exact ⟨-1, rfl, .inl rfl, HB.out⟩
      · have hr2 : r ≤ 1048576 := by omega
        have HZ : Hid (r = left - n - jtot (js.take (i + 1))) := by
          have h1 := hz.out
          have h3 := jtot_take_succ HR.out
          simp only at h3
          unfold Hid; omega
        clear hr1
        go_wp2_with fail
        go_roundw
        case rel => exact ⟨i + 1, by omega, by go_num, ⟨r, rfl, by omega, by omega, HZ⟩, HB⟩
        case measure => simp [intOf]; omega
    · obtain rfl : i = n := by omega
      have HZ : Hid (z = left - ((i + jtot js : Nat) : Int)) := by
        have h1 := hz.out
        rw [List.take_of_length_le (by rw [HL.out]; omega)] at h1
        unfold Hid; omega
      have HF : Hid (SzEnd left (i + jtot js) w wr (.returned (.int .i64 z))) := ⟨z, rfl, .inr ⟨hz0, HZ.out⟩, hb.out⟩
      go_wp2_with fail
      go_ret
      exact HF.out
theorem szMemberS_any (A : Option Addr) (n c : Nat) (left : Int) (w : World) (hm : n ≤ maxLen) (h0 : 0 ≤ left) (hl : left ≤ 1048576) :
    Calls Try.prog 56 #[.slice A n c, .int .i64 left] w fun e w' => SzEnd left n w w' e := by
  unfold maxLen at hm
  by_cases hneg : left - n < 0
  · go_enter Try.func56, Try.ntmps56
    go_wp2_with fail
    go_ret
    exact ⟨-1, rfl, .inl rfl, Below.refl _ _⟩
  · have hle : (n : Int) ≤ left := by omega
    go_enter Try.func56, Try.ntmps56
    go_wp2_with fail
    go_ret
    exact ⟨left - n, by first | rfl | go_num, .inr ⟨by omega, rfl⟩, Below.refl _ _⟩
set_option maxHeartbeats 1600000 in
theorem szStructure_any (A : Option Addr) (n c : Nat) (js : List JD) (B : Option Addr) (m d : Nat) (left : Int) (w : World) (h : IsJ w A n js) (hm : m ≤ maxLen) (h0 : 0 ≤ left) (h1 : left ≤ 1048576) :
    Calls Try.prog 19 #[.agg #[.slice A n c, .slice B m d], .int .i64 left] w fun e w' => SzEnd left (n + jtot js + m) w w' e := by
  have hb0 : Hid (Box (w.alloc (.cells #[.slice A n c, .slice B m d] 44)) w.heap.size 44 #[.slice A n c, .slice B m d]) := Box.new _ _ _
  obtain ⟨W0, hW0⟩ : ∃ W, W = w.alloc (.cells #[.slice A n c, .slice B m d] 44) := ⟨_, rfl⟩
  have BW0 : Hid (Below w.heap.size w W0) := by rw [hW0]; exact (Below.refl _ _).alloc (Nat.le_refl _) _
  rw [← hW0] at hb0
  have HV := Lib.hid (h.below BW0.out)
  clear h
  go_enter Try.func19, Try.ntmps19
  go_wp2_with fail
  rw [← hW0]
  clear hW0
  refine (szJointS_any A n c js left _ HV.out h0 h1).mono ?_
  rintro e w1 ⟨r, rfl, hr, hb⟩
  have X1 := Lib.hid (hb0.out.below hb hb0.out.lt)
  have B1 := Lib.hid (BW0.out.trans (hb.mono BW0.out.size))
  clear hb
  rcases hr with rfl | ⟨hr0, hr1⟩
  · go_wp2_with fail
    go_ret
    exact ⟨-1, rfl, .inl rfl, B1.out⟩
  have hr2 : r ≤ 1048576 := by omega
  have HR := Lib.hid hr1
  clear hr1
  have q1 := X1.out.cell 1
  simp at q1
  go_wp2_with fail
  clear q1
  refine (szMemberS_any B m d r _ hm hr0 hr2).mono ?_
  rintro e w2 ⟨t, rfl, ht, hb⟩
  have B2 := Lib.hid (B1.out.trans (hb.mono B1.out.size))
  clear hb
  rcases ht with rfl | ⟨ht0, ht1⟩
  · go_wp2_with fail
    go_ret
    exact ⟨-1, rfl, .inl rfl, B2.out⟩
  have HT := Lib.hid ht1
  clear ht1
  go_wp2_with fail
  go_ret
  exact ⟨t, rfl, .inr ⟨ht0, by have := HR.out; have := HT.out; omega⟩, B2.out⟩
end Go.Proofs.Ytipmeijfmiiedaa
