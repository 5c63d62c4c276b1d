/- JointNamed, by the program and by the model. -/
import Derived.Test.YtipmeijfmiiedaaStN2
import Derived.Maps.OwnOps
namespace Go.Proofs.Ytipmeijfmiiedaa
set_option maxRecDepth 100000
open Go.RowKit

def JointNamedIs (js : List JD) (s : ByteArray) (r : Int) : Prop := (∃ k, FirstFrom js 0 s k ∧ r = k) ∨ ((∀ j ∈ js, j.name ≠ s) ∧ r = -1)
theorem jointNamed0_unique {js : List JD} {s : ByteArray} {r r' : Int} (h : JointNamedIs js s r) (h' : JointNamedIs js s r') : r = r' := by
  rcases h with ⟨k, h1, rfl⟩ | ⟨h1, rfl⟩ <;> rcases h' with ⟨k', h2, rfl⟩ | ⟨h2, rfl⟩
  · rw [firstFrom_unique h1 h2]
  · obtain ⟨_, ⟨j, h3, h4⟩, _⟩ := h1
    exact absurd h4 (h2 j (List.mem_of_getElem? h3))
  · obtain ⟨_, ⟨j, h3, h4⟩, _⟩ := h2
    exact absurd h4 (h1 j (List.mem_of_getElem? h3))
  · rfl
def NamedEnd (js : List JD) (s : ByteArray) (w w' : World) (e : Ending) : Prop := ∃ r, e = .returned (.int .i64 r) ∧ JointNamedIs js s r ∧ Below w.heap.size w w'
set_option maxHeartbeats 1600000 in
theorem spec_jointNamed0 (A : Option Addr) (n c : Nat) (js : List JD) (B : Option Addr) (m d : Nat) (s : ByteArray) (w : World) (h : InJ w A n js) :
    Calls Try.prog 79 #[.agg #[.slice A n c, .slice B m d], .string s] w fun e w' => NamedEnd js s w w' e := by
  have hm := h.2.1
  have HLN : Hid (js.length = n) := h.1
  obtain ⟨W, hW⟩ : ∃ W, W = w.alloc (.cells #[.slice A n c, .slice B m d] 26) := ⟨_, rfl⟩
  have BW_0 : Hid (Below w.heap.size w W) := by rw [hW]; exact (Below.refl _ _).alloc (Nat.le_refl _) _
  have HV := Lib.hid h
  clear h
  go_enter Try.func79, Try.ntmps79
  go_wp2_with fail
  rw [← hW]
  clear hW
  go_loopw [10] (fun y wr => ∃ k : Nat, k ≤ n ∧ y = .int .i64 k ∧ Hid (∀ k' j, k' < k → js[k']? = some j → j.name ≠ s) ∧ Hid (Below w.heap.size w wr)) (fun y _ => n - (intOf y).toNat)
  case atStart => exact ⟨0, Nat.zero_le _, rfl, fun k' j h => absurd h (Nat.not_lt_zero _), BW_0⟩
  case round =>
    obtain ⟨k, hk, rfl, HN, hb⟩ := hrel
    by_cases hlt : k < n
    · obtain ⟨b1, o1, rfl, hb1, ⟨t, x, y, f⟩, hx, ⟨e0, e1, e2, e3⟩, _⟩ := (HV.out.below hb.out).at_ k hlt
      simp only at e0 e1 e2 e3
      have hk0 : (0 : Int) ≤ (k : Int) := by omega
      have hk1 : (k : Int) < (n : Int) := by omega
      have HX := Lib.hid hx
      have HB : Hid (Below w.heap.size w (wr.alloc (.cells #[.string t, .int .i64 x, .int .i64 y, .bool f] 79))) := hb.out.alloc hb.out.size _
      clear hx
      by_cases he : t = s
      · subst he
        have HF : Hid (NamedEnd js t w (wr.alloc (.cells #[.string t, .int .i64 x, .int .i64 y, .bool f] 79)) (.returned (.int .i64 (k : Int)))) := ⟨k, rfl, .inl ⟨k, ⟨Nat.zero_le _, ⟨_, HX.out, rfl⟩, fun k' _ h2 j h3 => HN.out k' j h2 h3⟩, rfl⟩, HB.out⟩
        go_wp2_with fail
        go_ret
        exact HF.out
      · have HN2 : Hid (∀ k' j, k' < k + 1 → js[k']? = some j → j.name ≠ s) := fun k' j h1 h2 => by
          by_cases hkk : k' = k
          · subst hkk
            rw [HX.out] at h2
            rw [← Option.some.inj h2]
            exact he
          · exact HN.out k' j (by omega) h2
        have he2 := toList_ne he
        have he3 : (t.toList == s.toList) = false := by simpa using he2
        clear HN
        go_wp2_with fail
        go_roundw
        case rel => exact ⟨k + 1, by omega, by go_num, HN2, HB⟩
        case measure => simp [intOf]; omega
    · have HF : Hid (NamedEnd js s w wr (.returned (.int .i64 (-1)))) := ⟨-1, rfl, .inr ⟨(fun j hj => by
        obtain ⟨q, hq⟩ := List.getElem?_of_mem hj
        have h1 := (List.getElem?_eq_some_iff.1 hq).1
        have h2 := HLN.out
        exact HN.out q j (by omega) hq), rfl⟩, hb.out⟩
      clear HN
      go_wp2_with fail
      go_ret
      exact HF.out
def JNamedIs (js : List JD) (_ : List MD) (s : ByteArray) (r : Int) : Prop := JointNamedIs js s r
theorem jointNamed_unique {js : List JD} {ms : List MD} {s : ByteArray} {r r' : Int} (h : JNamedIs js ms s r) (h' : JNamedIs js ms s r') : r = r' := jointNamed0_unique h h'
theorem spec_jointNamed (A : Option Addr) (n c : Nat) (js : List JD) (B : Option Addr) (m d : Nat) (ms : List MD) (s : ByteArray) (w : World) (h : InT w A n js B m ms) (_hs : s.size ≤ 1048576) :
    Calls Try.prog 79 #[.agg #[.slice A n c, .slice B m d], .string s] w fun e w' => ∃ r, e = .returned (.int .i64 r) ∧ JNamedIs js ms s r ∧ Below w.heap.size w w' := spec_jointNamed0 A n c js B m d s w h.1
end Go.Proofs.Ytipmeijfmiiedaa
