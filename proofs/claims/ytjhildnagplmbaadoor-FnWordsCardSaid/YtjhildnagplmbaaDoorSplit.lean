/- Contracts of the functions that split a string: the model's and the program's. -/
import Derived.Test.YtjhildnagplmbaaDoorMem
import Derived.Maps.AppendAt
import Derived.Lib.Bytealg
namespace Go.Proofs.YtjhildnagplmbaaDoor
open Go.RowKit

def byteAt (s : ByteArray) (k : Nat) : UInt8 := if h : k < s.size then s[k] else 0
theorem byteAt_lt {s : ByteArray} {k : Nat} (h : k < s.size) : byteAt s k = s[k] := by unfold byteAt; rw [dif_pos h]
/-- What has been cut off after k bytes, and where the next piece begins. -/
def splitS (s d : ByteArray) : Nat → List ByteArray × Nat
  | 0 => ([], 0)
  | k + 1 => if d.data.toList.contains (byteAt s k) then ((splitS s d k).1 ++ [s.extract (splitS s d k).2 k], k + 1) else splitS s d k
def pieces (s d : ByteArray) (k : Nat) : List ByteArray := (splitS s d k).1
def begins (s d : ByteArray) (k : Nat) : Nat := (splitS s d k).2
def splitAll (s d : ByteArray) : List ByteArray := pieces s d s.size ++ [s.extract (begins s d s.size) s.size]
theorem split_hit {s d : ByteArray} {k : Nat} (h : d.data.toList.contains (byteAt s k) = true) : pieces s d (k + 1) = pieces s d k ++ [s.extract (begins s d k) k] ∧ begins s d (k + 1) = k + 1 := by
  unfold pieces begins; rw [splitS, if_pos h]; exact ⟨rfl, rfl⟩
theorem split_miss {s d : ByteArray} {k : Nat} (h : d.data.toList.contains (byteAt s k) = false) : pieces s d (k + 1) = pieces s d k ∧ begins s d (k + 1) = begins s d k := by
  unfold pieces begins; rw [splitS, if_neg (by rw [h]; simp)]; exact ⟨rfl, rfl⟩
theorem begins_le (s d : ByteArray) : ∀ k, begins s d k ≤ k
  | 0 => Nat.le_refl _
  | k + 1 => by
    have := begins_le s d k
    cases h : d.data.toList.contains (byteAt s k)
    · rw [(split_miss h).2]; omega
    · rw [(split_hit h).2]; omega
theorem pieces_le (s d : ByteArray) : ∀ k, (pieces s d k).length ≤ k
  | 0 => Nat.le_refl _
  | k + 1 => by
    have := pieces_le s d k
    cases h : d.data.toList.contains (byteAt s k)
    · rw [(split_miss h).1]; omega
    · rw [(split_hit h).1]; simp; omega
theorem splitAll_length (s d : ByteArray) : (splitAll s d).length = (pieces s d s.size).length + 1 := by simp [splitAll]
theorem splitAll_le (s d : ByteArray) : (splitAll s d).length ≤ s.size + 1 := by have := pieces_le s d s.size; rw [splitAll_length]; omega

/-- None of the first k bytes of d is c. -/
def NoneTo (d : ByteArray) (c : UInt8) (k : Nat) : Prop := ∀ j (h : j < d.size), j < k → d[j] ≠ c
theorem NoneTo.zero (d : ByteArray) (c : UInt8) : NoneTo d c 0 := fun _ _ h => absurd h (by omega)
theorem NoneTo.succ {d : ByteArray} {c : UInt8} {k : Nat} (h : NoneTo d c k) (hk : k < d.size) (hc : d[k] ≠ c) : NoneTo d c (k + 1) := by
  intro j hj hlt
  by_cases e : j = k
  · subst e; exact hc
  · exact h j hj (by omega)
theorem NoneTo.no {d : ByteArray} {c : UInt8} {k : Nat} (h : NoneTo d c k) (hk : d.size ≤ k) : d.data.toList.contains c = false := by
  rw [← Bool.not_eq_true, List.contains_iff_mem]
  intro hm
  obtain ⟨j, hj, he⟩ := List.mem_iff_getElem.1 hm
  exact h j (by simpa using hj) (by have : j < d.size := by simpa using hj
                                    omega) he
theorem hit_yes {d : ByteArray} {c : UInt8} {k : Nat} (hk : k < d.size) (hc : d[k] = c) : d.data.toList.contains c = true := by
  rw [List.contains_iff_mem, ← hc]; exact mem_at d k hk

/-- What a split's loop knows after i bytes. -/
def SplitTo (s d : ByteArray) (w wr : World) (out : Value) (i : Nat) : Prop :=
  wr.ownsRow w.heap.size 9 1 out (pieces s d i).length ((pieces s d i).map .string) ∧ Below w.heap.size w wr
theorem SplitTo.draws {s d : ByteArray} {w wr : World} {out : Value} {i n : Nat} (h : SplitTo s d w wr out i) : SplitTo s d w (wr.drewN n) out i :=
  ⟨h.1, below_drewN h.2 n⟩
theorem SplitTo.miss {s d : ByteArray} {w wr : World} {out : Value} {i : Nat} (h : SplitTo s d w wr out i) (hm : d.data.toList.contains (byteAt s i) = false) : SplitTo s d w wr out (i + 1) := by
  unfold SplitTo; rw [(split_miss hm).1]; exact h
theorem SplitTo.hit {s d : ByteArray} {w wr w1 : World} {out v' : Value} {i : Nat} {o : Obj} (h : SplitTo s d w wr out i) (hm : d.data.toList.contains (byteAt s i) = true)
    (hown : w1.ownsRow w.heap.size 9 1 v' ((pieces s d i).length + 1) ((pieces s d i).map .string ++ [.string (s.extract (begins s d i) i)])) (hg : (wr.alloc o).grownBy w1 out.ownBlock) : SplitTo s d w w1 v' (i + 1) := by
  unfold SplitTo
  rw [(split_hit hm).1]
  exact ⟨by simpa using hown, (h.2.alloc h.2.size o).grown hg (by have := h.2.size; simp; omega) (fun k hk => (h.1.lt k hk).1)⟩
/-- What a split ends with: the last piece appended. -/
theorem SplitTo.last {s d : ByteArray} {w wr w1 : World} {out v' : Value} {o : Obj} (h : SplitTo s d w wr out s.size)
    (hown : w1.ownsRow w.heap.size 9 1 v' ((pieces s d s.size).length + 1) ((pieces s d s.size).map .string ++ [.string (s.extract (begins s d s.size) s.size)])) (hg : (wr.alloc o).grownBy w1 out.ownBlock) :
    w1.ownsRow w.heap.size 9 1 v' (splitAll s d).length ((splitAll s d).map .string) ∧ Below w.heap.size w w1 := by
  rw [splitAll_length]
  unfold splitAll
  exact ⟨by simpa using hown, (h.2.alloc h.2.size o).grown hg (by have := h.2.size; simp; omega) (fun k hk => (h.1.lt k hk).1)⟩


theorem indexByte_contains (c : UInt8) : ∀ (l : List UInt8), decide ((0 : Int) ≤ Lib.indexByte l c) = l.contains c
  | [] => by simp [Lib.indexByte]
  | b :: l => by
    have h := indexByte_contains c l
    have hg := Lib.indexByte_ge l c
    unfold Lib.indexByte
    rw [List.contains_cons, ← h]
    by_cases e : b = c
    · simp [e]
    · rw [if_neg (by simpa using e)]
      have e2 : (c == b) = false := by rw [beq_eq_false_iff_ne]; exact fun h => e h.symm
      rw [e2, Bool.false_or]
      split
      · next h1 => simp at h1; rw [h1]
      · next h1 => simp at h1; rw [decide_eq_decide]; omega

set_option maxHeartbeats 400000 in
theorem lib_indexByte1 (s : ByteArray) (c : Int) (w : World) :
    Calls Tryd.prog 32 #[.string s, .int .u8 c] w fun e w' => e = .returned (.int .i64 (Lib.indexByte s.data.toList c.toNat.toUInt8)) ∧ w = w' := by
  go_enter Tryd.func32, Tryd.ntmps32
  go_wp2
  rw [run_callFunc_extern Tryd.func42 (by kernel_rfl) (by kernel_rfl) (by kernel_rfl) (e := Extern.BytealgIndexByte.indexByte) (by kernel_rfl), Lib.run_indexByteString]
  simp only [Result.andThen]
  rw [Oper.upon_value]
  go_wp2
  go_ret
  exact ⟨rfl, rfl⟩

/-- strings.IndexByte finds c in s or not. -/
theorem lib_indexByte (s : ByteArray) (c : UInt8) (w : World) :
    Calls Tryd.prog 24 #[.string s, .int .u8 (c.toNat : Int)] w fun e w' => (∃ n : Int, e = .returned (.int .i64 n) ∧ decide (0 ≤ n) = s.data.toList.contains c ∧ -1 ≤ n) ∧ w = w' := by
  go_enter Tryd.func24, Tryd.ntmps24
  go_wp2_with fail
  refine (lib_indexByte1 s _ _).mono ?_
  rintro e w1 ⟨rfl, rfl⟩
  go_wp2_with fail
  go_ret
  refine ⟨⟨_, rfl, ?_, Lib.indexByte_ge _ _⟩, rfl⟩
  rw [← indexByte_contains]

set_option maxHeartbeats 800000 in
theorem impl_splitAny (s d : ByteArray) (w : World) (hs : s.size ≤ 1048576) (_hd : d.size ≤ 1048576) :
    Calls Tryd.prog 11 #[.string s, .string d] w fun e w' => ∃ v, e = .returned v ∧ w'.ownsRow w.heap.size 9 1 v (splitAll s d).length ((splitAll s d).map .string) ∧ Below w.heap.size w w' := by
  obtain ⟨i0, hi, hz0, hz1, hz2⟩ := info_parts Tryd.infoS
  go_enter Tryd.func11, Tryd.ntmps11
  go_wp2_with fail
  go_loopw [5, 6, 7, 10] (fun x y _ z wr => ∃ i : Nat, i ≤ s.size ∧ z = .int .i64 i ∧ y = .int .i64 (begins s d i) ∧ Hid (SplitTo s d w wr x i)) (fun _ _ _ z _ => s.size - (intOf z).toNat)
  case atStart => exact ⟨0, Nat.zero_le _, rfl, rfl, World.ownsRow_nil _ _ _ _, Below.refl _ _⟩
  case round =>
    obtain ⟨i, hle, rfl, rfl, ho⟩ := hrel
    have hb := begins_le s d i
    have hp := pieces_le s d i
    by_cases hlt : i < s.size
    · have hi0 : (0 : Int) ≤ (i : Int) := by omega
      have hi1 : (i : Int) < (s.size : Int) := by omega
      go_wp2_with fail
      refine (lib_indexByte d s[i] _).mono ?_
      rintro e w1 ⟨⟨n, rfl, hn, hn1⟩, rfl⟩
      rw [← byteAt_lt hlt] at hn
      cases hm : d.data.toList.contains (byteAt s i)
      · have hst := Lib.hid (ho.out.miss hm)
        have Hbe := Lib.hid (split_miss hm).2
        rw [hm] at hn
        have hneg : n < 0 := by simpa using hn
        clear hm hn
        go_wp2_with fail
        go_roundw
        case rel => exact ⟨i + 1, by omega, by go_num, by rw [Hbe.out], hst⟩
        case measure => simp [intOf]; omega
      · have Hm := Lib.hid hm
        rw [hm] at hn
        have hpos : 0 ≤ n := by simpa using hn
        clear hm hn
        go_wp2_with (at_builtin; refine wpList_append_own _ rfl _ _ 29 rfl w.heap.size 9 i0 (.string ⟨#[]⟩) 1 16 Tryd.underlying29 hi hz0 hz1 hz2 rfl (by decide) _ _ _ rfl (ho.out.1.alloc _) ⟨_, 0, none⟩ 1 1 [.string (s.extract (begins s d i) i)] rfl rfl ?c1 ?c2 ?c3 ?c4 ?c5 ?_)
        case c1 => exact cell_one_new _ _ _
        case c2 => simp [Value.oneCell']
        case c3 => unfold maxLen; omega
        case c4 => omega
        case c5 => have := ho.out.2.size; simp; omega
        intro v' w2 hown hg _
        have hst := Lib.hid (ho.out.hit Hm.out hown hg)
        have Hbe := Lib.hid (split_hit Hm.out).2
        clear hown hg
        go_wp2_with fail
        go_roundw
        case rel => exact ⟨i + 1, by omega, by go_num, by rw [Hbe.out]; go_num, hst⟩
        case measure => simp [intOf]; omega
    · obtain rfl : i = s.size := by omega
      go_wp2_with (at_builtin; refine wpList_append_own _ rfl _ _ 29 rfl w.heap.size 9 i0 (.string ⟨#[]⟩) 1 16 Tryd.underlying29 hi hz0 hz1 hz2 rfl (by decide) _ _ _ rfl (ho.out.1.alloc _) ⟨_, 0, none⟩ 1 1 [.string (s.extract (begins s d s.size) s.size)] rfl rfl ?c1 ?c2 ?c3 ?c4 ?c5 ?_)
      case c1 => exact cell_one_new _ _ _
      case c2 => simp [Value.oneCell']
      case c3 => unfold maxLen; omega
      case c4 => omega
      case c5 => have := ho.out.2.size; simp; omega
      intro v' w1 hown hg _
      have hfin := Lib.hid (ho.out.last hown hg)
      clear hown hg
      go_wp2
      go_ret
      exact ⟨_, rfl, hfin.out⟩
end Go.Proofs.YtjhildnagplmbaaDoor
