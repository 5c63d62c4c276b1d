/- Slices of ints: what one that came in reads as; the helpers of the laws on them (equal, marked, held, copied, counted). -/
import Derived.Test.YtjggdbakbhacjaaMem
import Derived.OpenShut
namespace Go.Proofs.Ytjggdbakbhacjaa
set_option maxRecDepth 100000
open Go.RowKit

theorem Try.infoI : (Try.prog.info? 3).map (fun i => (i.zero, i.size, i.bytes)) = some (some (.int .i64 0), 1, 8) := by kernel_rfl
def markI (k : Nat) : Value := .int .i64 k
/-- A slice of ints that came in. -/
def IsInts (w : World) (A : Option Addr) (len : Nat) (xs : List Int) : Prop := xs.length = len ∧ len ≤ maxLen ∧ Reads w A (xs.map (.int .i64)) ∧ ∀ z ∈ xs, -9223372036854775808 ≤ z ∧ z ≤ 9223372036854775807
theorem isInts_of {P : Program} {H : Type} {enc : TypeId × Value → H} {w : World} {t e : TypeId} {A : Option Addr} {len cap : Nat} {d : DataW H} {ps : List MemPlace} {sp : Nat → Bool} {hd : Bool}
    (ht : P.underlying t = some (.slice e)) (he : P.underlying e = some (.int .i64)) (hc : P.cellsOf e = 1) (h : DataW.Trod enc P w 0 sp hd t (Value.slice A len cap) d ps) : ∃ xs, IsInts w A len xs := by
  obtain ⟨fuel, hf⟩ := h
  rcases Go.ChangeShapes.open_ints ht he hc hf with ⟨hcs, _⟩ | ⟨x, l, c, ss, hcs, _, hl, hm, hz, _, hcell, hws⟩
  · simp [Value.cells] at hcs
    obtain ⟨rfl, rfl, rfl⟩ := hcs
    exact ⟨[], rfl, Nat.zero_le _, .inl rfl, by simp⟩
  · simp [Value.cells] at hcs
    obtain ⟨rfl, rfl, rfl⟩ := hcs
    have hle : len ≤ ss.length := by rw [hz]; split <;> omega
    refine ⟨ss.take len, by simp; omega, by omega, ?_, fun z hz => bounds_i64 (hws z (List.mem_of_mem_take hz))⟩
    by_cases h0 : len = 0
    · subst h0; exact .inl (by simp)
    · obtain ⟨b, o, spot⟩ := x
      have h1 := hcell 0 (by omega)
      have hspot : spot = none := by simpa [Addr.add] using World.cell?_spot h1
      subst hspot
      refine .inr ⟨b, o, rfl, ?_, fun j hj => ?_⟩
      · have := World.block_lt_of_cell? _ _ h1
        simpa [Addr.add] using this
      · simp at hj
        have h2 := hcell j (by omega)
        have e1 : ((⟨b, o, none⟩ : Addr).add j) = ⟨b, o + j, none⟩ := by
          by_cases hj0 : j = 0
          · subst hj0; simp [Addr.add]
          · simp [Addr.add, hj0]
        rw [e1] at h2
        rw [h2]
        simp [List.getD, List.getElem?_eq_getElem (show j < ss.length by omega)]
theorem ints_are (xs : List Int) : ∀ x ∈ xs.map (Value.int .i64), ∃ z, x = Value.int .i64 z := by simp

set_option maxHeartbeats 400000 in
theorem eqIntS_same (A1 A2 : Option Addr) (n c1 c2 : Nat) (xs : List Int) (w : World) (hn : xs.length = n) (hm : n ≤ maxLen) (h1 : Reads w A1 (xs.map (.int .i64))) (h2 : Reads w A2 (xs.map (.int .i64))) :
    Calls Try.prog 55 #[.slice A1 n c1, .slice A2 n c2] w fun e w' => e = .returned (.bool true) ∧ Below w.heap.size w w' := by
  subst hn
  unfold maxLen at hm
  go_enter Try.func55, Try.ntmps55
  go_wp2
  go_loopw [5] (fun i wr => ∃ k n : Nat, wr = w.drewN n ∧ k ≤ xs.length ∧ i = .int .i64 k) (fun i _ => xs.length - (intOf i).toNat)
  case atStart => exact ⟨0, 0, rfl, Nat.zero_le _, rfl⟩
  case round =>
    obtain ⟨k, n, rfl, hk, rfl⟩ := hrel
    by_cases hlt : k < xs.length
    · obtain ⟨b1, o1, rfl, hb1, hc1⟩ := h1.at_ (by simp; omega)
      obtain ⟨b2, o2, rfl, hb2, hc2⟩ := h2.at_ (by simp; omega)
      have g1 : w.cell? ⟨b1, o1 + k, none⟩ = some (.int .i64 xs[k]) := (hc1 k (by simpa using hlt)).trans (by simp)
      have g2 : w.cell? ⟨b2, o2 + k, none⟩ = some (.int .i64 xs[k]) := (hc2 k (by simpa using hlt)).trans (by simp)
      have hk0 : (0 : Int) ≤ (k : Int) := by omega
      have hk1 : (k : Int) < (xs.length : Int) := by omega
      have H1 := Lib.hid h1
      have H2 := Lib.hid h2
      clear hc1 hc2 h1 h2
      go_wp2
      go_quiet (fail)
      go_wp2
      go_roundw
      case rel => exact ⟨k + 1, _, rfl, by omega, by go_num⟩
      case measure => simp [intOf]; omega
    · go_wp2
      go_ret
      exact ⟨rfl, below_drewN (Below.refl _ _) _⟩

set_option maxHeartbeats 400000 in
theorem markIntS_own (base : Nat) (A : Option Addr) (n c K : Nat) (xs : List Value) (w : World) (hK : K + n < maxLen) (hown : w.ownsRow base 3 1 (.slice A n c) n xs) (hxs : ∀ x ∈ xs, ∃ z, x = Value.int .i64 z) :
    Calls Try.prog 57 #[.slice A n c, .int .i64 K] w fun e w' => e = .returned (.int .i64 ((K + n : Nat) : Int)) ∧ w'.ownsRow base 3 1 (.slice A n c) n (marks markI K n) ∧ w.grownBy w' (Value.slice A n c).ownBlock := by
  have hlen : xs.length = n := by simpa using hown.1
  unfold maxLen at hK
  have Hlen := Lib.hid hlen
  have Hxs := Lib.hid hxs
  clear hlen hxs
  go_enter Try.func57, Try.ntmps57
  go_wp2_with fail
  go_loopw [1, 5] (fun x y wr => ∃ i : Nat, i ≤ n ∧ x = .int .i64 ((K + i : Nat) : Int) ∧ y = .int .i64 i ∧ Hid (wr.ownsRow base 3 1 (.slice A n c) n (marks markI K i ++ xs.drop i)) ∧ Hid (w.grownBy wr (Value.slice A n c).ownBlock)) (fun _ y _ => n - (intOf y).toNat)
  case atStart => exact ⟨0, Nat.zero_le _, rfl, rfl, by simpa [marks] using Lib.hid hown, World.grownBy.refl _ _⟩
  case round =>
    obtain ⟨i, hi, rfl, rfl, ho, hg⟩ := hrel
    by_cases hlt : i < n
    · obtain ⟨g, rfl, hbase, hgs⟩ := own_at ho.out (by omega)
      have hi0 : (0 : Int) ≤ (i : Int) := by omega
      have hi1 : (i : Int) < (n : Int) := by omega
      have hfr := ho.out.frozenAt i
      have hcl := ho.out.cellAt i (by omega)
      have hix : i < xs.length := by rw [Hlen.out]; exact hlt
      rw [List.getElem?_append_right (by rw [marks_length]; exact Nat.le_refl _), marks_length, Nat.sub_self, List.drop_eq_getElem_cons hix] at hcl
      obtain ⟨z, hz⟩ := Hxs.out _ (List.getElem_mem hix)
      rw [hz] at hcl
      have hcell : wr.cell? ⟨g, i, none⟩ = some (.int .i64 z) := hcl
      have hst := ho.out.stored i (markI (K + i))
      rw [marked_set markI K i xs hix] at hst
      have hg2 := Lib.hid (grownBy_trans hg.out hst.2)
      have ho2 := Lib.hid hst.1
      clear hst hcl hz
      go_wp2_with fail
      go_roundw
      case rel => exact ⟨i + 1, by omega, by go_num, by go_num, ho2, hg2⟩
      case measure => simp [intOf]; omega
    · obtain rfl : i = n := by omega
      go_wp2_with fail
      go_ret
      exact ⟨rfl, by have := ho.out; rwa [List.drop_eq_nil_of_le (by rw [Hlen.out]; omega), List.append_nil] at this, hg.out⟩

set_option maxHeartbeats 400000 in
theorem heldIntS_same (A : Option Addr) (n c K : Nat) (w : World) (hK : K + n < maxLen) (hr : Reads w A (marks markI K n)) :
    Calls Try.prog 59 #[.slice A n c, .int .i64 K] w fun e w' => e = .returned (.int .i64 ((K + n : Nat) : Int)) ∧ Below w.heap.size w w' := by
  unfold maxLen at hK
  have Hr := Lib.hid hr
  clear hr
  go_enter Try.func59, Try.ntmps59
  go_wp2_with fail
  go_loop [1, 5] (fun x y => ∃ i : Nat, i ≤ n ∧ x = .int .i64 ((K + i : Nat) : Int) ∧ y = .int .i64 i) (fun _ y => n - (intOf y).toNat)
  case atStart => exact ⟨0, Nat.zero_le _, rfl, rfl⟩
  case round =>
    obtain ⟨i, hi, rfl, rfl⟩ := hrel
    by_cases hlt : i < n
    · obtain ⟨b, o, rfl, hbs, hc⟩ := Hr.out.at_ (by rw [marks_length]; omega)
      have hcell : w.cell? ⟨b, o + i, none⟩ = some (.int .i64 ((K + i : Nat) : Int)) := by
        have := hc i (by rw [marks_length]; exact hlt)
        rwa [marks_get] at this
      have hi0 : (0 : Int) ≤ (i : Int) := by omega
      have hi1 : (i : Int) < (n : Int) := by omega
      clear hc
      go_wp2_with fail
      go_round
      case rel => exact ⟨i + 1, by omega, by go_num, by go_num⟩
      case measure => simp [intOf]; omega
    · obtain rfl : i = n := by omega
      go_wp2_with fail
      go_ret
      exact ⟨rfl, Below.refl _ _⟩

set_option maxHeartbeats 400000 in
theorem toIntS_any (A : Option Addr) (n c : Nat) (xs : List Int) (w : World) (hn : xs.length = n) (hm : n ≤ 1048576) (hr : Reads w A (xs.map (.int .i64))) :
    Calls Try.prog 76 #[.slice A n c] w fun e w' => ∃ v, e = .returned v ∧ w'.ownsRow w.heap.size 3 1 v n (xs.map (.int .i64)) ∧ Below w.heap.size w w' := by
  obtain ⟨i0, hi, hz0, hz1, hz2⟩ := info_parts Try.infoI
  have Hn := Lib.hid hn
  have Hr := Lib.hid hr
  clear hn hr
  go_enter Try.func76, Try.ntmps76
  go_wp2_with (refine wpList_make_full _ rfl _ _ 22 rfl w.heap.size 3 i0 (.int .i64 0) 1 Try.underlying22 hi hz0 hz1 _ _ _ _ n rfl rfl rfl rfl ?c1 ?c2 ?c3 ?_)
  case c1 => rw [hz2]; omega
  case c2 => unfold maxLen; omega
  case c3 => exact Nat.le_refl _
  intro w1 ho hg
  obtain ⟨ys, ho⟩ : ∃ ys, w1.ownsRow w.heap.size 3 1 (.slice (some ⟨w.heap.size, 0, none⟩) n n) n ys := ⟨_, ho⟩
  have hlen := ho.1
  have Hlen := Lib.hid hlen
  have B1 := Lib.hid ((Below.refl w.heap.size w).grown hg (Nat.le_refl _) (fun k hk => by cases hk))
  have O1 := Lib.hid ho
  clear ho hg hlen
  go_wp2_with fail
  go_loopw [4] (fun y wr => ∃ i : Nat, i ≤ n ∧ y = .int .i64 i ∧ Hid (wr.ownsRow w.heap.size 3 1 (.slice (some ⟨w.heap.size, 0, none⟩) n n) n ((xs.map (Value.int .i64)).take i ++ ys.drop i)) ∧ Hid (Below w.heap.size w wr)) (fun y _ => n - (intOf y).toNat)
  case atStart => exact ⟨0, Nat.zero_le _, rfl, by simpa using O1, B1⟩
  case round =>
    obtain ⟨i, hle, rfl, ho, hb⟩ := hrel
    by_cases hlt : i < n
    · obtain ⟨b, o, rfl, hbs, hc⟩ := (Hr.out.below hb.out).at_ (by simp; rw [Hn.out]; omega)
      have hix : i < (xs.map (Value.int .i64)).length := by rw [List.length_map, Hn.out]; exact hlt
      have hiy : i < ys.length := by rw [Hlen.out]; omega
      obtain ⟨u, hu⟩ : ∃ u, Value.int .i64 u = (xs.map (Value.int .i64))[i] := ⟨xs[i]'(by simpa using hix), by simp⟩
      have hcell : wr.cell? ⟨b, o + i, none⟩ = some (.int .i64 u) := hu ▸ hc i hix
      have hi0 : (0 : Int) ≤ (i : Int) := by omega
      have hi1 : (i : Int) < (n : Int) := by omega
      have hfr := ho.out.frozenAt i
      have hcl := ho.out.cellAt i (by omega)
      rw [List.getElem?_eq_getElem (by simp [Hlen.out, Hn.out]; omega)] at hcl
      obtain ⟨old, hold⟩ : ∃ old, wr.cell? ⟨w.heap.size, i, none⟩ = some old := ⟨_, hcl⟩
      have hst := ho.out.stored i (.int .i64 u)
      rw [hu, copied_set _ ys i hix hiy, ← hu] at hst
      have ho2 := Lib.hid hst.1
      have hb2 := Lib.hid (below_marked hb.out ho.out hst.2 (Nat.le_refl _) hb.out.size)
      clear hst hcl hc hu
      go_wp2_with fail
      go_roundw
      case rel => exact ⟨i + 1, by omega, by go_num, ho2, hb2⟩
      case measure => simp [intOf]; omega
    · obtain rfl : i = n := by omega
      have ho2 := ho.out
      rw [List.take_of_length_le (by rw [List.length_map, Hn.out]; omega), List.drop_eq_nil_of_le (by rw [Hlen.out]; omega), List.append_nil] at ho2
      have O2 := Lib.hid ho2
      clear ho2
      go_wp2_with fail
      go_ret
      exact ⟨_, rfl, O2.out, hb.out⟩

theorem marks_ints (K n : Nat) : ∀ x ∈ marks markI K n, ∃ z, x = Value.int .i64 z := by
  intro x hx
  unfold marks at hx
  obtain ⟨j, _, rfl⟩ := List.mem_map.1 hx
  exact ⟨_, rfl⟩
/-- A slice of ints that is handed to a function. -/
def InI (w : World) (A : Option Addr) (n : Nat) (xs : List Int) : Prop := xs.length = n ∧ n ≤ 1048576 ∧ Reads w A (xs.map (.int .i64)) ∧ ∀ z ∈ xs, -9223372036854775808 ≤ z ∧ z ≤ 9223372036854775807
/-- A slice of ints that a call hands back: in memory of its own. -/
def ResI (w w' : World) (v : Value) (rs : List Int) : Prop := rs.length ≤ 4194304 ∧ w'.ownsRow w.heap.size 3 1 v rs.length (rs.map (.int .i64))
end Go.Proofs.Ytjggdbakbhacjaa
