/- Contracts of slices.Grow (of nil) and slices.Concat on lists of ints. -/
import Derived.Test.YtipmeijfmiiedaaFarI
import Derived.Test.YtipmeijfmiiedaaAppZ
import Derived.Test.YtipmeijfmiiedaaFarS
namespace Go.Proofs.Ytipmeijfmiiedaa
set_option maxRecDepth 100000
open Go.RowKit

/-- An empty list of the call's own. -/
def RoomEnd (w w' : World) (e : Ending) : Prop := ∃ v, e = .returned v ∧ w'.ownsRow w.heap.size 3 1 v 0 [] ∧ Below w.heap.size w w'
set_option maxHeartbeats 1600000 in
theorem impl_grow (k : Nat) (w : World) (hk : k ≤ 1048576) :
    Calls Try.prog 73 #[.slice none 0 0, .int .i64 k] w fun e w' => RoomEnd w w' e := by
  obtain ⟨i0, hi, hz0, hz1, hz2⟩ := info_parts Try.infoI
  by_cases h0 : k = 0
  · subst h0
    have HF : Hid (RoomEnd w w (.returned (.slice none 0 0))) := ⟨_, rfl, World.ownsRow_nil _ _ _ _, Below.refl _ _⟩
    go_enter Try.func73, Try.ntmps73
    go_wp2_with fail
    go_ret
    exact HF.out
  · have hk0 : ¬ ((k : Int) < 0) := by omega
    have hk1 : (0 : Int) < (k : Int) := by omega
    have hw : IntKind.i64.wrap (k : Int) = k := by rw [IntKind.wrap_i64]; omega
    have hw0 : IntKind.i64.wrap 0 = 0 := by decide
    go_enter Try.func73, Try.ntmps73
    go_wp2_with (at_builtin; refine wpList_app_zeros rfl _ _ 27 3 rfl w.heap.size 3 i0 Try.underlying27 Try.underlying3 hi hz0 hz1 hz2 (.slice none 0 0) 0 [] rfl (World.ownsRow_nil _ _ _ _) k rfl (by omega) (Nat.le_refl _) ?_)
    intro v1 w1 hown hg hat
    rcases hown.2 with ⟨_, h1⟩ | ⟨g, cap, cur, rfl, hbg, hgc, hnc, hcm, hcs, _⟩
    · exact absurd h1 (by omega)
    have hB : Below w.heap.size w w1 := (Below.refl _ _).grown hg (Nat.le_refl _) (fun k hk => by cases hk)
    have HF : Hid (RoomEnd w w1 (.returned (.slice (some ⟨g, 0, none⟩) 0 cap))) := ⟨_, rfl, ⟨by simp, .inr ⟨g, cap, cur, rfl, hbg, hgc, Nat.zero_le _, hcm, hcs, by simp⟩⟩, hB⟩
    clear hown hg hat hB hgc hcs hbg
    go_wp2_with fail
    go_ret
    exact HF.out
/-- Lists: where they lie, and what they hold. -/
def catV (e : Option Addr × Nat × Nat × List Int) : Value := .slice e.1 e.2.1 e.2.2.1
def cat (es : List (Option Addr × Nat × Nat × List Int)) : List Int := (es.map fun e => e.2.2.2).flatten
section
variable {es : List (Option Addr × Nat × Nat × List Int)} {e : Option Addr × Nat × Nat × List Int} {j : Nat}
theorem cat_take (h : es[j]? = some e) : cat (es.take (j + 1)) = cat (es.take j) ++ e.2.2.2 := by
  unfold cat
  rw [List.take_add_one, h]
  simp
theorem cat_le (es : List (Option Addr × Nat × Nat × List Int)) (j : Nat) : (cat (es.take j)).length ≤ (cat es).length := by
  have h : cat es = cat (es.take j) ++ cat (es.drop j) := by
    unfold cat
    rw [← List.flatten_append, ← List.map_append, List.take_append_drop]
  rw [h, List.length_append]
  omega
theorem cat_all (h : es.length ≤ j) : cat (es.take j) = cat es := by rw [List.take_of_length_le h]
end
set_option maxHeartbeats 3200000 in
theorem impl_concat (L : Option Addr) (m cL : Nat) (es : List (Option Addr × Nat × Nat × List Int)) (w : World) (hm : es.length = m) (hr : Reads w L (es.map catV)) (he : ∀ e ∈ es, InI w e.1 e.2.1 e.2.2.2) (ht : (cat es).length ≤ 1048576) (hm1 : m ≤ 1048576) :
    Calls Try.prog 48 #[.slice L m cL] w fun e w' => IntsEnd (cat es) w w' e := by
  obtain ⟨i0, hi, hz0, hz1, hz2⟩ := info_parts Try.infoI
  have HM := Lib.hid hm
  have HR := Lib.hid hr
  have HE := Lib.hid he
  have HT := Lib.hid ht
  have hget : ∀ W, Below w.heap.size w W → ∀ j, j < m → ∃ b o A n c xs, L = some ⟨b, o, none⟩ ∧ W.cell? ⟨b, o + j, none⟩ = some (.slice A n c) ∧ es[j]? = some (A, n, c, xs) ∧ InI W A n xs := fun W hW j hj => by
    have hj' : j < es.length := by rw [HM.out]; exact hj
    obtain ⟨b, o, hL, _, hc⟩ := (HR.out.below hW).at_ (by simp; omega)
    obtain ⟨⟨A, n, c, xs⟩, hEj⟩ : ∃ e, e = es[j]'hj' := ⟨_, rfl⟩
    have h1 : es[j]? = some (A, n, c, xs) := by rw [List.getElem?_eq_getElem hj', hEj]
    have h2 := hc j (by simp; exact hj')
    rw [List.getElem_map, ← hEj] at h2
    exact ⟨b, o, A, n, c, xs, hL, h2, h1, (HE.out _ (List.mem_of_getElem? h1)).below hW⟩
  have HG := Lib.hid hget
  clear hm hr he ht hget
  go_enter Try.func48, Try.ntmps48
  go_wp2_with fail
  go_loopw [3, 11] (fun x y wr => ∃ j S : Nat, j ≤ m ∧ S ≤ 1048576 ∧ x = .int .i64 S ∧ y = .int .i64 j ∧ Hid (S = (cat (es.take j)).length) ∧ w = wr) (fun _ y _ => m - (intOf y).toNat)
  case atStart => exact ⟨0, 0, Nat.zero_le _, Nat.zero_le _, rfl, rfl, rfl, rfl⟩
  case round =>
    obtain ⟨j, S, hj, hS, rfl, rfl, HS, rfl⟩ := hrel
    by_cases hlt : j < m
    · have hj0 : (0 : Int) ≤ (j : Int) := by omega
      have hj1 : (j : Int) < (m : Int) := by omega
      obtain ⟨b, o, A, n, c, xs, rfl, hcell, hej, hxs⟩ := HG.out _ (Below.refl _ _) j hlt
      have HS2 : Hid (S + n = (cat (es.take (j + 1))).length) := by unfold Hid; rw [cat_take hej, List.length_append, ← HS.out, hxs.1]
      have hS2 : S + n ≤ 1048576 := by rw [HS2.out]; exact Nat.le_trans (cat_le es (j + 1)) HT.out
      have hw : IntKind.i64.wrap ((S : Int) + (n : Int)) = (S : Int) + (n : Int) := by rw [IntKind.wrap_i64]; omega
      have hneg : ¬ ((S : Int) + (n : Int) < 0) := by omega
      clear hej hxs
      go_wp2_with fail
      go_roundw
      case rel => exact ⟨j + 1, S + n, by omega, hS2, by go_num, by go_num, HS2, by first | trivial | rfl⟩
      case measure => simp [intOf]; omega
    · obtain rfl : j = m := by omega
      have hjj : ¬ ((j : Int) < (j : Int)) := by omega
      have hS0 : ¬ ((S : Int) < 0) := by omega
      go_wp2_with fail
      refine (impl_grow S _ hS).mono ?_
      rintro e w1 ⟨v1, rfl, ho, hb⟩
      have O1 : Hid (w1.ownsRow w.heap.size 3 1 v1 0 ((cat (es.take 0)).map (.int .i64))) := ho
      have B1 := Lib.hid hb
      clear ho hb
      go_wp2_with fail
      go_loopw [6, 27] (fun x y wk => ∃ i N : Nat, i ≤ j ∧ N ≤ 1048576 ∧ y = .int .i64 i ∧ Hid (N = (cat (es.take i)).length) ∧ Hid (wk.ownsRow w.heap.size 3 1 x N ((cat (es.take i)).map (.int .i64))) ∧ Hid (Below w.heap.size w wk)) (fun _ y _ => j - (intOf y).toNat)
      case atStart => exact ⟨0, 0, Nat.zero_le _, Nat.zero_le _, rfl, rfl, O1, B1⟩
      case round =>
        clear O1 B1
        obtain ⟨i, N, hij, hN, rfl, HN, ho, hb⟩ := hrel
        obtain ⟨wk, rfl⟩ : ∃ q : World, q = wr := ⟨_, rfl⟩
        have hsk := hb.out.size
        by_cases hlt2 : i < j
        · have hi0 : (0 : Int) ≤ (i : Int) := by omega
          have hi1 : (i : Int) < (j : Int) := by omega
          obtain ⟨b, o, A, n, c, xs, rfl, hcell, hej, hxs⟩ := HG.out _ hb.out i hlt2
          have HX := Lib.hid hxs
          have HN2 : Hid (N + n = (cat (es.take (i + 1))).length) := by unfold Hid; rw [cat_take hej, List.length_append, ← HN.out, hxs.1]
          have hN2 : N + n ≤ 1048576 := by rw [HN2.out]; exact Nat.le_trans (cat_le es (i + 1)) HT.out
          have HC : Hid ((cat (es.take (i + 1))).map (Value.int .i64) = (cat (es.take i)).map (.int .i64) ++ xs.map (.int .i64)) := by unfold Hid; rw [cat_take hej, List.map_append]
          clear hej hxs
          go_wp2_with (at_builtin; refine wpList_append_reads rfl _ _ 27 rfl w.heap.size 3 i0 (.int .i64 0) 8 Try.underlying27 hi hz0 hz1 hz2 rfl _ _ _ rfl ho.out A n c (xs.map (.int .i64)) rfl (by rw [List.length_map]; exact HX.out.1) HX.out.2.2.1 (by simp [Value.oneCell']) (by unfold maxLen; omega) (by omega) hsk ?_)
          intro v3 w3 hown hg
          have O3 : Hid (w3.ownsRow w.heap.size 3 1 v3 (N + n) ((cat (es.take (i + 1))).map (.int .i64))) := by rw [HC.out]; exact hown
          have B3 : Hid (Below w.heap.size w w3) := hb.out.grown hg hsk (fun k hk => (ho.out.lt k hk).1)
          clear hown hg
          go_wp2_with fail
          go_roundw
          case rel => exact ⟨i + 1, N + n, by omega, hN2, by go_num, HN2, O3, B3⟩
          case measure => simp [intOf]; omega
        · obtain rfl : i = j := by omega
          have hii : ¬ ((i : Int) < (i : Int)) := by omega
          have HF : Hid (∀ v, wk.ownsRow w.heap.size 3 1 v N ((cat (es.take i)).map (.int .i64)) → IntsEnd (cat es) w wk (.returned v)) := fun v hv => by
            rw [cat_all (Nat.le_of_eq HM.out)] at hv
            exact intsEnd_mk (own_len' hv) (by omega) hv hb.out
          go_wp2_with fail
          go_ret
          exact HF.out _ ho.out
end Go.Proofs.Ytipmeijfmiiedaa
