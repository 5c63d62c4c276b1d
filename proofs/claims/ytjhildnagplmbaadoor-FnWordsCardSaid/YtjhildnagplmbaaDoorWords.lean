/- For every slice of bytes the law FnWords returns true: what the program formats it parses again, what it splits it joins again; where the library's table of powers of ten and its two errors are as the program's text lays them; no other condition. -/
import Derived.Test.YtjhildnagplmbaaDoorAtoi
import Derived.Test.YtjhildnagplmbaaDoorCur
import Derived.Test.YtjhildnagplmbaaDoorLines
import Derived.Test.YtjhildnagplmbaaDoorJoin
import Derived.ProofKit
import Derived.OpenShut
import Derived.LaidMore
import Derived.Stop.Joined
import Derived.Test.YtjhildnagplmbaaDoorCards
import Derived.Test.YtjhildnagplmbaaDoorTie
namespace Go.Proofs.YtjhildnagplmbaaDoor.fnWords
open Go.ChangeShapes Go.WideShapes Go.ChangeAt Go.RowKit
open Go.ChangeMaps (open_string shut_string)

def sp : ByteArray := ⟨#[32]⟩
theorem join_step (p : List UInt8) (q : List (List UInt8)) (d : List UInt8) (h : q ≠ []) : Lib.join (p :: q) d = p ++ d ++ Lib.join q d := by
  match q, h with
  | x :: r, _ => rw [Lib.join_cons, Lib.join_cons]; simp [Lib.joinTail]
theorem join_all (d : List UInt8) (last : List UInt8) : ∀ P : List (List UInt8), Lib.join (P ++ [last]) d = (P.map (· ++ d)).flatten ++ last
  | [] => by simp [Lib.join_one]
  | p :: P => by
    rw [List.cons_append, join_step _ _ _ (by simp), join_all d last P]; simp
theorem pieces_text (s : ByteArray) : ∀ k, k ≤ s.size → (((pieces s sp k).map (·.data.toList)).map (· ++ [32])).flatten = s.data.toList.take (begins s sp k)
  | 0, _ => by simp [pieces, begins, splitS]
  | k + 1, h => by
    have ih := pieces_text s k (by omega)
    have hb := begins_le s sp k
    cases hc : sp.data.toList.contains (byteAt s k)
    · rw [(split_miss hc).1, (split_miss hc).2]; exact ih
    · rw [(split_hit hc).1, (split_hit hc).2]
      have hbyte : s[k]'(by omega) = 32 := by
        rw [List.contains_iff_mem, byteAt_lt (by omega)] at hc
        simpa [sp] using hc
      have ht := take_snoc s k (by omega)
      rw [List.map_append, List.map_append, List.flatten_append, ih, ht, hbyte]
      have h2 : s.data.toList.take k = s.data.toList.take (begins s sp k) ++ (s.data.toList.drop (begins s sp k)).take (k - begins s sp k) := by
        rw [← List.take_add]; congr 1; omega
      rw [h2]
      simp
theorem split_join (s : ByteArray) : joinB (splitAll s sp) sp (splitAll s sp).length = s := by
  unfold joinB jb
  rw [List.take_of_length_le (Nat.le_refl _)]
  have h := pieces_text s s.size (Nat.le_refl _)
  unfold splitAll
  rw [List.map_append, List.map_cons, List.map_nil, show sp.data.toList = [32] from rfl, join_all, h, Lib.extract_data, List.take_of_length_le (l := List.drop _ _) (by simp), List.take_append_drop]
/-- The pieces of a short text hold little. -/
theorem szL_le : ∀ (xs : List ByteArray) (m : Nat), (∀ x ∈ xs, x.size ≤ m) → ∀ k, szTo xs k ≤ k * m
  | _, _, _, 0 => by simp [szTo]
  | xs, m, h, k + 1 => by
    have ih := szL_le xs m h k
    rw [Nat.succ_mul]
    by_cases hk : k < xs.length
    · rw [szTo_succ xs k hk]
      have := h xs[k] (List.getElem_mem hk); omega
    · have e : szTo xs (k + 1) = szTo xs k := by
        unfold szTo; rw [List.take_of_length_le (by omega), List.take_of_length_le (by omega)]
      omega
theorem piece_size (s d : ByteArray) : ∀ x ∈ splitAll s d, x.size ≤ s.size := by
  have hp : ∀ k, k ≤ s.size → ∀ x ∈ pieces s d k, x.size ≤ s.size := by
    intro k
    induction k with
    | zero => intro _ x hx; simp [pieces, splitS] at hx
    | succ k ih =>
      intro hk x hx
      cases hc : d.data.toList.contains (byteAt s k)
      · rw [(split_miss hc).1] at hx; exact ih (by omega) x hx
      · rw [(split_hit hc).1, List.mem_append] at hx
        rcases hx with hx | hx
        · exact ih (by omega) x hx
        · simp at hx; subst hx; simp; omega
  intro x hx
  unfold splitAll at hx
  rw [List.mem_append] at hx
  rcases hx with hx | hx
  · exact hp _ (Nat.le_refl _) x hx
  · simp at hx; subst hx; simp
theorem sizes (s : ByteArray) (N : Nat) (hs : s.size ≤ 1000) (hN : (splitAll s sp).length = N) : szTo (splitAll s sp) N + N * sp.size ≤ 140737488355328 := by
  have h1 := szL_le (splitAll s sp) 1000 (fun x hx => by have := piece_size s sp x hx; omega) N
  have h2 := splitAll_le s sp
  have h3 : sp.size = 1 := rfl
  rw [h3]; omega
theorem name_x1 : nameB ⟨#[120, 49]⟩ = true := by decide
theorem two_lines : (linesL ⟨#[97, 10, 98, 10]⟩).length = 2 := by decide +kernel

set_option maxHeartbeats 400000 in
theorem walk {w : World} (A : Option Addr) (n c : Nat) (hx : IsBytes w A n) (he : Errs w) :
    Calls Tryd.prog 3 #[.slice A n c] w fun e w' => e = .returned (.bool true) ∧ Below w.heap.size w w' := by
  have He := Lib.hid he
  have Hby := Lib.hid hx.2
  clear he hx
  by_cases hb : 1048576 < (n : Int)
  · go_enter Tryd.func3, Tryd.ntmps3
    go_wp2_with fail
    go_ret
    exact ⟨rfl, Below.refl _ _⟩
  go_enter Tryd.func3, Tryd.ntmps3
  go_wp2_with fail
  refine (spec_makeNum A n c 1 _ (by omega) (by omega) Hby.out).mono ?_
  rintro e w1 ⟨⟨x, rfl, hx0, hx1⟩, hb1⟩
  have B1 := Lib.hid hb1
  clear hb1
  go_wp2_with fail
  refine (impl_formatInt (x - 30000) _ (by omega) (by omega) (He.out.below B1.out).1).mono ?_
  rintro e w2 ⟨rfl, hb2⟩
  have B2 := Lib.hid (B1.out.trans (hb2.mono B1.out.size))
  clear hb2
  go_wp2_with fail
  refine (impl_parseInt (itoaB (x - 30000)) _ (by have := itoaB_size (x - 30000) (by omega) (by omega); omega) (He.out.below B2.out)).mono ?_
  rintro e w3 ⟨⟨v, b, rfl, hp⟩, hb3⟩
  have B3 := Lib.hid (B2.out.trans (hb3.mono B2.out.size))
  have hnum : Num (itoaB (x - 30000)).data.toList (x - 30000) := ⟨by omega, by omega, by unfold itoaB; simp⟩
  obtain ⟨rfl, rfl⟩ := hp.unique (.inl ⟨rfl, hnum⟩)
  clear hb3 hp hnum
  go_wp2_with fail
  refine (spec_makeText A n c _ (by omega) (Hby.out.keep2 B3.out)).mono ?_
  rintro e w4 ⟨⟨s, rfl, hs⟩, hb4⟩
  have B4 := Lib.hid (B3.out.trans (hb4.mono B3.out.size))
  clear hb4
  go_wp2_with fail
  refine (impl_splitAny s sp _ (by omega) (by decide)).mono ?_
  rintro e w5 ⟨v5, rfl, ho5, hb5⟩
  have hlen := splitAll_le s sp
  generalize hN : (splitAll s sp).length = N at ho5 hlen
  obtain ⟨A5, c5, rfl⟩ := own_slice ho5
  have hcap := (own_cap ho5).1
  have r5 := Lib.hid (Reads.of_own ho5)
  have B5 := Lib.hid (B4.out.trans (hb5.mono B4.out.size))
  have HN := Lib.hid hN
  clear ho5 hb5 hN
  go_wp2_with fail
  refine (impl_join A5 N c5 (splitAll s sp) sp _ HN.out hcap (sizes s N hs HN.out) (by omega) r5.out).mono ?_
  rintro e w6 ⟨rfl, hb6⟩
  have B6 := Lib.hid (B5.out.trans (hb6.mono B5.out.size))
  rw [show joinB (splitAll s sp) sp N = s by rw [← HN.out]; exact split_join s]
  clear hb6
  go_wp2_with fail
  refine (impl_isName ⟨#[120, 49]⟩ _ (by decide)).mono ?_
  rintro e w7 ⟨rfl, hb7⟩
  have B7 := Lib.hid (B6.out.trans (hb7.mono B6.out.size))
  rw [name_x1]
  clear hb7
  go_wp2_with fail
  refine (impl_splitLines ⟨#[97, 10, 98, 10]⟩ _ (by decide)).mono ?_
  rintro e w8 ⟨v8, rfl, ho8, hb8⟩
  have B8 := Lib.hid (B7.out.trans (hb8.mono B7.out.size))
  rw [two_lines] at ho8
  obtain ⟨A8, c8, rfl⟩ := own_slice ho8
  clear ho8 hb8
  go_wp2_with fail
  go_ret
  exact ⟨rfl, B8.out⟩
theorem given {W : World} (h : laidMetH Tryd.prog Rows.fnWordsRow.laid W) : Errs W := by
  rw [MakeChecks.laidMetH_plain _ _ _ (by kernel_rfl)] at h
  exact errs_of_laid h.tail.tail
-- THE FRAME, by wip/tools/frame.py
theorem own : ownKnob Tryd.prog.godebug = none := by kernel_rfl
theorem laidOut : laidOutB Tryd.prog = true := by kernel_rfl

theorem door_met (os : Os) (args : Array Value) : laidMetH Tryd.prog Rows.fnWordsRow.laid ((World.doorLaid Tryd.prog 400 os).forCall (fun _ _ => 0) ⟨#[], args, []⟩).memory :=
  laidMetH_of_parts3 (fuel := 8) (laidMet_of_run' 8 (by kernel_rfl) (by kernel_rfl)) (by kernel_rfl) (by kernel_rfl)
set_option maxRecDepth 100000 in
theorem lifted (os : Os) (started : os.Started) (H : Type) (enc : TypeId × Value → H) :
    ReturnsInHanded {} Tryd.checked os 3 .any (fun w args => (Rows.fnWordsSpec.pre enc Tryd.prog Tryd.f3 [] false w args ∧ laidMetH Tryd.prog Rows.fnWordsRow.laid w) ∧ sizedMet enc Tryd.prog Tryd.f3 (OpenSpec.ofChange Rows.fnWordsSpec) false w args)
      (Rows.fnWordsSpec.post enc Tryd.prog Tryd.f3 false true false false) := by
  refine returnsInHanded_of_change_and (C := Tryd.checked) (X := fun w _ => laidMetH Tryd.prog Rows.fnWordsRow.laid w) (fun _ _ _ hh h => h.of_heap hh) own started (by kernel_rfl) Tryd.func3
    (ChangeSpec.witness_shaped (enc := enc) (C := Tryd.checked) (os := os) (X := fun w _ => laidMetH Tryd.prog Rows.fnWordsRow.laid w) false (World.doorLaid Tryd.prog 400 os) #[.slice none 0 0] 8 rfl (World.shaped_of_RefB (by kernel_rfl) (by kernel_rfl)) (by kernel_rfl) (by kernel_rfl) (by kernel_rfl) (door_met os _)) ?_
  intro W base args ds gs before hval0 hW _ _ hL _
  have hval : ∀ (j : Nat) t v, Tryd.f3.params[j]? = some t → args[j]? = some v → Value.okWide Tryd.prog W .any base t v := hval0
  have hW' := hW
  obtain ⟨p, q, hA0, hV, rfl, _, _⟩ := hW
  have hA : DataW.TrodAll enc Tryd.prog W 0 (fun _ => true) true Tryd.f3.params.toList args.toList ds p := hA0
  rw [Tryd.params3] at hA hval
  obtain ⟨v0, vs0, d0, ds0, p0, q0, hargs, rfl, rfl, h0, r0⟩ := trodAll_cons hA
  obtain ⟨rfl, rfl, rfl⟩ := trodAll_nil r0
  obtain rfl : args = #[v0] := by cases args; simp_all
  obtain ⟨rfl, rfl⟩ := trodVars_none hV
  obtain ⟨a0, len0, cap0, rfl⟩ := okWide_slice Tryd.underlying22 (hval 0 22 v0 rfl rfl)
  have k0 := h0
  have lt0 : ∀ x ∈ p0, x.block < W.heap.size := by obtain ⟨m, hm⟩ := k0; exact DataW.trod_lt m _ _ _ hm
  have w0 := isBytes_of Tryd.underlying22 Tryd.underlying5 (by kernel_rfl) h0
  clear hA0 hval0
  refine (walk (w := W) a0 len0 cap0 w0 (given hL)).mono fun e W' ⟨he, bel⟩ => ?_
  subst he
  exact ⟨_, rfl, _, _, _, [], _, [], hW', trodAll_mk1 (shut_bool Tryd.underlying4 _), (trodAll_cons_mk (Below.trod laidOut (by kernel_rfl) (of_decide_eq_true (by kernel_rfl)) k0 bel lt0) trodAll_mk0), rfl, bel.frame _, fun h => by cases h⟩

theorem over : Rows.fnWordsRow.holds Tryd.pinned (OpenSpec.ofChange Rows.fnWordsSpec) :=
  OpenClaim.holds_of_wide 3 Tryd.f3 rfl rfl rfl rfl rfl rfl rfl ⟨rfl, rfl, rfl, rfl, rfl⟩ rfl rfl rfl rfl rfl (by kernel_rfl) Tryd.func3 (by kernel_rfl)
    (of_decide_eq_true (by kernel_rfl)) (by unfold Func.isWrapper; rw [if_neg (of_decide_eq_false (by kernel_rfl))]; exact ⟨rfl, rfl⟩)
    (fun os started H enc _ => lifted os started H enc)

theorem proved : Rows.FnWordsSaid := over

theorem plain (f : FuncId) (fn : Func) (hf : Tryd.pinned.checked.prog.funcNamed "loop.example/g00830/laws.FnWords" = some f) (hfn : Tryd.pinned.checked.prog.funcs[f]? = some fn) :
    true = Tryd.pinned.checked.prog.looks [] ∧ ∀ (j : Nat) t, fn.params[j]? = some t → Tryd.pinned.checked.prog.wantsStandIn t = false := by
  obtain rfl : f = 3 := Option.some.inj ((show Tryd.prog.funcNamed "loop.example/g00830/laws.FnWords" = some 3 by kernel_rfl).symm.trans hf) |>.symm
  obtain rfl : fn = Tryd.f3 := (Option.some.inj (Tryd.func3.symm.trans hfn)).symm
  refine ⟨by kernel_rfl, fun j t ht => ?_⟩
  rw [Tryd.params3] at ht
  have hm : t ∈ [22] := by have := Array.mem_of_getElem? ht; simp at this ⊢; omega
  have hall : ([22].all fun u => !Tryd.prog.wantsStandIn u) = true := by kernel_rfl
  exact (show Tryd.prog.wantsStandIn t = false by simpa using List.all_eq_true.1 hall t hm)

theorem card : Rows.FnWordsCardSaid :=
  Claim7.holds_tied_plain_at .later [] _ _ _ _ proved (fun _ h => by cases h) (by kernel_rfl) (fun _ h => by cases h) fnWords_row_tie rfl ⟨rfl, rfl⟩ (by kernel_rfl) rfl plain (by kernel_rfl)
end Go.Proofs.YtjhildnagplmbaaDoor.fnWords
