/- SameStructures, by the program and by the model. -/
import Derived.Test.YtcmbfgaojlnjcaaStQ
namespace Go.Proofs.Ytcmbfgaojlnjcaa
set_option maxRecDepth 100000
open Go.RowKit

def SameStructuresIs (js : List JD) (ms : List MD) (js' : List JD) (ms' : List MD) (b : Bool) : Prop := b = true ↔ js = js' ∧ ms = ms'
theorem sameStructures_unique {js : List JD} {ms : List MD} {js' : List JD} {ms' : List MD} {b c : Bool} (h : SameStructuresIs js ms js' ms' b) (h' : SameStructuresIs js ms js' ms' c) : b = c := Bool.eq_iff_iff.2 (h.trans h'.symm)
set_option maxHeartbeats 1600000 in
theorem impl_sameStructures0 (A : Option Addr) (n c : Nat) (js : List JD) (B : Option Addr) (m d : Nat) (ms : List MD) (A' : Option Addr) (n' c' : Nat) (js' : List JD) (B' : Option Addr) (m' d' : Nat) (ms' : List MD) (w : World) (h1 : InT w A n js B m ms) (h2 : InT w A' n' js' B' m' ms') :
    Calls Try.prog 51 #[.agg #[.slice A n c, .slice B m d], .agg #[.slice A' n' c', .slice B' m' d']] w fun e w' => YesEnd (js = js' ∧ ms = ms') w w' e := by
  obtain ⟨W, hW⟩ : ∃ W, W = ((w.alloc (.cells #[.slice A n c, .slice B m d] 48)).alloc (.cells #[.slice A' n' c', .slice B' m' d'] 48)) := ⟨_, rfl⟩
  have hp0_0 : Hid (Box W w.heap.size 48 #[.slice A n c, .slice B m d]) := by rw [hW]; exact ((Box.new _ _ _).alloc _)
  have hp1_0 : Hid (Box W (w.heap.size + 1) 48 #[.slice A' n' c', .slice B' m' d']) := by rw [hW]; exact (Box.at' (by simp))
  have BW_0 : Hid (Below w.heap.size w W) := by rw [hW]; exact ((Below.refl _ _).alloc (Nat.le_refl _) _).alloc (by simp) _
  have H1 := Lib.hid (h1.below BW_0.out)
  have H2 := Lib.hid (h2.below BW_0.out)
  clear h1 h2
  go_enter Try.func51, Try.ntmps51
  go_wp2_with fail
  rw [← hW]
  clear hW
  refine (equal_Joint A n c js A' n' c' js' _ H1.out.1 H2.out.1).mono ?_
  rintro e w1 ⟨b, rfl, hq, hb⟩
  have hp0_1 := Lib.hid (hp0_0.out.below hb hp0_0.out.lt)
  have hp1_1 := Lib.hid (hp1_0.out.below hb hp1_0.out.lt)
  have BW_1 := Lib.hid (BW_0.out.trans (hb.mono BW_0.out.size))
  have H3 := Lib.hid (H1.out.2.below hb)
  have H4 := Lib.hid (H2.out.2.below hb)
  have HQ := Lib.hid hq
  clear hb hq
  have q0 := hp0_1.out.cell 1
  have q1 := hp1_1.out.cell 1
  simp at q0 q1
  cases b
  case false =>
    have HF : Hid (YesEnd (js = js' ∧ ms = ms') w w1 (.returned (.bool false))) := yes_no (fun q => by have := HQ.out.2 q.1; cases this) BW_1.out
    go_wp2_with fail
    go_ret
    exact HF.out
  have HJS : Hid (js = js') := HQ.out.1 rfl
  go_wp2_with fail
  clear q0 q1
  refine (equal_Member B m d ms B' m' d' ms' _ H3.out H4.out).mono ?_
  rintro e w2 ⟨b, rfl, hq, hb⟩
  have HF : Hid (YesEnd (js = js' ∧ ms = ms') w w2 (.returned (.bool b))) := ⟨b, rfl, ⟨fun q => ⟨HJS.out, hq.1 q⟩, fun q => hq.2 q.2⟩, BW_1.out.trans (hb.mono BW_1.out.size)⟩
  clear hb hq
  go_wp2_with fail
  go_ret
  exact HF.out
theorem Box.drewN {w : World} {g : Nat} {t : TypeId} {cs : Array Value} (h : Box w g t cs) (q : Nat) : Box (w.drewN q) g t cs := h
set_option maxHeartbeats 3200000 in
theorem spec_sameStructures0 (A : Option Addr) (n c : Nat) (js : List JD) (B : Option Addr) (m d : Nat) (ms : List MD) (A' : Option Addr) (n' c' : Nat) (js' : List JD) (B' : Option Addr) (m' d' : Nat) (ms' : List MD) (w : World) (h1 : InT w A n js B m ms) (h2 : InT w A' n' js' B' m' ms') :
    Calls Try.prog 50 #[.agg #[.slice A n c, .slice B m d], .agg #[.slice A' n' c', .slice B' m' d']] w fun e w' => YesEnd (js = js' ∧ ms = ms') w w' e := by
  have hmn := h1.1.2.1
  have hmn' := h2.1.2.1
  have hmm := h1.2.2.1
  have hmm' := h2.2.2.1
  obtain ⟨W, hW⟩ : ∃ W, W = ((w.alloc (.cells #[.slice A n c, .slice B m d] 48)).alloc (.cells #[.slice A' n' c', .slice B' m' d'] 48)) := ⟨_, rfl⟩
  have hp0_0 : Hid (Box W w.heap.size 48 #[.slice A n c, .slice B m d]) := by rw [hW]; exact ((Box.new _ _ _).alloc _)
  have hp1_0 : Hid (Box W (w.heap.size + 1) 48 #[.slice A' n' c', .slice B' m' d']) := by rw [hW]; exact (Box.at' (by simp))
  have BW_0 : Hid (Below w.heap.size w W) := by rw [hW]; exact ((Below.refl _ _).alloc (Nat.le_refl _) _).alloc (by simp) _
  have H1 := Lib.hid (h1.below BW_0.out)
  have H2 := Lib.hid (h2.below BW_0.out)
  have HJ1 : Hid (js.length = n) := h1.1.1
  have HJ2 : Hid (js'.length = n') := h2.1.1
  have HM1 : Hid (ms.length = m) := h1.2.1
  have HM2 : Hid (ms'.length = m') := h2.2.1
  have H1' := Lib.hid h1
  have H2' := Lib.hid h2
  clear h1 h2 H1 H2
  have H1 := H1'
  have H2 := H2'
  clear H1' H2'
  by_cases hn : n = n'
  case neg =>
    have hq : ((n : Int) != (n' : Int)) = true := by simp; omega
    have HF : Hid (YesEnd (js = js' ∧ ms = ms') w W (.returned (.bool false))) := yes_no (fun e => hn (by rw [← HJ1.out, ← HJ2.out, e.1])) BW_0.out
    go_enter Try.func50, Try.ntmps50
    go_wp2_with fail
    rw [← hW]
    go_ret
    exact HF.out
  subst hn
  have hqn : ((n : Int) != (n : Int)) = false := by simp
  by_cases hm : m = m'
  case neg =>
    have hq : ((m : Int) != (m' : Int)) = true := by simp; omega
    have HF : Hid (YesEnd (js = js' ∧ ms = ms') w W (.returned (.bool false))) := yes_no (fun e => hm (by rw [← HM1.out, ← HM2.out, e.2])) BW_0.out
    go_enter Try.func50, Try.ntmps50
    go_wp2_with fail
    rw [← hW]
    go_ret
    exact HF.out
  subst hm
  have hqm : ((m : Int) != (m : Int)) = false := by simp
  go_enter Try.func50, Try.ntmps50
  go_wp2_with fail
  rw [← hW]
  clear hW
  go_loopw [28] (fun y wr => ∃ k : Nat, k ≤ n ∧ y = .int .i64 k ∧ Hid (js.take k = js'.take k) ∧ Hid (Below w.heap.size w wr) ∧ Hid (Box wr (w.heap.size + 1) 48 #[.slice A' n c', .slice B' m d']) ∧ Hid (Box wr w.heap.size 48 #[.slice A n c, .slice B m d])) (fun y _ => n - (intOf y).toNat)
  case atStart => exact ⟨0, Nat.zero_le _, rfl, by simp [Hid], BW_0, hp1_0, hp0_0⟩
  case round =>
    obtain ⟨k, hk, rfl, heq, hb, hx1, hx0⟩ := hrel
    by_cases hlt : k < n
    · obtain ⟨b1, o1, rfl, hb1, ⟨s, x, y, f⟩, hx, ⟨e0, e1, e2, e3⟩, _⟩ := (H1.out.1.below hb.out).at_ k hlt
      obtain ⟨b2, o2, rfl, hb2, ⟨s', x', y', f'⟩, hy, ⟨d0, d1, d2, d3⟩, _⟩ := (H2.out.1.below hb.out).at_ k hlt
      simp only at e0 d0 e1 d1 e2 d2 e3 d3
      have hk0 : (0 : Int) ≤ (k : Int) := by omega
      have hk1 : (k : Int) < (n : Int) := by omega
      have HXX := Lib.hid hx
      have HYY := Lib.hid hy
      obtain ⟨wa, hwa⟩ : ∃ W, W = wr.alloc (.cells #[.string s, .int .i64 x, .int .i64 y, .bool f] 36) := ⟨_, rfl⟩
      obtain ⟨ga, hga⟩ : ∃ g, g = wr.heap.size := ⟨_, rfl⟩
      have hba : Below wr.heap.size wr wa := by rw [hwa]; exact (Below.refl _ _).alloc (Nat.le_refl _) _
      have XA : Hid (Box wa ga 36 #[.string s, .int .i64 x, .int .i64 y, .bool f]) := by rw [hwa, hga]; exact Box.new _ _ _
      have hx1a := Lib.hid (hx1.out.below hba hx1.out.lt)
      have AT2 : Hid (AtJ wa b2 (o2 + k * 4) ⟨s', x', y', f'⟩) := AtJ.below ⟨d0, d1, d2, d3⟩ hb2 hba
      have HB : Hid (∀ q, Below w.heap.size w (wa.drewN q)) := fun q => below_drewN (hb.out.trans (hba.mono hb.out.size)) q
      have HX1 := Lib.hid (fun q => hx1a.out.drewN q)
      have HX0 := Lib.hid (fun q => (hx0.out.below hba hx0.out.lt).drewN q)
      clear hx0
      clear hx hy hb hx1 hba d0 d1 d2 d3
      go_upto_region 6 with fail
      rw [← hwa, ← hga]
      clear hwa hga e0 e1 e2 e3
      have q0 := hx1a.out.cell 0
      simp at q0
      obtain ⟨d0, d1, d2, d3⟩ := AT2.out
      simp only at d0 d1 d2 d3
      have a0 := XA.out.cell 0
      have a1 := XA.out.cell 1
      have a2 := XA.out.cell 2
      have a3 := XA.out.cell 3
      simp at a0 a1 a2 a3
      by_cases hxy : (⟨s, x, y, f⟩ : JD) = ⟨s', x', y', f'⟩
      · have hnx : Hid (js.take (k + 1) = js'.take (k + 1)) := take_eq heq.out HXX.out (by rw [hxy]; exact HYY.out)
        cases hxy
        clear heq
        go_wp2_with fail
        go_quiet (fail)
        go_wp2_with fail
        go_roundw
        case rel => exact ⟨k + 1, by omega, by go_num, hnx, HB.out _, HX1.out _, HX0.out _⟩
        case measure => simp [intOf]; omega
      · have HF : Hid (∀ q, YesEnd (js = js' ∧ ms = ms') w (wa.drewN q) (.returned (.bool false))) := fun q => yes_no (fun e => take_ne HXX.out HYY.out hxy e.1) (HB.out q)
        clear heq
        rcases jd_ne hxy with hd | ⟨rfl, hd⟩ | ⟨rfl, rfl, hd⟩ | ⟨rfl, rfl, rfl, hd⟩ <;> clear hxy HXX HYY <;> (go_wp2_with fail; go_quiet (fail); go_wp2_with fail; go_ret; exact HF.out _)
    · have HJS : Hid (js = js') := by have := heq.out; rwa [List.take_of_length_le (by rw [HJ1.out]; omega), List.take_of_length_le (by rw [HJ2.out]; omega)] at this
      have q0 := hx0.out.cell 1
      simp at q0
      clear heq
      go_wp2_with fail
      clear q0 hx0
      go_loopw [44] (fun y wr => ∃ k : Nat, k ≤ m ∧ y = .int .i64 k ∧ Hid (ms.take k = ms'.take k) ∧ Hid (Below w.heap.size w wr) ∧ Hid (Box wr (w.heap.size + 1) 48 #[.slice A' n c', .slice B' m d'])) (fun y _ => m - (intOf y).toNat)
      case atStart => exact ⟨0, Nat.zero_le _, rfl, by simp [Hid], hb, hx1⟩
      case round =>
        obtain ⟨k, hk, rfl, heq, hb, hx1⟩ := hrel
        by_cases hlt : k < m
        · obtain ⟨b1, o1, rfl, hb1, ⟨x, y, z⟩, hx, ⟨e0, e1, e2⟩, _⟩ := (H1.out.2.below hb.out).at_ k hlt
          obtain ⟨b2, o2, rfl, hb2, ⟨x', y', z'⟩, hy, ⟨d0, d1, d2⟩, _⟩ := (H2.out.2.below hb.out).at_ k hlt
          simp only at e0 d0 e1 d1 e2 d2
          have hk0 : (0 : Int) ≤ (k : Int) := by omega
          have hk1 : (k : Int) < (m : Int) := by omega
          have HXX := Lib.hid hx
          have HYY := Lib.hid hy
          obtain ⟨wa, hwa⟩ : ∃ W, W = wr.alloc (.cells #[.int .i64 x, .int .i64 y, .int .i64 z] 79) := ⟨_, rfl⟩
          obtain ⟨ga, hga⟩ : ∃ g, g = wr.heap.size := ⟨_, rfl⟩
          have hba : Below wr.heap.size wr wa := by rw [hwa]; exact (Below.refl _ _).alloc (Nat.le_refl _) _
          have XA : Hid (Box wa ga 79 #[.int .i64 x, .int .i64 y, .int .i64 z]) := by rw [hwa, hga]; exact Box.new _ _ _
          have hx1a := Lib.hid (hx1.out.below hba hx1.out.lt)
          have AT2 : Hid (AtM wa b2 (o2 + k * 3) ⟨x', y', z'⟩) := AtM.below ⟨d0, d1, d2⟩ hb2 hba
          have HB : Hid (∀ q, Below w.heap.size w (wa.drewN q)) := fun q => below_drewN (hb.out.trans (hba.mono hb.out.size)) q
          have HX1 := Lib.hid (fun q => hx1a.out.drewN q)
          clear hx hy hb hx1 hba d0 d1 d2
          go_upto_region 12 with fail
          rw [← hwa, ← hga]
          clear hwa hga e0 e1 e2
          have q0 := hx1a.out.cell 1
          simp at q0
          obtain ⟨d0, d1, d2⟩ := AT2.out
          simp only at d0 d1 d2
          have a0 := XA.out.cell 0
          have a1 := XA.out.cell 1
          have a2 := XA.out.cell 2
          simp at a0 a1 a2
          by_cases hxy : (⟨x, y, z⟩ : MD) = ⟨x', y', z'⟩
          · have hnx : Hid (ms.take (k + 1) = ms'.take (k + 1)) := take_eq heq.out HXX.out (by rw [hxy]; exact HYY.out)
            cases hxy
            clear heq
            go_wp2_with fail
            go_quiet (fail)
            go_wp2_with fail
            go_roundw
            case rel => exact ⟨k + 1, by omega, by go_num, hnx, HB.out _, HX1.out _⟩
            case measure => simp [intOf]; omega
          · have HF : Hid (∀ q, YesEnd (js = js' ∧ ms = ms') w (wa.drewN q) (.returned (.bool false))) := fun q => yes_no (fun e => take_ne HXX.out HYY.out hxy e.2) (HB.out q)
            clear heq
            rcases md_ne hxy with hd | ⟨rfl, hd⟩ | ⟨rfl, rfl, hd⟩ <;> clear hxy HXX HYY <;> (go_wp2_with fail; go_quiet (fail); go_wp2_with fail; go_ret; exact HF.out _)
        · have hms : ms = ms' := by have := heq.out; rwa [List.take_of_length_le (by rw [HM1.out]; omega), List.take_of_length_le (by rw [HM2.out]; omega)] at this
          have HF : Hid (YesEnd (js = js' ∧ ms = ms') w wr (.returned (.bool true))) := yes_yes ⟨HJS.out, hms⟩ hb.out
          clear hms heq
          go_wp2_with fail
          go_ret
          exact HF.out
theorem spec_sameStructures (A : Option Addr) (n c : Nat) (js : List JD) (B : Option Addr) (m d : Nat) (ms : List MD) (A' : Option Addr) (n' c' : Nat) (js' : List JD) (B' : Option Addr) (m' d' : Nat) (ms' : List MD) (w : World) (h1 : InT w A n js B m ms) (h2 : InT w A' n' js' B' m' ms') :
    Calls Try.prog 50 #[.agg #[.slice A n c, .slice B m d], .agg #[.slice A' n' c', .slice B' m' d']] w fun e w' => ∃ b, e = .returned (.bool b) ∧ SameStructuresIs js ms js' ms' b ∧ Below w.heap.size w w' := (spec_sameStructures0 A n c js B m d ms A' n' c' js' B' m' d' ms' w h1 h2).mono fun _ _ h => h
theorem impl_sameStructures (A : Option Addr) (n c : Nat) (js : List JD) (B : Option Addr) (m d : Nat) (ms : List MD) (A' : Option Addr) (n' c' : Nat) (js' : List JD) (B' : Option Addr) (m' d' : Nat) (ms' : List MD) (w : World) (h1 : InT w A n js B m ms) (h2 : InT w A' n' js' B' m' ms') :
    Calls Try.prog 51 #[.agg #[.slice A n c, .slice B m d], .agg #[.slice A' n' c', .slice B' m' d']] w fun e w' => ∃ b, e = .returned (.bool b) ∧ SameStructuresIs js ms js' ms' b ∧ Below w.heap.size w w' := (impl_sameStructures0 A n c js B m d ms A' n' c' js' B' m' d' ms' w h1 h2).mono fun _ _ h => h
end Go.Proofs.Ytcmbfgaojlnjcaa
