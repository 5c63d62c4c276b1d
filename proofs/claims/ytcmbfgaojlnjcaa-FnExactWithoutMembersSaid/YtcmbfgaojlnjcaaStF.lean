/- FreeJoints, by the program and by the model. -/
import Derived.Test.YtcmbfgaojlnjcaaStO4
import Derived.Maps.AppendAt
namespace Go.Proofs.Ytcmbfgaojlnjcaa
set_option maxRecDepth 100000
open Go.RowKit

def isFree (js : List JD) (i : Nat) : Bool := (js[i]?.map JD.fixed) == some false
def freeTo (js : List JD) (k : Nat) : List Int := ((List.range k).filter (isFree js)).map fun i => ((i : Nat) : Int)
theorem freeTo_yes {js : List JD} {k : Nat} (h : isFree js k = true) : freeTo js (k + 1) = freeTo js k ++ [((k : Nat) : Int)] := by
  unfold freeTo
  rw [List.range_succ, List.filter_append, List.map_append]
  simp [h]
theorem freeTo_no {js : List JD} {k : Nat} (h : isFree js k = false) : freeTo js (k + 1) = freeTo js k := by
  unfold freeTo
  rw [List.range_succ, List.filter_append, List.map_append]
  simp [h]
theorem freeTo_le (js : List JD) (k : Nat) : (freeTo js k).length ≤ k := by
  unfold freeTo
  rw [List.length_map]
  exact Nat.le_trans (List.length_filter_le _ _) (by simp)
theorem isFree_of {js : List JD} {k : Nat} {s : ByteArray} {x y : Int} {f : Bool} (h : js[k]? = some ⟨s, x, y, f⟩) : isFree js k = !f := by
  unfold isFree
  rw [h]
  cases f <;> rfl
def FreeJointsIs (js : List JD) (ms : List MD) (r : List Int) : Prop := (TOk js ms ∧ r = freeTo js js.length) ∨ (¬ TOk js ms ∧ r = [])
theorem freeJoints_unique {js : List JD} {ms : List MD} {r r' : List Int} (h : FreeJointsIs js ms r) (h' : FreeJointsIs js ms r') : r = r' := by
  rcases h with ⟨h1, rfl⟩ | ⟨h1, rfl⟩ <;> rcases h' with ⟨h2, rfl⟩ | ⟨h2, rfl⟩
  · rfl
  · exact absurd h1 h2
  · exact absurd h2 h1
  · rfl
def FreeEnd (js : List JD) (ms : List MD) (w w' : World) (e : Ending) : Prop := ∃ r v, e = .returned v ∧ FreeJointsIs js ms r ∧ ResI w w' v r ∧ Below w.heap.size w w'
def FreeLEnd (js : List JD) (w w' : World) (e : Ending) : Prop := ∃ v N, e = .returned v ∧ w'.ownsRow w.heap.size 3 1 v N ((freeTo js js.length).map (.int .i64)) ∧ N ≤ 1048576 ∧ Below w.heap.size w w'
set_option maxHeartbeats 3200000 in
theorem spec_l12Free (A : Option Addr) (n c : Nat) (js : List JD) (B : Option Addr) (m d : Nat) (w : World) (h : InJ w A n js) :
    Calls Try.prog 68 #[.agg #[.slice A n c, .slice B m d]] w fun e w' => FreeLEnd js w w' e := by
  obtain ⟨i0, hi, hz0, hz1, hz2⟩ := info_parts Try.infoI
  have hmn := h.2.1
  have HLN : Hid (js.length = n) := h.1
  obtain ⟨W1, hW⟩ : ∃ W, W = (w.alloc (.cells #[.slice A n c, .slice B m d] 48)).alloc (.cells #[] 3) := ⟨_, rfl⟩
  have X0 : Hid (Box W1 w.heap.size 48 #[.slice A n c, .slice B m d]) := by rw [hW]; exact (Box.new _ _ _).alloc _
  have B0 : Hid (Below w.heap.size w W1) := by rw [hW]; exact ((Below.refl _ _).alloc (Nat.le_refl _) _).alloc (by simp) _
  have O0 : Hid (W1.ownsRow w.heap.size 3 1 (.slice (some ⟨w.heap.size + 1, 0, none⟩) 0 0) 0 ((freeTo js 0).map (.int .i64))) := by
    rw [hW]
    have h0 := World.ownsRow_lit (w.alloc (.cells #[.slice A n c, .slice B m d] 48)) (base := w.heap.size) (e := 3) (size := 1) #[] 0 (by simp) (by simp) (by simp)
    refine Lib.hid ?_
    simpa [freeTo] using h0
  have HJ := Lib.hid h
  clear h
  go_enter Try.func68, Try.ntmps68
  go_wp2_with fail
  rw [← hW]
  clear hW
  go_loopw [3, 10] (fun v y wr => ∃ (k N : Nat) (A1 : Option Addr) (c1 : Nat), k ≤ n ∧ N ≤ k ∧ v = .slice A1 N c1 ∧ y = .int .i64 k ∧ Hid (wr.ownsRow w.heap.size 3 1 (.slice A1 N c1) N ((freeTo js k).map (.int .i64))) ∧ Hid (Below w.heap.size w wr)) (fun _ y _ => n - (intOf y).toNat)
  case atStart => exact ⟨0, 0, _, _, Nat.zero_le _, Nat.le_refl _, rfl, rfl, O0, B0⟩
  case round =>
    obtain ⟨k, N, A1, c1, hk, hNk, rfl, rfl, HO, HB⟩ := hrel
    by_cases hlt : k < n
    · obtain ⟨b1, o1, rfl, hb1, ⟨s, x, y, f⟩, hx, ⟨e0, e1, e2, e3⟩, _⟩ := (HJ.out.below HB.out).at_ k hlt
      simp only at e0 e1 e2 e3
      have hk0 : (0 : Int) ≤ (k : Int) := by omega
      have hk1 : (k : Int) < (n : Int) := by omega
      have HFR := Lib.hid (isFree_of hx)
      obtain ⟨wa, hwa⟩ : ∃ W, W = wr.alloc (.cells #[.string s, .int .i64 x, .int .i64 y, .bool f] 36) := ⟨_, rfl⟩
      obtain ⟨ga, hga⟩ : ∃ g, g = wr.heap.size := ⟨_, rfl⟩
      have hba : Below wr.heap.size wr wa := by rw [hwa]; exact (Below.refl _ _).alloc (Nat.le_refl _) _
      have XA : Hid (Box wa ga 36 #[.string s, .int .i64 x, .int .i64 y, .bool f]) := by rw [hwa, hga]; exact Box.new _ _ _
      have HOA := Lib.hid (own_below HO.out hba)
      have HBA := Lib.hid (HB.out.trans (hba.mono HB.out.size))
      clear hx hba HO HB
      go_upto_region 5 with fail
      rw [← hwa, ← hga]
      clear hwa hga e0 e1 e2 e3
      have a3 := XA.out.cell 3
      simp at a3
      cases f
      case true =>
        have HFN : Hid (freeTo js (k + 1) = freeTo js k) := freeTo_no HFR.out
        go_wp2_with fail
        go_roundw
        case rel => exact ⟨k + 1, N, A1, c1, by omega, by omega, rfl, by go_num, by rw [HFN.out]; exact HOA, HBA⟩
        case measure => simp [intOf]; omega
      case false =>
        have HFN : Hid (freeTo js (k + 1) = freeTo js k ++ [((k : Nat) : Int)]) := freeTo_yes HFR.out
        have HBS := Lib.hid HBA.out.size
        obtain ⟨wb, hwb⟩ : ∃ W, W = wa.alloc (.cells #[.int .i64 k] 3) := ⟨_, rfl⟩
        have hbb : Below wa.heap.size wa wb := by rw [hwb]; exact (Below.refl _ _).alloc (Nat.le_refl _) _
        have HBB := Lib.hid (HBA.out.trans (hbb.mono HBA.out.size))
        have HOB := Lib.hid (own_below HOA.out hbb)
        clear hbb
        have hsz : w.heap.size ≤ wa.heap.size := HBA.out.size
        go_wp2_with (at_builtin; refine wpList_append_own_at _ rfl _ _ 22 rfl w.heap.size 3 i0 (.int .i64 0) 1 8 Try.underlying22 hi hz0 hz1 hz2 rfl (by decide) _ _ _ rfl (HOA.out.alloc _) ⟨wa.heap.size, 0, none⟩ 1 1 [.int .i64 k] rfl rfl ?c1 ?c2 ?c3 ?c4 ?c5 ?_)
        case c1 => exact cell_one_new _ _ _
        case c2 => intro u hu; simp at hu; subst hu; rfl
        case c3 => unfold maxLen; omega
        case c4 => omega
        case c5 => simp; omega
        intro v' w5 hown hg hnil hat
        obtain ⟨A6, c6, rfl⟩ := own_slice hown
        rw [← hwb] at hg
        have HO5 : Hid (w5.ownsRow w.heap.size 3 1 (.slice A6 (N + 1) c6) (N + 1) ((freeTo js (k + 1)).map (.int .i64))) := by rw [HFN.out, List.map_append]; exact hown
        have HB5 : Hid (Below w.heap.size w w5) := HBB.out.grown hg HBB.out.size (fun k hk => (HOB.out.lt k hk).1)
        clear hown hg hnil hat hwb
        go_wp2_with fail
        go_roundw
        case rel => exact ⟨k + 1, N + 1, A6, c6, by omega, by omega, rfl, by go_num, HO5, HB5⟩
        case measure => simp [intOf]; omega
    · obtain rfl : k = n := by omega
      have HF : Hid (FreeLEnd js w wr (.returned (.slice A1 N c1))) := ⟨_, N, rfl, by rw [HLN.out]; exact HO.out, by omega, HB.out⟩
      go_wp2_with fail
      go_ret
      exact HF.out
set_option maxHeartbeats 3200000 in
theorem impl_freeJoints0 (A : Option Addr) (n c : Nat) (js : List JD) (B : Option Addr) (m d : Nat) (ms : List MD) (w : World) (h : InT w A n js B m ms) :
    Calls Try.prog 33 #[.agg #[.slice A n c, .slice B m d]] w fun e w' => FreeEnd js ms w w' e := by
  obtain ⟨i0, hi, hz0, hz1, hz2⟩ := info_parts Try.infoI
  have hmn := h.1.2.1
  have HLN : Hid (js.length = n) := h.1.1
  obtain ⟨W1, hW⟩ : ∃ W, W = w.alloc (.cells #[.slice A n c, .slice B m d] 48) := ⟨_, rfl⟩
  have X0 : Hid (Box W1 w.heap.size 48 #[.slice A n c, .slice B m d]) := by rw [hW]; exact Box.new _ _ _
  have B0 : Hid (Below w.heap.size w W1) := by rw [hW]; exact (Below.refl _ _).alloc (Nat.le_refl _) _
  have HI := Lib.hid h
  have HJ := Lib.hid h.1
  clear h
  go_enter Try.func33, Try.ntmps33
  go_wp2_with fail
  rw [← hW]
  clear hW
  refine (impl_structureOk0 A n c js B m d ms _ (HI.out.below B0.out)).mono ?_
  rintro e w1 ⟨b, rfl, hq, hb⟩
  have X1 := Lib.hid (X0.out.below hb X0.out.lt)
  have B1 := Lib.hid (B0.out.trans (hb.mono B0.out.size))
  have HQ := Lib.hid hq
  clear hb hq
  cases b
  case false =>
    have HF : Hid (FreeEnd js ms w w1 (.returned (.slice none 0 0))) := ⟨[], _, rfl, .inr ⟨fun q => (by have := HQ.out.2 q; cases this), rfl⟩, ⟨by simp, World.ownsRow_nil _ _ _ _⟩, B1.out⟩
    go_wp2_with fail
    go_ret
    exact HF.out
  have HOK : Hid (TOk js ms) := HQ.out.1 rfl
  have O0 : Hid (w1.ownsRow w.heap.size 3 1 (.slice none 0 0) 0 ((freeTo js 0).map (.int .i64))) := by
    have h0 := World.ownsRow_nil w1 w.heap.size 3 1
    refine Lib.hid ?_
    simpa [freeTo] using h0
  have e0 := X1.out.cell 0
  simp at e0
  go_wp2_with fail
  clear e0
  go_loopw [3, 12] (fun v y wr => ∃ (k N : Nat) (A1 : Option Addr) (c1 : Nat), k ≤ n ∧ N ≤ k ∧ v = .slice A1 N c1 ∧ y = .int .i64 k ∧ Hid (wr.ownsRow w.heap.size 3 1 (.slice A1 N c1) N ((freeTo js k).map (.int .i64))) ∧ Hid (Below w.heap.size w wr)) (fun _ y _ => n - (intOf y).toNat)
  case atStart => exact ⟨0, 0, _, _, Nat.zero_le _, Nat.le_refl _, rfl, rfl, O0, B1⟩
  case round =>
    obtain ⟨k, N, A1, c1, hk, hNk, rfl, rfl, HO, HB⟩ := hrel
    by_cases hlt : k < n
    · obtain ⟨b1, o1, rfl, hb1, ⟨s, x, y, f⟩, hx, ⟨e0, e1, e2, e3⟩, _⟩ := (HJ.out.below HB.out).at_ k hlt
      simp only at e0 e1 e2 e3
      have hk0 : (0 : Int) ≤ (k : Int) := by omega
      have hk1 : (k : Int) < (n : Int) := by omega
      have HFR := Lib.hid (isFree_of hx)
      obtain ⟨wa, hwa⟩ : ∃ W, W = wr.alloc (.cells #[.string s, .int .i64 x, .int .i64 y, .bool f] 36) := ⟨_, rfl⟩
      obtain ⟨ga, hga⟩ : ∃ g, g = wr.heap.size := ⟨_, rfl⟩
      have hba : Below wr.heap.size wr wa := by rw [hwa]; exact (Below.refl _ _).alloc (Nat.le_refl _) _
      have XA : Hid (Box wa ga 36 #[.string s, .int .i64 x, .int .i64 y, .bool f]) := by rw [hwa, hga]; exact Box.new _ _ _
      have HOA := Lib.hid (own_below HO.out hba)
      have HBA := Lib.hid (HB.out.trans (hba.mono HB.out.size))
      clear hx hba HO HB
      go_upto_region 7 with fail
      rw [← hwa, ← hga]
      clear hwa hga e0 e1 e2 e3
      have a3 := XA.out.cell 3
      simp at a3
      cases f
      case true =>
        have HFN : Hid (freeTo js (k + 1) = freeTo js k) := freeTo_no HFR.out
        go_wp2_with fail
        go_roundw
        case rel => exact ⟨k + 1, N, A1, c1, by omega, by omega, rfl, by go_num, by rw [HFN.out]; exact HOA, HBA⟩
        case measure => simp [intOf]; omega
      case false =>
        have HFN : Hid (freeTo js (k + 1) = freeTo js k ++ [((k : Nat) : Int)]) := freeTo_yes HFR.out
        have HBS := Lib.hid HBA.out.size
        obtain ⟨wb, hwb⟩ : ∃ W, W = wa.alloc (.cells #[.int .i64 k] 3) := ⟨_, rfl⟩
        have hbb : Below wa.heap.size wa wb := by rw [hwb]; exact (Below.refl _ _).alloc (Nat.le_refl _) _
        have HBB := Lib.hid (HBA.out.trans (hbb.mono HBA.out.size))
        have HOB := Lib.hid (own_below HOA.out hbb)
        clear hbb
        have hsz : w.heap.size ≤ wa.heap.size := HBA.out.size
        go_wp2_with (at_builtin; refine wpList_append_own_at _ rfl _ _ 22 rfl w.heap.size 3 i0 (.int .i64 0) 1 8 Try.underlying22 hi hz0 hz1 hz2 rfl (by decide) _ _ _ rfl (HOA.out.alloc _) ⟨wa.heap.size, 0, none⟩ 1 1 [.int .i64 k] rfl rfl ?c1 ?c2 ?c3 ?c4 ?c5 ?_)
        case c1 => exact cell_one_new _ _ _
        case c2 => intro u hu; simp at hu; subst hu; rfl
        case c3 => unfold maxLen; omega
        case c4 => omega
        case c5 => simp; omega
        intro v' w5 hown hg hnil hat
        obtain ⟨A6, c6, rfl⟩ := own_slice hown
        rw [← hwb] at hg
        have HO5 : Hid (w5.ownsRow w.heap.size 3 1 (.slice A6 (N + 1) c6) (N + 1) ((freeTo js (k + 1)).map (.int .i64))) := by rw [HFN.out, List.map_append]; exact hown
        have HB5 : Hid (Below w.heap.size w w5) := HBB.out.grown hg HBB.out.size (fun k hk => (HOB.out.lt k hk).1)
        clear hown hg hnil hat hwb
        go_wp2_with fail
        go_roundw
        case rel => exact ⟨k + 1, N + 1, A6, c6, by omega, by omega, rfl, by go_num, HO5, HB5⟩
        case measure => simp [intOf]; omega
    · obtain rfl : k = n := by omega
      have HF : Hid (FreeEnd js ms w wr (.returned (.slice A1 N c1))) := ⟨_, _, rfl, .inl ⟨HOK.out, rfl⟩, ⟨by have := freeTo_le js js.length; have := HLN.out; omega, by
        rw [HLN.out]
        have h1 := HO.out
        have h2 : (freeTo js k).length = N := by have := h1.1; simpa using this
        rw [h2]; exact h1⟩, HB.out⟩
      go_wp2_with fail
      go_ret
      exact HF.out
set_option maxHeartbeats 1600000 in
theorem spec_freeJoints0 (A : Option Addr) (n c : Nat) (js : List JD) (B : Option Addr) (m d : Nat) (ms : List MD) (w : World) (h : InT w A n js B m ms) :
    Calls Try.prog 32 #[.agg #[.slice A n c, .slice B m d]] w fun e w' => FreeEnd js ms w w' e := by
  obtain ⟨W1, hW⟩ : ∃ W, W = w.alloc (.cells #[.slice A n c, .slice B m d] 48) := ⟨_, rfl⟩
  have X0 : Hid (Box W1 w.heap.size 48 #[.slice A n c, .slice B m d]) := by rw [hW]; exact Box.new _ _ _
  have B0 : Hid (Below w.heap.size w W1) := by rw [hW]; exact (Below.refl _ _).alloc (Nat.le_refl _) _
  have HI := Lib.hid h
  clear h
  go_enter Try.func32, Try.ntmps32
  go_wp2_with fail
  rw [← hW]
  clear hW
  refine (spec_structureOk0 A n c js B m d ms _ (HI.out.below B0.out)).mono ?_
  rintro e w1 ⟨b, rfl, hq, hb⟩
  have X1 := Lib.hid (X0.out.below hb X0.out.lt)
  have B1 := Lib.hid (B0.out.trans (hb.mono B0.out.size))
  have HQ := Lib.hid hq
  clear hb hq
  cases b
  case false =>
    have HF : Hid (FreeEnd js ms w w1 (.returned (.slice none 0 0))) := ⟨[], _, rfl, .inr ⟨fun q => (by have := HQ.out.2 q; cases this), rfl⟩, ⟨by simp, World.ownsRow_nil _ _ _ _⟩, B1.out⟩
    go_wp2_with fail
    go_ret
    exact HF.out
  have HOK : Hid (TOk js ms) := HQ.out.1 rfl
  have e0 := X1.out.cell 0
  have e1 := X1.out.cell 1
  simp at e0 e1
  go_wp2_with fail
  clear e0 e1
  refine (spec_l12Free A n c js B m d _ (HI.out.1.below B1.out)).mono ?_
  rintro e w2 ⟨v, N, rfl, ho, hN, hb⟩
  have HF : Hid (FreeEnd js ms w w2 (.returned v)) := ⟨_, _, rfl, .inl ⟨HOK.out, rfl⟩, ⟨by have h1 := ho.1; simp at h1; omega, by
    have h2 : (freeTo js js.length).length = N := by have := ho.1; simpa using this
    rw [h2]; exact own_base ho B1.out.size⟩, B1.out.trans (hb.mono B1.out.size)⟩
  clear ho hb
  go_wp2_with fail
  go_ret
  exact HF.out
theorem spec_freeJoints (A : Option Addr) (n c : Nat) (js : List JD) (B : Option Addr) (m d : Nat) (ms : List MD) (w : World) (h : InT w A n js B m ms) :
    Calls Try.prog 32 #[.agg #[.slice A n c, .slice B m d]] w fun e w' => ∃ r v, e = .returned v ∧ FreeJointsIs js ms r ∧ ResI w w' v r ∧ Below w.heap.size w w' := spec_freeJoints0 A n c js B m d ms w h
theorem impl_freeJoints (A : Option Addr) (n c : Nat) (js : List JD) (B : Option Addr) (m d : Nat) (ms : List MD) (w : World) (h : InT w A n js B m ms) :
    Calls Try.prog 33 #[.agg #[.slice A n c, .slice B m d]] w fun e w' => ∃ r v, e = .returned v ∧ FreeJointsIs js ms r ∧ ResI w w' v r ∧ Below w.heap.size w w' := impl_freeJoints0 A n c js B m d ms w h
end Go.Proofs.Ytcmbfgaojlnjcaa
