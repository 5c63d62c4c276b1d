/- Loads, by the model: which are loads, none, sums, moments. -/
import Derived.Test.YtipmeijfmiiedaaLdI
namespace Go.Proofs.Ytipmeijfmiiedaa
set_option maxRecDepth 100000
open Go.RowKit

set_option maxHeartbeats 1600000 in
theorem spec_loadOk0 (A : Option Addr) (n c : Nat) (js : List JD) (B : Option Addr) (m d : Nat) (ms : List MD) (X : Option Addr) (nx cx : Nat) (l : List Int) (w : World) (h : InT w A n js B m ms) (hl : InI w X nx l) :
    Calls Try.prog 20 #[.agg #[.slice A n c, .slice B m d], .slice X nx cx] w fun e w' => YesEnd (LdOk js ms l) w w' e := by
  obtain ⟨W1, hW⟩ : ∃ W, W = w.alloc (.cells #[.slice A n c, .slice B m d] 26) := ⟨_, rfl⟩
  have X0 : Hid (Box W1 w.heap.size 26 #[.slice A n c, .slice B m d]) := by rw [hW]; exact Box.new _ _ _
  have B0 : Hid (Below w.heap.size w W1) := by rw [hW]; exact (Below.refl _ _).alloc (Nat.le_refl _) _
  have HLN : Hid (js.length = n) := h.1.1
  have HI := Lib.hid h
  have HLX : Hid (l.length = nx) := hl.1
  have hnx := hl.2.1
  have HX := Lib.hid hl
  clear h hl
  go_enter Try.func20, Try.ntmps20
  go_wp2_with fail
  rw [← hW]
  clear hW
  refine (spec_structureOk0 A n c js B m d ms _ (HI.out.below B0.out)).mono ?_
  rintro e w1 ⟨b, rfl, hq, hb⟩
  have X1 := Lib.hid (X0.out.below hb X0.out.lt)
  have B1 := Lib.hid (B0.out.trans (hb.mono B0.out.size))
  have HQ := Lib.hid hq
  clear hq
  clear hb
  cases b
  case false =>
    have HF : Hid (YesEnd (LdOk js ms l) w w1 (.returned (.bool false))) := yes_no (fun q => (by have := HQ.out.2 q.1; cases this)) B1.out
    go_wp2_with fail
    go_ret
    exact HF.out
  have HOK : Hid (TOk js ms) := HQ.out.1 rfl
  have hn6 : n ≤ 6 := by have := HOK.out.six; have := HLN.out; omega
  have e0 := X1.out.cell 0
  have e1 := X1.out.cell 1
  simp at e0 e1
  by_cases he : nx = 2 * n
  case neg =>
    have he' : ((nx : Int) != 2 * (n : Int)) = true := by simp; omega
    have HF : Hid (YesEnd (LdOk js ms l) w w1 (.returned (.bool false))) := yes_no (fun q => he (by have h1 := q.2.1; rw [HLN.out, HLX.out] at h1; exact h1)) B1.out
    clear he
    go_wp2_with fail
    go_ret
    exact HF.out
  have he' : ((nx : Int) != 2 * (n : Int)) = false := by simp; omega
  have HE := Lib.hid he
  clear he
  go_wp2_with fail
  clear e0 e1 he'
  go_loopw [21] (fun y wr => ∃ k : Nat, k ≤ nx ∧ y = .int .i64 k ∧ Hid (Ent (l.take k)) ∧ wr = w1) (fun y _ => nx - (intOf y).toNat)
  case atStart => exact ⟨0, Nat.zero_le _, rfl, by simpa using Lib.hid Ent.nil, rfl⟩
  case round =>
    obtain ⟨k, hk, rfl, hin, rfl⟩ := hrel
    by_cases hlt : k < nx
    · obtain ⟨b, o, z, rfl, hz, hcell, hb, hz0, hz1⟩ := (HX.out.below B1.out).get hlt
      have hi0 : (0 : Int) ≤ (k : Int) := by omega
      have hi1 : (k : Int) < (nx : Int) := by omega
      have HZ := Lib.hid hz
      clear hz
      by_cases hok : -100 ≤ z ∧ z ≤ 100
      · have hnxt : Hid (Ent (l.take (k + 1))) := hin.out.snoc HZ.out hok
        go_wp2_with fail
        refine (l01In_yes z (-100) 100 _ hok.1 hok.2).mono ?_
        rintro e w2 ⟨rfl, rfl⟩
        clear hok
        go_wp2_with fail
        go_roundw
        case rel => exact ⟨k + 1, by omega, by go_num, hnxt, by trivial⟩
        case measure => simp [intOf]; omega
      · have HF : Hid (YesEnd (LdOk js ms l) w wr (.returned (.bool false))) := yes_no (fun q => ent_bad HZ.out hok q.2.2) B1.out
        have HNO := Lib.hid hok
        clear hok
        go_wp2_with fail
        refine (l01In_no z (-100) 100 _ HNO.out).mono ?_
        rintro e w2 ⟨rfl, rfl⟩
        go_wp2_with fail
        go_ret
        exact HF.out
    · obtain rfl : k = nx := by omega
      have HF : Hid (YesEnd (LdOk js ms l) w wr (.returned (.bool true))) := yes_yes ⟨HOK.out, by rw [HLX.out, HLN.out]; exact HE.out, by have := hin.out; rwa [List.take_of_length_le (by rw [HLX.out]; exact Nat.le_refl _)] at this⟩ B1.out
      go_wp2_with fail
      go_ret
      exact HF.out
theorem spec_loadOk (A : Option Addr) (n c : Nat) (js : List JD) (B : Option Addr) (m d : Nat) (ms : List MD) (X : Option Addr) (nx cx : Nat) (l : List Int) (w : World) (h : InT w A n js B m ms) (hl : InI w X nx l) :
    Calls Try.prog 20 #[.agg #[.slice A n c, .slice B m d], .slice X nx cx] w fun e w' => ∃ b, e = .returned (.bool b) ∧ LoadOkIs js ms l b ∧ Below w.heap.size w w' := spec_loadOk0 A n c js B m d ms X nx cx l w h hl
set_option maxHeartbeats 1600000 in
theorem spec_noLoad0 (A : Option Addr) (n c : Nat) (js : List JD) (B : Option Addr) (m d : Nat) (ms : List MD) (w : World) (h : InT w A n js B m ms) :
    Calls Try.prog 26 #[.agg #[.slice A n c, .slice B m d]] w fun e w' => ∃ r v, e = .returned v ∧ NoLoadIs js ms r ∧ ResI w w' v r ∧ Below w.heap.size w w' := by
  obtain ⟨i0, hi, hz0, hz1, hz2⟩ := info_parts Try.infoI
  obtain ⟨W1, hW⟩ : ∃ W, W = w.alloc (.cells #[.slice A n c, .slice B m d] 26) := ⟨_, rfl⟩
  have X0 : Hid (Box W1 w.heap.size 26 #[.slice A n c, .slice B m d]) := by rw [hW]; exact Box.new _ _ _
  have B0 : Hid (Below w.heap.size w W1) := by rw [hW]; exact (Below.refl _ _).alloc (Nat.le_refl _) _
  have HLN : Hid (js.length = n) := h.1.1
  have HI := Lib.hid h
  clear h
  go_enter Try.func26, Try.ntmps26
  go_wp2_with fail
  rw [← hW]
  clear hW
  refine (spec_structureOk0 A n c js B m d ms _ (HI.out.below B0.out)).mono ?_
  rintro e w1 ⟨b, rfl, hq, hb⟩
  have X1 := Lib.hid (X0.out.below hb X0.out.lt)
  have B1 := Lib.hid (B0.out.trans (hb.mono B0.out.size))
  have HQ := Lib.hid hq
  clear hq
  clear hb
  cases b
  case false =>
    have HF : Hid (NoLdEnd js ms w w1 (.returned (.slice none 0 0))) := ⟨[], _, rfl, .inr ⟨fun q => (by have := HQ.out.2 q; cases this), rfl⟩, ⟨by simp, World.ownsRow_nil _ _ _ _⟩, B1.out⟩
    go_wp2_with fail
    go_ret
    exact HF.out
  have HOK : Hid (TOk js ms) := HQ.out.1 rfl
  have hn6 : n ≤ 6 := by have := HOK.out.six; have := HLN.out; omega
  have e0 := X1.out.cell 0
  have e1 := X1.out.cell 1
  simp at e0 e1
  obtain ⟨N, hN⟩ : ∃ N, N = 2 * n := ⟨_, rfl⟩
  have hmul : 2 * (n : Int) = (N : Int) := by omega
  have HN := Lib.hid hN
  have hN12 : N ≤ 12 := by omega
  have hbs := B1.out.size
  clear hN
  go_wp2_with (refine wpList_make_full _ rfl _ _ 27 rfl w.heap.size 3 i0 (.int .i64 0) 1 Try.underlying27 hi hz0 hz1 _ _ _ _ N rfl rfl rfl rfl ?c1 ?c2 ?c3 ?_)
  case c1 => rw [hz2]; omega
  case c2 => unfold maxLen; omega
  case c3 => exact hbs
  intro w2 ho hg
  have B2 : Hid (Below w.heap.size w w2) := B1.out.grown hg hbs (fun k hk => by cases hk)
  have HF : Hid (NoLdEnd js ms w w2 (.returned (.slice (some ⟨w1.heap.size, 0, none⟩) N N))) := ⟨_, _, rfl, .inl ⟨HOK.out, rfl⟩, by
    have hl : (noload js.length).length = N := by unfold noload; rw [List.length_replicate, HLN.out]; exact HN.out.symm
    refine ⟨by omega, ?_⟩
    rw [hl]
    unfold noload
    rw [HLN.out, ← HN.out, ← made0]
    simp only [Value.cells, Nat.mul_one]
    exact ho, B2.out⟩
  clear ho hg
  go_wp2_with fail
  go_ret
  exact HF.out
theorem spec_noLoad (A : Option Addr) (n c : Nat) (js : List JD) (B : Option Addr) (m d : Nat) (ms : List MD) (w : World) (h : InT w A n js B m ms) :
    Calls Try.prog 26 #[.agg #[.slice A n c, .slice B m d]] w fun e w' => ∃ r v, e = .returned v ∧ NoLoadIs js ms r ∧ ResI w w' v r ∧ Below w.heap.size w w' := spec_noLoad0 A n c js B m d ms w h
set_option maxHeartbeats 3200000 in
theorem spec_totalOf0 (A : Option Addr) (n c : Nat) (js : List JD) (B : Option Addr) (m d : Nat) (ms : List MD) (X : Option Addr) (nx cx : Nat) (l : List Int) (w : World) (h : InT w A n js B m ms) (hl : InI w X nx l) :
    Calls Try.prog 36 #[.agg #[.slice A n c, .slice B m d], .slice X nx cx] w fun e w' => TwoEnd (TotalOfIs js ms l) w w' e := by
  obtain ⟨W1, hW⟩ : ∃ W, W = w.alloc (.cells #[.slice A n c, .slice B m d] 26) := ⟨_, rfl⟩
  have X0 : Hid (Box W1 w.heap.size 26 #[.slice A n c, .slice B m d]) := by rw [hW]; exact Box.new _ _ _
  have B0 : Hid (Below w.heap.size w W1) := by rw [hW]; exact (Below.refl _ _).alloc (Nat.le_refl _) _
  have HLN : Hid (js.length = n) := h.1.1
  have HI := Lib.hid h
  have HLX : Hid (l.length = nx) := hl.1
  have hnx := hl.2.1
  have HX := Lib.hid hl
  clear h hl
  go_enter Try.func36, Try.ntmps36
  go_wp2_with fail
  rw [← hW]
  clear hW
  refine (spec_loadOk0 A n c js B m d ms X nx cx l _ (HI.out.below B0.out) (HX.out.below B0.out)).mono ?_
  rintro e w1 ⟨b, rfl, hq, hb⟩
  have X1 := Lib.hid (X0.out.below hb X0.out.lt)
  have B1 := Lib.hid (B0.out.trans (hb.mono B0.out.size))
  have HQ := Lib.hid hq
  clear hq
  clear hb
  cases b
  case false =>
    have HF : Hid (TwoEnd (TotalOfIs js ms l) w w1 (.returned (.tuple #[.int .i64 0, .int .i64 0]))) := ⟨0, 0, rfl, .inr ⟨fun q => (by have := HQ.out.2 q; cases this), rfl, rfl⟩, B1.out⟩
    go_wp2_with fail
    go_ret2
    exact HF.out
  have HOK : Hid (LdOk js ms l) := HQ.out.1 rfl
  have hn6 : n ≤ 6 := by have := HOK.out.1.six; have := HLN.out; omega
  have hnx2 : nx = 2 * n := by have h1 := HOK.out.2.1; rw [HLN.out, HLX.out] at h1; exact h1
  have HN2 := Lib.hid hnx2
  clear hnx2
  have e0 := X1.out.cell 0
  have e1 := X1.out.cell 1
  simp at e0 e1
  go_wp2_with fail
  clear e0 e1
  go_loopw [6, 7, 16] (fun a b y wr => ∃ (k : Nat) (u v : Int), k ≤ n ∧ y = .int .i64 k ∧ a = .int .i64 u ∧ b = .int .i64 v ∧ (-(100 * k : Int) ≤ u ∧ u ≤ 100 * k) ∧ (-(100 * k : Int) ≤ v ∧ v ≤ 100 * k) ∧ Hid (u = tot2 l 0 k) ∧ Hid (v = tot2 l 1 k) ∧ wr = w1) (fun _ _ y _ => n - (intOf y).toNat)
  case atStart => exact ⟨0, 0, 0, Nat.zero_le _, rfl, rfl, rfl, by omega, by omega, rfl, rfl, rfl⟩
  case round =>
    obtain ⟨k, u, v, hk, rfl, rfl, rfl, hu, hv, HU, HV, rfl⟩ := hrel
    by_cases hlt : k < n
    · have hk0 : (0 : Int) ≤ (k : Int) := by omega
      have hk1 : (k : Int) < (n : Int) := by omega
      obtain ⟨p, hp⟩ : ∃ p, p = 2 * k := ⟨_, rfl⟩
      have hmul : 2 * (k : Int) = (p : Int) := by omega
      have hp1 : p + 1 < nx := by have := HN2.out; omega
      have hp2 : (p : Int) + 1 < (nx : Int) := by omega
      have hp3 : (p : Int) < (nx : Int) := by omega
      have hp4 : (0 : Int) ≤ (p : Int) := by omega
      obtain ⟨b1, o1, z, hA, hz, hcell, _, _, _⟩ := (HX.out.below B1.out).get (k := p) (by omega)
      obtain ⟨b2, o2, z', hA', hz', hcell', _, _, _⟩ := (HX.out.below B1.out).get (k := p + 1) hp1
      subst hA
      cases hA'
      have hzb := HOK.out.2.2 z (List.mem_of_getElem? hz)
      have hzb' := HOK.out.2.2 z' (List.mem_of_getElem? hz')
      have HU2 : Hid (u + z = tot2 l 0 (k + 1)) := by unfold Hid tot2; rw [Nat.add_zero, ← hp, hz, ← HU.out]; rfl
      have HV2 : Hid (v + z' = tot2 l 1 (k + 1)) := by unfold Hid tot2; rw [← hp, hz', ← HV.out]; rfl
      clear hz hz' hp
      go_wp2_with fail
      go_roundw
      case rel => exact ⟨k + 1, u + z, v + z', by omega, by go_num, by go_num, by go_num, by omega, by omega, HU2, HV2, by trivial⟩
      case measure => simp [intOf]; omega
    · obtain rfl : k = n := by omega
      have HF : Hid (TwoEnd (TotalOfIs js ms l) w wr (.returned (.tuple #[.int .i64 u, .int .i64 v]))) := ⟨u, v, rfl, .inl ⟨HOK.out, by rw [HLN.out]; exact HU.out, by rw [HLN.out]; exact HV.out⟩, B1.out⟩
      go_wp2_with fail
      go_ret2
      exact HF.out
theorem spec_totalOf (A : Option Addr) (n c : Nat) (js : List JD) (B : Option Addr) (m d : Nat) (ms : List MD) (X : Option Addr) (nx cx : Nat) (l : List Int) (w : World) (h : InT w A n js B m ms) (hl : InI w X nx l) :
    Calls Try.prog 36 #[.agg #[.slice A n c, .slice B m d], .slice X nx cx] w fun e w' => ∃ x y, e = .returned (.tuple #[.int .i64 x, .int .i64 y]) ∧ TotalOfIs js ms l x y ∧ Below w.heap.size w w' := spec_totalOf0 A n c js B m d ms X nx cx l w h hl
set_option maxHeartbeats 6400000 in
theorem spec_momentOf0 (A : Option Addr) (n c : Nat) (js : List JD) (B : Option Addr) (m d : Nat) (ms : List MD) (X : Option Addr) (nx cx : Nat) (l : List Int) (x y : Int) (w : World) (h : InT w A n js B m ms) (hl : InI w X nx l) :
    Calls Try.prog 37 #[.agg #[.slice A n c, .slice B m d], .slice X nx cx, .int .i64 x, .int .i64 y] w fun e w' => NumEnd (MomentOfIs js ms l x y) w w' e := by
  obtain ⟨W1, hW⟩ : ∃ W, W = w.alloc (.cells #[.slice A n c, .slice B m d] 26) := ⟨_, rfl⟩
  have X0 : Hid (Box W1 w.heap.size 26 #[.slice A n c, .slice B m d]) := by rw [hW]; exact Box.new _ _ _
  have B0 : Hid (Below w.heap.size w W1) := by rw [hW]; exact (Below.refl _ _).alloc (Nat.le_refl _) _
  have HLN : Hid (js.length = n) := h.1.1
  have HI := Lib.hid h
  have HLX : Hid (l.length = nx) := hl.1
  have hnx := hl.2.1
  have HX := Lib.hid hl
  clear h hl
  go_enter Try.func37, Try.ntmps37
  go_wp2_with fail
  rw [← hW]
  clear hW
  refine (spec_loadOk0 A n c js B m d ms X nx cx l _ (HI.out.below B0.out) (HX.out.below B0.out)).mono ?_
  rintro e w1 ⟨b, rfl, hq, hb⟩
  have X1 := Lib.hid (X0.out.below hb X0.out.lt)
  have B1 := Lib.hid (B0.out.trans (hb.mono B0.out.size))
  have HQ := Lib.hid hq
  clear hq
  clear hb
  cases b
  case false =>
    have HF : Hid (NumEnd (MomentOfIs js ms l x y) w w1 (.returned (.int .i64 0))) := ⟨0, rfl, .inr ⟨fun q => (by have := HQ.out.2 q.1; cases this), rfl⟩, B1.out⟩
    go_wp2_with fail
    go_ret
    exact HF.out
  have HOK : Hid (LdOk js ms l) := HQ.out.1 rfl
  by_cases hx : -1000 ≤ x ∧ x ≤ 1000
  case neg =>
    have HF : Hid (NumEnd (MomentOfIs js ms l x y) w w1 (.returned (.int .i64 0))) := ⟨0, rfl, .inr ⟨fun q => hx q.2.1, rfl⟩, B1.out⟩
    have HNX := Lib.hid hx
    clear hx
    go_wp2_with fail
    refine (l01In_no x (-1000) 1000 _ HNX.out).mono ?_
    rintro e w2 ⟨rfl, rfl⟩
    go_wp2_with fail
    go_ret
    exact HF.out
  go_wp2_with fail
  refine (l01In_yes x (-1000) 1000 _ (by omega) (by omega)).mono ?_
  rintro e w2 ⟨rfl, rfl⟩
  by_cases hy : -1000 ≤ y ∧ y ≤ 1000
  case neg =>
    have HF : Hid (NumEnd (MomentOfIs js ms l x y) w w2 (.returned (.int .i64 0))) := ⟨0, rfl, .inr ⟨fun q => hy q.2.2, rfl⟩, B1.out⟩
    have HNX := Lib.hid hy
    clear hy
    go_wp2_with fail
    refine (l01In_no y (-1000) 1000 _ HNX.out).mono ?_
    rintro e w3 ⟨rfl, rfl⟩
    go_wp2_with fail
    go_ret
    exact HF.out
  go_wp2_with fail
  refine (l01In_yes y (-1000) 1000 _ (by omega) (by omega)).mono ?_
  rintro e w3 ⟨rfl, rfl⟩
  have hn6 : n ≤ 6 := by have := HOK.out.1.six; have := HLN.out; omega
  have hnx2 : nx = 2 * n := by have h1 := HOK.out.2.1; rw [HLN.out, HLX.out] at h1; exact h1
  have HN2 := Lib.hid hnx2
  have HMO : Hid (MomOk js ms l x y) := ⟨HOK.out, hx, hy⟩
  clear hnx2
  have e0 := X1.out.cell 0
  have e1 := X1.out.cell 1
  simp at e0 e1
  go_wp2_with fail
  clear e0 e1
  go_loopw [9, 29] (fun a y1 wr => ∃ (k : Nat) (u : Int), k ≤ n ∧ y1 = .int .i64 k ∧ a = .int .i64 u ∧ (-(210000 * k : Int) ≤ u ∧ u ≤ 210000 * k) ∧ Hid (u = mom js l x y k) ∧ Hid (Below w.heap.size w wr)) (fun _ y1 _ => n - (intOf y1).toNat)
  case atStart => exact ⟨0, 0, Nat.zero_le _, rfl, rfl, by omega, rfl, B1⟩
  case round =>
    obtain ⟨k, u, hk, rfl, rfl, hu, HU, HB⟩ := hrel
    by_cases hlt : k < n
    · have hk0 : (0 : Int) ≤ (k : Int) := by omega
      have hk1 : (k : Int) < (n : Int) := by omega
      obtain ⟨p, hp⟩ : ∃ p, p = 2 * k := ⟨_, rfl⟩
      have hmul : 2 * (k : Int) = (p : Int) := by omega
      have hp1 : p + 1 < nx := by have := HN2.out; omega
      have hp2 : (p : Int) + 1 < (nx : Int) := by omega
      have hp3 : (p : Int) < (nx : Int) := by omega
      have hp4 : (0 : Int) ≤ (p : Int) := by omega
      obtain ⟨bj, oj, rfl, hbj, ⟨s, jx1, jy1, f⟩, hj, ⟨e0, e1, e2, e3⟩, _⟩ := (HI.out.1.below HB.out).at_ k hlt
      simp only at e0 e1 e2 e3
      obtain ⟨wa, hwa⟩ : ∃ W, W = wr.alloc (.cells #[.string s, .int .i64 jx1, .int .i64 jy1, .bool f] 79) := ⟨_, rfl⟩
      obtain ⟨ga, hga⟩ : ∃ g, g = wr.heap.size := ⟨_, rfl⟩
      have hba : Below wr.heap.size wr wa := by rw [hwa]; exact (Below.refl _ _).alloc (Nat.le_refl _) _
      have XA : Hid (Box wa ga 79 #[.string s, .int .i64 jx1, .int .i64 jy1, .bool f]) := by rw [hwa, hga]; exact Box.new _ _ _
      have HBA := Lib.hid (HB.out.trans (hba.mono HB.out.size))
      obtain ⟨b1, o1, z, hA, hz, hcell, _, _, _⟩ := (HX.out.below HBA.out).get (k := p) (by omega)
      obtain ⟨b2, o2, z', hA', hz', hcell', _, _, _⟩ := (HX.out.below HBA.out).get (k := p + 1) hp1
      subst hA
      cases hA'
      have hpt := mom_parts HMO.out.1 HMO.out.2.1 HMO.out.2.2 k
      rw [jx_of hj, jy_of hj, ← hp, hz, hz'] at hpt
      simp only [Option.getD_some] at hpt
      obtain ⟨hq1, hq2, hq3, hq4⟩ := hpt
      obtain ⟨g1, hg1⟩ : ∃ g, g = (jx1 - x) * z' := ⟨_, rfl⟩
      obtain ⟨g2, hg2⟩ : ∃ g, g = (jy1 - y) * z := ⟨_, rfl⟩
      rw [← hg1] at hq3
      rw [← hg2] at hq4
      have HU2 : Hid (u + g1 - g2 = mom js l x y (k + 1)) := by unfold Hid mom; rw [jx_of hj, jy_of hj, ← hp, hz, hz', ← HU.out, hg1, hg2]; rfl
      have HU3 : Hid (u + (g1 - g2) = mom js l x y (k + 1)) := by have := HU2.out; unfold Hid; omega
      have HQ : Hid (∀ q, Below w.heap.size w (wa.drewN q)) := fun q => below_drewN HBA.out q
      have hw1 : IntKind.i64.wrap ((jx1 - x) * z') = g1 := by rw [← hg1, IntKind.wrap_i64]; omega
      have hw2 : IntKind.i64.wrap ((jy1 - y) * z) = g2 := by rw [← hg2, IntKind.wrap_i64]; omega
      clear hz hz' hp hg1 hg2 hj hba HB
      go_upto_region 7 with fail
      rw [← hwa, ← hga]
      clear hwa hga e0 e1 e2 e3
      have a1 := XA.out.cell 1
      have a2 := XA.out.cell 2
      simp at a1 a2
      go_wp2_with fail
      go_quiet (fail)
      go_wp2_with fail
      go_roundw
      case rel => exact ⟨k + 1, _, by omega, by go_num, rfl, by omega, by first | exact HU2 | exact HU3, HQ.out _⟩
      case measure => simp [intOf]; omega
    · obtain rfl : k = n := by omega
      have HF : Hid (NumEnd (MomentOfIs js ms l x y) w wr (.returned (.int .i64 u))) := ⟨u, rfl, .inl ⟨HMO.out, by rw [HLN.out]; exact HU.out⟩, HB.out⟩
      go_wp2_with fail
      go_ret
      exact HF.out
theorem spec_momentOf (A : Option Addr) (n c : Nat) (js : List JD) (B : Option Addr) (m d : Nat) (ms : List MD) (X : Option Addr) (nx cx : Nat) (l : List Int) (x y : Int) (w : World) (h : InT w A n js B m ms) (hl : InI w X nx l) (_hx : -9223372036854775808 ≤ x ∧ x ≤ 9223372036854775807) (_hy : -9223372036854775808 ≤ y ∧ y ≤ 9223372036854775807) :
    Calls Try.prog 37 #[.agg #[.slice A n c, .slice B m d], .slice X nx cx, .int .i64 x, .int .i64 y] w fun e w' => ∃ r, e = .returned (.int .i64 r) ∧ MomentOfIs js ms l x y r ∧ Below w.heap.size w w' := spec_momentOf0 A n c js B m d ms X nx cx l x y w h hl
end Go.Proofs.Ytipmeijfmiiedaa
