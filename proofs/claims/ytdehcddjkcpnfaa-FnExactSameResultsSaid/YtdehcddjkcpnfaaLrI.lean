/- SameResults, by the program and by the model. -/
import Derived.Test.YtdehcddjkcpnfaaLrM
import Derived.Test.YtdehcddjkcpnfaaGW
import Derived.Test.YtdehcddjkcpnfaaVecE2
import Derived.Test.YtdehcddjkcpnfaaGF
namespace Go.Proofs.Ytdehcddjkcpnfaa
open Go.RowKit

def SameResultsIs (p : Int) (rs : List RD) (g : Bool) (xs ys : List Int) (p' : Int) (rs' : List RD) (g' : Bool) (xs' ys' : List Int) (b : Bool) : Prop :=
  b = true ↔ p = p' ∧ rs = rs' ∧ (g = g' ∧ xs = xs' ∧ ys = ys')
theorem sameResults_unique {p p' : Int} {rs rs' : List RD} {g g' : Bool} {xs ys xs' ys' : List Int} {b b' : Bool} (h : SameResultsIs p rs g xs ys p' rs' g' xs' ys' b) (h' : SameResultsIs p rs g xs ys p' rs' g' xs' ys' b') : b = b' := by
  unfold SameResultsIs at h h'
  rw [Bool.eq_iff_iff, h, h']
set_option maxHeartbeats 3200000 in
theorem spec_sameResults (p1 : Int) (X1 : Option Addr) (n1 c1 : Nat) (rs1 : List RD) (g1 : Bool) (A1 : Option Addr) (m1 d1 : Nat) (xs1 : List Int) (B1 : Option Addr) (l1 f1 : Nat) (ys1 : List Int) (p2 : Int) (X2 : Option Addr) (n2 c2 : Nat) (rs2 : List RD) (g2 : Bool) (A2 : Option Addr) (m2 d2 : Nat) (xs2 : List Int) (B2 : Option Addr) (l2 f2 : Nat) (ys2 : List Int) (w : World) (h1 : InV w X1 n1 rs1) (i1 : InI w A1 m1 xs1) (r1 : Room A1 m1 d1) (j1 : InI w B1 l1 ys1) (s1 : Room B1 l1 f1) (h2 : InV w X2 n2 rs2) (i2 : InI w A2 m2 xs2) (r2 : Room A2 m2 d2) (j2 : InI w B2 l2 ys2) (s2 : Room B2 l2 f2) :
    Calls Try.prog 5 #[.agg #[.int .i64 p1, .slice X1 n1 c1, .bool g1, .slice A1 m1 d1, .slice B1 l1 f1], .agg #[.int .i64 p2, .slice X2 n2 c2, .bool g2, .slice A2 m2 d2, .slice B2 l2 f2]] w fun e w' => ∃ b, e = .returned (.bool b) ∧ SameResultsIs p1 rs1 g1 xs1 ys1 p2 rs2 g2 xs2 ys2 b ∧ Below w.heap.size w w' := by
  obtain ⟨W, hW⟩ : ∃ W, W = (w.alloc (.cells #[.int .i64 p1, .slice X1 n1 c1, .bool g1, .slice A1 m1 d1, .slice B1 l1 f1] 37)).alloc (.cells #[.int .i64 p2, .slice X2 n2 c2, .bool g2, .slice A2 m2 d2, .slice B2 l2 f2] 37) := ⟨_, rfl⟩
  have hp0_0 : Hid (Box W w.heap.size 37 #[.int .i64 p1, .slice X1 n1 c1, .bool g1, .slice A1 m1 d1, .slice B1 l1 f1]) := by rw [hW]; exact (Box.new _ _ _).alloc _
  have hp1_0 : Hid (Box W (w.heap.size + 1) 37 #[.int .i64 p2, .slice X2 n2 c2, .bool g2, .slice A2 m2 d2, .slice B2 l2 f2]) := by rw [hW]; exact Box.at' (by simp)
  have BW_0 : Hid (Below w.heap.size w W) := by rw [hW]; exact ((Below.refl _ _).alloc (Nat.le_refl _) _).alloc (by simp) _
  have H1 := Lib.hid (h1.below BW_0.out)
  have H2 := Lib.hid (h2.below BW_0.out)
  have I1 := Lib.hid (i1.below BW_0.out)
  have I2 := Lib.hid (i2.below BW_0.out)
  have J1 := Lib.hid (j1.below BW_0.out)
  have J2 := Lib.hid (j2.below BW_0.out)
  have R1 := Lib.hid r1
  have R2 := Lib.hid r2
  have S1 := Lib.hid s1
  have S2 := Lib.hid s2
  clear h1 h2 i1 i2 j1 j2 r1 r2 s1 s2
  by_cases hpp : p1 = p2
  case neg =>
    have hp : (p1 == p2) = false := by simpa using hpp
    go_enter Try.func5, Try.ntmps5
    go_wp2_with fail
    go_ret
    exact ⟨false, rfl, ⟨fun h => (by cases h), fun h => absurd h.1 hpp⟩, by rw [← hW]; exact BW_0.out⟩
  subst hpp
  have hp : (p1 == p1) = true := by simp
  go_enter Try.func5, Try.ntmps5
  go_wp2_with fail
  rw [← hW]
  clear hW
  refine (spec_equalVectors X1 n1 c1 rs1 X2 n2 c2 rs2 _ H1.out H2.out).mono ?_
  rintro e w1 ⟨b1, rfl, q1, hb⟩
  have hp0_1 := Lib.hid (hp0_0.out.below hb hp0_0.out.lt)
  have hp1_1 := Lib.hid (hp1_0.out.below hb hp1_0.out.lt)
  have BW_1 := Lib.hid (BW_0.out.trans (hb.mono BW_0.out.size))
  replace I1 := Lib.hid (I1.out.below hb)
  replace I2 := Lib.hid (I2.out.below hb)
  replace J1 := Lib.hid (J1.out.below hb)
  replace J2 := Lib.hid (J2.out.below hb)
  clear hb
  cases b1
  case false =>
    have HF : Hid (SameResultsIs p1 rs1 g1 xs1 ys1 p1 rs2 g2 xs2 ys2 false) := ⟨fun h => (by cases h), fun h => by have := q1.2 h.2.1; cases this⟩
    clear q1
    go_wp2_with fail
    go_ret
    exact ⟨false, rfl, HF.out, BW_1.out⟩
  have Q1 := Lib.hid (q1.1 rfl)
  clear q1
  have ehp00 := hp0_1.out.cell 0
  have ehp01 := hp0_1.out.cell 1
  have ehp02 := hp0_1.out.cell 2
  have ehp03 := hp0_1.out.cell 3
  have ehp04 := hp0_1.out.cell 4
  have ehp10 := hp1_1.out.cell 0
  have ehp11 := hp1_1.out.cell 1
  have ehp12 := hp1_1.out.cell 2
  have ehp13 := hp1_1.out.cell 3
  have ehp14 := hp1_1.out.cell 4
  simp at ehp00 ehp01 ehp02 ehp03 ehp04 ehp10 ehp11 ehp12 ehp13 ehp14
  go_wp2_with fail
  clear ehp00 ehp01 ehp02 ehp03 ehp04 ehp10 ehp11 ehp12 ehp13 ehp14
  refine (spec_ratEqual g1 A1 m1 d1 xs1 B1 l1 f1 ys1 g2 A2 m2 d2 xs2 B2 l2 f2 ys2 _ I1.out R1.out J1.out S1.out I2.out R2.out J2.out S2.out).mono ?_
  rintro e w2 ⟨b2, rfl, q2, hb⟩
  have BW_2 := Lib.hid (BW_1.out.trans (hb.mono BW_1.out.size))
  have HF : Hid (SameResultsIs p1 rs1 g1 xs1 ys1 p1 rs2 g2 xs2 ys2 b2) := ⟨fun h => ⟨rfl, Q1.out, q2.1 h⟩, fun h => q2.2 h.2.2⟩
  clear q2 hb
  go_wp2_with fail
  go_ret
  exact ⟨b2, rfl, HF.out, BW_2.out⟩
set_option maxHeartbeats 3200000 in
theorem impl_sameResults (p1 : Int) (X1 : Option Addr) (n1 c1 : Nat) (rs1 : List RD) (g1 : Bool) (A1 : Option Addr) (m1 d1 : Nat) (xs1 : List Int) (B1 : Option Addr) (l1 f1 : Nat) (ys1 : List Int) (p2 : Int) (X2 : Option Addr) (n2 c2 : Nat) (rs2 : List RD) (g2 : Bool) (A2 : Option Addr) (m2 d2 : Nat) (xs2 : List Int) (B2 : Option Addr) (l2 f2 : Nat) (ys2 : List Int) (w : World) (h1 : InV w X1 n1 rs1) (i1 : InI w A1 m1 xs1) (r1 : Room A1 m1 d1) (j1 : InI w B1 l1 ys1) (s1 : Room B1 l1 f1) (h2 : InV w X2 n2 rs2) (i2 : InI w A2 m2 xs2) (r2 : Room A2 m2 d2) (j2 : InI w B2 l2 ys2) (s2 : Room B2 l2 f2) :
    Calls Try.prog 7 #[.agg #[.int .i64 p1, .slice X1 n1 c1, .bool g1, .slice A1 m1 d1, .slice B1 l1 f1], .agg #[.int .i64 p2, .slice X2 n2 c2, .bool g2, .slice A2 m2 d2, .slice B2 l2 f2]] w fun e w' => ∃ b, e = .returned (.bool b) ∧ SameResultsIs p1 rs1 g1 xs1 ys1 p2 rs2 g2 xs2 ys2 b ∧ Below w.heap.size w w' := by
  obtain ⟨W, hW⟩ : ∃ W, W = (w.alloc (.cells #[.int .i64 p1, .slice X1 n1 c1, .bool g1, .slice A1 m1 d1, .slice B1 l1 f1] 37)).alloc (.cells #[.int .i64 p2, .slice X2 n2 c2, .bool g2, .slice A2 m2 d2, .slice B2 l2 f2] 37) := ⟨_, rfl⟩
  have hp0_0 : Hid (Box W w.heap.size 37 #[.int .i64 p1, .slice X1 n1 c1, .bool g1, .slice A1 m1 d1, .slice B1 l1 f1]) := by rw [hW]; exact (Box.new _ _ _).alloc _
  have hp1_0 : Hid (Box W (w.heap.size + 1) 37 #[.int .i64 p2, .slice X2 n2 c2, .bool g2, .slice A2 m2 d2, .slice B2 l2 f2]) := by rw [hW]; exact Box.at' (by simp)
  have BW_0 : Hid (Below w.heap.size w W) := by rw [hW]; exact ((Below.refl _ _).alloc (Nat.le_refl _) _).alloc (by simp) _
  have H1 := Lib.hid (h1.below BW_0.out)
  have H2 := Lib.hid (h2.below BW_0.out)
  have I1 := Lib.hid (i1.below BW_0.out)
  have I2 := Lib.hid (i2.below BW_0.out)
  have J1 := Lib.hid (j1.below BW_0.out)
  have J2 := Lib.hid (j2.below BW_0.out)
  have R1 := Lib.hid r1
  have R2 := Lib.hid r2
  have S1 := Lib.hid s1
  have S2 := Lib.hid s2
  clear h1 h2 i1 i2 j1 j2 r1 r2 s1 s2
  by_cases hpp : p1 = p2
  case neg =>
    have hp : (p1 == p2) = false := by simpa using hpp
    go_enter Try.func7, Try.ntmps7
    go_wp2_with fail
    go_ret
    exact ⟨false, rfl, ⟨fun h => (by cases h), fun h => absurd h.1 hpp⟩, by rw [← hW]; exact BW_0.out⟩
  subst hpp
  have hp : (p1 == p1) = true := by simp
  go_enter Try.func7, Try.ntmps7
  go_wp2_with fail
  rw [← hW]
  clear hW
  refine (impl_equalVectors X1 n1 c1 rs1 X2 n2 c2 rs2 _ H1.out H2.out).mono ?_
  rintro e w1 ⟨b1, rfl, q1, hb⟩
  have hp0_1 := Lib.hid (hp0_0.out.below hb hp0_0.out.lt)
  have hp1_1 := Lib.hid (hp1_0.out.below hb hp1_0.out.lt)
  have BW_1 := Lib.hid (BW_0.out.trans (hb.mono BW_0.out.size))
  replace I1 := Lib.hid (I1.out.below hb)
  replace I2 := Lib.hid (I2.out.below hb)
  replace J1 := Lib.hid (J1.out.below hb)
  replace J2 := Lib.hid (J2.out.below hb)
  clear hb
  cases b1
  case false =>
    have HF : Hid (SameResultsIs p1 rs1 g1 xs1 ys1 p1 rs2 g2 xs2 ys2 false) := ⟨fun h => (by cases h), fun h => by have := q1.2 h.2.1; cases this⟩
    clear q1
    go_wp2_with fail
    go_ret
    exact ⟨false, rfl, HF.out, BW_1.out⟩
  have Q1 := Lib.hid (q1.1 rfl)
  clear q1
  have ehp00 := hp0_1.out.cell 0
  have ehp01 := hp0_1.out.cell 1
  have ehp02 := hp0_1.out.cell 2
  have ehp03 := hp0_1.out.cell 3
  have ehp04 := hp0_1.out.cell 4
  have ehp10 := hp1_1.out.cell 0
  have ehp11 := hp1_1.out.cell 1
  have ehp12 := hp1_1.out.cell 2
  have ehp13 := hp1_1.out.cell 3
  have ehp14 := hp1_1.out.cell 4
  simp at ehp00 ehp01 ehp02 ehp03 ehp04 ehp10 ehp11 ehp12 ehp13 ehp14
  go_wp2_with fail
  clear ehp00 ehp01 ehp02 ehp03 ehp04 ehp10 ehp11 ehp12 ehp13 ehp14
  refine (impl_ratEqual g1 A1 m1 d1 xs1 B1 l1 f1 ys1 g2 A2 m2 d2 xs2 B2 l2 f2 ys2 _ I1.out R1.out J1.out S1.out I2.out R2.out J2.out S2.out).mono ?_
  rintro e w2 ⟨b2, rfl, q2, hb⟩
  have BW_2 := Lib.hid (BW_1.out.trans (hb.mono BW_1.out.size))
  have HF : Hid (SameResultsIs p1 rs1 g1 xs1 ys1 p1 rs2 g2 xs2 ys2 b2) := ⟨fun h => ⟨rfl, Q1.out, q2.1 h⟩, fun h => q2.2 h.2.2⟩
  clear q2 hb
  go_wp2_with fail
  go_ret
  exact ⟨b2, rfl, HF.out, BW_2.out⟩
end Go.Proofs.Ytdehcddjkcpnfaa
