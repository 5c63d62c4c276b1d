/- What the laws ask of a program handed back: held, in memory of its own; the contracts of the two programs that search for certificates, as the laws take them. -/
import Derived.Test.YtcmbfgaojlnjcaaFarS3
import Derived.Test.YtcmbfgaojlnjcaaFarI7
namespace Go.Proofs.Ytcmbfgaojlnjcaa
set_option maxRecDepth 100000
open Go.RowKit

/-- A program handed back whose lists are not long. -/
def ResPS (w w' : World) (v : Value) (la : List Int) (u : Value) (lb : List Int) (t : Value) (lc : List Int) : Prop := ResP w w' v la u lb t lc ∧ la.length ≤ 1048576 ∧ lb.length ≤ 1048576 ∧ lc.length ≤ 1048576
def PFits (n : Nat) (la : List Int) (m : Nat) (lb : List Int) (l : Nat) (lc : List Int) : Prop := la.length = n ∧ lb.length = m ∧ lc.length = l ∧ I64s la ∧ I64s lb ∧ I64s lc
theorem pinr {F : Nat → Prop} {w : World} {base : Nat} {A B C : Option Addr} {n c m d l e : Nat} {la lb lc : List Int} (h : Hid (Holds w F fun w => OwnP w base A n c (la.map (.int .i64)) B m d (lb.map (.int .i64)) C l e (lc.map (.int .i64)))) (hi : Hid (PFits n la m lb l lc)) (hn : n ≤ 1048576) (hm : m ≤ 1048576) (hl : l ≤ 1048576) : InP w A n la B m lb C l lc :=
  ⟨⟨hi.out.1, hn, Reads.of_own (prow1 h), hi.out.2.2.2.1⟩, ⟨hi.out.2.1, hm, Reads.of_own (prow2 h), hi.out.2.2.2.2.1⟩, ⟨hi.out.2.2.1, hl, Reads.of_own (prow3 h), hi.out.2.2.2.2.2⟩⟩
set_option maxHeartbeats 3200000 in
theorem heldProgram_same (p k : Int) (A : Option Addr) (n c : Nat) (B : Option Addr) (m d : Nat) (C : Option Addr) (l f K : Nat) (w : World) (hK : K + n + m + l < maxLen) (h1 : Reads w A (marks markI K n)) (h2 : Reads w B (marks markI (K + n) m)) (h3 : Reads w C (marks markI (K + n + m) l)) :
    Calls Try.prog 20 #[.agg #[.int .i64 p, .int .i64 k, .slice A n c, .slice B m d, .slice C l f], .int .i64 K] w fun e w' => e = .returned (.int .i64 ((K + n + m + l : Nat) : Int)) ∧ Below w.heap.size w w' := by
  obtain ⟨W0, hW0⟩ : ∃ W, W = (w.alloc (.cells #[.int .i64 p, .int .i64 k, .slice A n c, .slice B m d, .slice C l f] 26)) := ⟨_, rfl⟩
  have hp0_0 : Hid (Box W0 (w.heap.size) 26 #[.int .i64 p, .int .i64 k, .slice A n c, .slice B m d, .slice C l f]) := by rw [hW0]; exact (Box.at' (by simp))
  have BW_0 : Hid (Below w.heap.size w W0) := by rw [hW0]; exact ((Below.refl w.heap.size w).alloc (by simp) _)
  have hsz0 : w.heap.size + 1 ≤ W0.heap.size := by rw [hW0]; simp
  have H1 := Lib.hid (h1.below BW_0.out)
  have H2 := Lib.hid (h2.below BW_0.out)
  have H3 := Lib.hid (h3.below BW_0.out)
  clear h1 h2 h3
  have hn1 : ¬ ((K + n : Nat) : Int) < 0 := by omega
  have hn2 : ¬ ((K + n + m : Nat) : Int) < 0 := by omega
  have hn3 : ¬ ((K + n + m + l : Nat) : Int) < 0 := by omega
  go_enter Try.func20, Try.ntmps20
  have ehp00 := hp0_0.out.cell 0
  have ehp01 := hp0_0.out.cell 1
  have ehp02 := hp0_0.out.cell 2
  have ehp03 := hp0_0.out.cell 3
  have ehp04 := hp0_0.out.cell 4
  simp at ehp00 ehp01 ehp02 ehp03 ehp04
  go_wp2_with fail
  clear ehp00 ehp01 ehp02 ehp03 ehp04
  rw [← hW0]
  clear hW0
  refine (heldIntS_same A n c K _ (by omega) H1.out).mono ?_
  rintro e w1 ⟨rfl, hb⟩
  have H2' := Lib.hid (H2.out.below hb)
  have H3' := Lib.hid (H3.out.below hb)
  have hp0_1 := Lib.hid (hp0_0.out.below hb hp0_0.out.lt)
  have BW_1 := Lib.hid (BW_0.out.trans (hb.mono BW_0.out.size))
  clear hb
  have ehp00 := hp0_1.out.cell 0
  have ehp01 := hp0_1.out.cell 1
  have ehp02 := hp0_1.out.cell 2
  have ehp03 := hp0_1.out.cell 3
  have ehp04 := hp0_1.out.cell 4
  simp at ehp00 ehp01 ehp02 ehp03 ehp04
  go_wp2_with fail
  clear ehp00 ehp01 ehp02 ehp03 ehp04
  refine (heldIntS_same B m d (K + n) _ (by omega) H2'.out).mono ?_
  rintro e w2 ⟨rfl, hb⟩
  have H3'' := Lib.hid (H3'.out.below hb)
  have hp0_2 := Lib.hid (hp0_1.out.below hb hp0_1.out.lt)
  have BW_2 := Lib.hid (BW_1.out.trans (hb.mono BW_1.out.size))
  clear hb
  have ehp00 := hp0_2.out.cell 0
  have ehp01 := hp0_2.out.cell 1
  have ehp02 := hp0_2.out.cell 2
  have ehp03 := hp0_2.out.cell 3
  have ehp04 := hp0_2.out.cell 4
  simp at ehp00 ehp01 ehp02 ehp03 ehp04
  go_wp2_with fail
  clear ehp00 ehp01 ehp02 ehp03 ehp04
  refine (heldIntS_same C l f (K + n + m) _ (by omega) H3''.out).mono ?_
  rintro e w3 ⟨rfl, hb⟩
  have hp0_3 := Lib.hid (hp0_2.out.below hb hp0_2.out.lt)
  have BW_3 := Lib.hid (BW_2.out.trans (hb.mono BW_2.out.size))
  clear hb
  go_wp2_with fail
  go_ret
  exact ⟨rfl, BW_3.out⟩
theorem far_small {P : LP} {p k : Int} {la lb lc : List Int} (h : SearchIs P (farkasP P) ⟨p, k, la, lb, lc⟩) : la.length ≤ 1048576 ∧ lb.length ≤ 1048576 ∧ lc.length ≤ 1048576 := by
  rcases h with ⟨hf, e⟩ | ⟨_, e⟩
  · obtain ⟨p0, k0, la0, lb0, lc0⟩ := P
    obtain ⟨P', K, hP, hK, _, _, _, hlb, _⟩ := hf.1.nats
    simp only at hP hK hlb
    subst hP hK
    have h9 : P' ≤ 9 := by have := hf.2.1; simp only at this; omega
    have h16 : K ≤ 16 := by have := hf.2.2; simp only at this; omega
    have hfr : (frows K la0 P' K).length ≤ 544 := frows_le (Nat.le_refl _) h9 h16
    simp only [farkasP, LP.mk.injEq] at e
    obtain ⟨_, _, rfl, rfl, rfl⟩ := e
    refine ⟨?_, ?_, ?_⟩
    · simp [ineg_length, hlb] at hfr ⊢; omega
    · simp; omega
    · simp; omega
  · simp only [LP.mk.injEq] at e
    obtain ⟨_, _, rfl, rfl, rfl⟩ := e
    simp
theorem dual_small {P : LP} {p k : Int} {la lb lc : List Int} (h : SearchIs P (dualP P) ⟨p, k, la, lb, lc⟩) : la.length ≤ 1048576 ∧ lb.length ≤ 1048576 ∧ lc.length ≤ 1048576 := by
  rcases h with ⟨hf, e⟩ | ⟨_, e⟩
  · obtain ⟨p0, k0, la0, lb0, lc0⟩ := P
    obtain ⟨P', K, hP, hK, _, _, _, hlb, hlc⟩ := hf.1.nats
    simp only at hP hK hlb hlc
    subst hP hK
    have h9 : P' ≤ 9 := by have := hf.2.1; simp only at this; omega
    have h16 : K ≤ 16 := by have := hf.2.2; simp only at this; omega
    have hfr : (frows K la0 P' K).length ≤ 544 := frows_le (Nat.le_refl _) h9 h16
    simp only [dualP, LP.mk.injEq] at e
    obtain ⟨_, _, rfl, rfl, rfl⟩ := e
    refine ⟨?_, ?_, ?_⟩
    · simp at hfr ⊢; omega
    · omega
    · simp [ineg_length, hlb]; omega
  · simp only [LP.mk.injEq] at e
    obtain ⟨_, _, rfl, rfl, rfl⟩ := e
    simp
theorem spec_farkasProgram (p k : Int) (A : Option Addr) (n c : Nat) (la : List Int) (B : Option Addr) (m d : Nat) (lb : List Int) (C : Option Addr) (l f : Nat) (lc : List Int) (w : World) (h : InP w A n la B m lb C l lc) (_hp : -9223372036854775808 ≤ p ∧ p ≤ 9223372036854775807) (_hk : -9223372036854775808 ≤ k ∧ k ≤ 9223372036854775807) (_hc : n ≤ c) :
    Calls Try.prog 15 #[.agg #[.int .i64 p, .int .i64 k, .slice A n c, .slice B m d, .slice C l f]] w fun e w' => ∃ p1 k1 la1 v lb1 u lc1 t, e = .returned (.agg #[.int .i64 p1, .int .i64 k1, v, u, t]) ∧ FarkasProgramIs p k la lb lc p1 k1 la1 lb1 lc1 ∧ ResPS w w' v la1 u lb1 t lc1 ∧ Below w.heap.size w w' :=
  (spec_farkasProgram0 p k A n c la B m d lb C l f lc w h).mono fun _ _ ⟨p1, k1, la1, v, lb1, u, lc1, t, h1, h2, h3, h4⟩ => ⟨p1, k1, la1, v, lb1, u, lc1, t, h1, h2, ⟨h3, far_small h2⟩, h4⟩
theorem impl_farkasProgram (p k : Int) (A : Option Addr) (n c : Nat) (la : List Int) (B : Option Addr) (m d : Nat) (lb : List Int) (C : Option Addr) (l f : Nat) (lc : List Int) (w : World) (h : InP w A n la B m lb C l lc) (_hp : -9223372036854775808 ≤ p ∧ p ≤ 9223372036854775807) (_hk : -9223372036854775808 ≤ k ∧ k ≤ 9223372036854775807) (hc : n ≤ c) :
    Calls Try.prog 17 #[.agg #[.int .i64 p, .int .i64 k, .slice A n c, .slice B m d, .slice C l f]] w fun e w' => ∃ p1 k1 la1 v lb1 u lc1 t, e = .returned (.agg #[.int .i64 p1, .int .i64 k1, v, u, t]) ∧ FarkasProgramIs p k la lb lc p1 k1 la1 lb1 lc1 ∧ ResPS w w' v la1 u lb1 t lc1 ∧ Below w.heap.size w w' :=
  (impl_farkasProgram0 p k A n c la B m d lb C l f lc w h hc).mono fun _ _ ⟨p1, k1, la1, v, lb1, u, lc1, t, h1, h2, h3, h4⟩ => ⟨p1, k1, la1, v, lb1, u, lc1, t, h1, h2, ⟨h3, far_small h2⟩, h4⟩
theorem spec_dualProgram (p k : Int) (A : Option Addr) (n c : Nat) (la : List Int) (B : Option Addr) (m d : Nat) (lb : List Int) (C : Option Addr) (l f : Nat) (lc : List Int) (w : World) (h : InP w A n la B m lb C l lc) (_hp : -9223372036854775808 ≤ p ∧ p ≤ 9223372036854775807) (_hk : -9223372036854775808 ≤ k ∧ k ≤ 9223372036854775807) (_hc : n ≤ c) :
    Calls Try.prog 21 #[.agg #[.int .i64 p, .int .i64 k, .slice A n c, .slice B m d, .slice C l f]] w fun e w' => ∃ p1 k1 la1 v lb1 u lc1 t, e = .returned (.agg #[.int .i64 p1, .int .i64 k1, v, u, t]) ∧ DualProgramIs p k la lb lc p1 k1 la1 lb1 lc1 ∧ ResPS w w' v la1 u lb1 t lc1 ∧ Below w.heap.size w w' :=
  (spec_dualProgram0 p k A n c la B m d lb C l f lc w h).mono fun _ _ ⟨p1, k1, la1, v, lb1, u, lc1, t, h1, h2, h3, h4⟩ => ⟨p1, k1, la1, v, lb1, u, lc1, t, h1, h2, ⟨h3, dual_small h2⟩, h4⟩
theorem impl_dualProgram (p k : Int) (A : Option Addr) (n c : Nat) (la : List Int) (B : Option Addr) (m d : Nat) (lb : List Int) (C : Option Addr) (l f : Nat) (lc : List Int) (w : World) (h : InP w A n la B m lb C l lc) (_hp : -9223372036854775808 ≤ p ∧ p ≤ 9223372036854775807) (_hk : -9223372036854775808 ≤ k ∧ k ≤ 9223372036854775807) (hc : n ≤ c) :
    Calls Try.prog 22 #[.agg #[.int .i64 p, .int .i64 k, .slice A n c, .slice B m d, .slice C l f]] w fun e w' => ∃ p1 k1 la1 v lb1 u lc1 t, e = .returned (.agg #[.int .i64 p1, .int .i64 k1, v, u, t]) ∧ DualProgramIs p k la lb lc p1 k1 la1 lb1 lc1 ∧ ResPS w w' v la1 u lb1 t lc1 ∧ Below w.heap.size w w' :=
  (impl_dualProgram0 p k A n c la B m d lb C l f lc w h hc).mono fun _ _ ⟨p1, k1, la1, v, lb1, u, lc1, t, h1, h2, h3, h4⟩ => ⟨p1, k1, la1, v, lb1, u, lc1, t, h1, h2, ⟨h3, dual_small h2⟩, h4⟩
end Go.Proofs.Ytcmbfgaojlnjcaa
