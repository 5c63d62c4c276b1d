/- Fractions as values: what the helpers of the laws do with them (copied, equal, marked, held, counted). -/
import Derived.Test.YtjggdbakbhacjaaBigLaw
import Derived.Test.YtjggdbakbhacjaaRat
namespace Go.Proofs.Ytjggdbakbhacjaa
set_option maxRecDepth 100000
open Go.RowKit

theorem Box.at' {w : World} {g : Nat} {t : TypeId} {cs : Array Value} (h : g = w.heap.size) : Box (w.alloc (.cells cs t)) g t cs := by subst h; exact Box.new _ _ _
theorem own_store3 {w : World} {g base : Nat} {t E : TypeId} {cs : Array Value} {size n : Nat} {v : Value} {xs : List Value} (o : w.ownsRow base E size v n xs) (h : Box w g t cs) (hne : E ≠ t) (u0 u1 u2 : Value) :
    (((w.setCell ⟨g, 0, none⟩ u0).setCell ⟨g, 1, none⟩ u1).setCell ⟨g, 2, none⟩ u2).ownsRow base E size v n xs :=
  own_box (own_box (own_box o h 0 u0 hne) (h.set_ 0 u0) 1 u1 hne) ((h.set_ 0 u0).set_ 1 u1) 2 u2 hne
theorem own_store2 {w : World} {g base : Nat} {t E : TypeId} {cs : Array Value} {size n : Nat} {v : Value} {xs : List Value} (o : w.ownsRow base E size v n xs) (h : Box w g t cs) (hne : E ≠ t) (u0 u1 : Value) :
    ((w.setCell ⟨g, 0, none⟩ u0).setCell ⟨g, 1, none⟩ u1).ownsRow base E size v n xs :=
  own_box (own_box o h 0 u0 hne) (h.set_ 0 u0) 1 u1 hne
theorem below_store3 {w W : World} {g : Nat} (hb : Below w.heap.size w W) (hg : w.heap.size ≤ g) (u0 u1 u2 : Value) : Below w.heap.size w (((W.setCell ⟨g, 0, none⟩ u0).setCell ⟨g, 1, none⟩ u1).setCell ⟨g, 2, none⟩ u2) := ((hb.setCell hg _).setCell hg _).setCell hg _
theorem apart_older' {w w1 : World} {base : Nat} {E E' : TypeId} {s s' n n' : Nat} {v u : Value} {xs ys : List Value} (h : w.ownsRow base E s v n xs) (k : w1.ownsRow w.heap.size E' s' u n' ys) : Apart u v := fun j hj hv => by
  have h1 := (h.lt j hv).2
  have h2 := (k.lt j hj).1
  omega

def ToRatEnd (g : Bool) (n : Nat) (xs : List Int) (m : Nat) (ds : List Int) (w w' : World) (e : Ending) : Prop :=
  ∃ v u, e = .returned (.agg #[.bool g, v, u]) ∧ w'.ownsRow w.heap.size 3 1 v n (xs.map (.int .i64)) ∧ w'.ownsRow w.heap.size 3 1 u m (ds.map (.int .i64)) ∧ Apart u v ∧ Below w.heap.size w w'
set_option maxHeartbeats 800000 in
theorem toRat_any (g : Bool) (A : Option Addr) (n c : Nat) (xs : List Int) (B : Option Addr) (m d : Nat) (ds : List Int) (w : World)
    (hn : xs.length = n) (hl : n ≤ 1048576) (hr : Reads w A (xs.map (.int .i64))) (hm : ds.length = m) (hk : m ≤ 1048576) (hs : Reads w B (ds.map (.int .i64))) :
    Calls Try.prog 35 #[.agg #[.bool g, .slice A n c, .slice B m d]] w fun e w' => ToRatEnd g n xs m ds w w' e := by
  have Hn := Lib.hid hn
  have Hm := Lib.hid hm
  have Hr := Lib.hid hr
  have Hs := Lib.hid hs
  clear hn hr hm hs
  obtain ⟨W, hW⟩ : ∃ W, W = (((w.alloc (.cells #[.bool g, .slice A n c, .slice B m d] 49)).alloc (.cells #[.bool false, .slice none 0 0, .slice none 0 0] 26)).alloc (.cells #[.bool false, .slice none 0 0, .slice none 0 0] 26)) := ⟨_, rfl⟩
  have hy0_0 : Hid (Box W w.heap.size 49 #[.bool g, .slice A n c, .slice B m d]) := by rw [hW]; exact ((Box.new _ _ _).alloc _).alloc _
  have hs_0 : Hid (Box W (w.heap.size + 1) 26 #[.bool false, .slice none 0 0, .slice none 0 0]) := by rw [hW]; exact (Box.at' (by simp)).alloc _
  have hy1_0 : Hid (Box W (w.heap.size + 1 + 1) 26 #[.bool false, .slice none 0 0, .slice none 0 0]) := by rw [hW]; exact Box.at' (by simp)
  have BW_0 : Hid (Below w.heap.size w W) := by rw [hW]; exact (((Below.refl _ _).alloc (Nat.le_refl _) _).alloc (by simp) _).alloc (by simp; omega) _
  have hWs : W.heap.size = w.heap.size + 1 + 1 + 1 := by rw [hW]; simp
  go_enter Try.func35, Try.ntmps35
  go_wp2_with fail
  rw [← hW]
  clear hW
  refine (toBigInt_any g A n c xs _ Hn.out hl (Hr.out.below BW_0.out)).mono ?_
  rintro e w1 ⟨v, rfl, ho, hb⟩
  have hy0_1 := Lib.hid (hy0_0.out.below hb hy0_0.out.lt)
  have hy1_1 := Lib.hid (hy1_0.out.below hb hy1_0.out.lt)
  have hs_1 := Lib.hid (hs_0.out.below hb hs_0.out.lt)
  have BW_1 := Lib.hid (BW_0.out.trans (hb.mono BW_0.out.size))
  obtain ⟨A1, c1, rfl⟩ := own_slice ho
  have HO := Lib.hid ho
  have hz : W.heap.size ≤ w1.heap.size := hb.size
  clear ho hb
  have ehy00 := hy0_1.out.cell 0
  have ehy01 := hy0_1.out.cell 1
  have ehy02 := hy0_1.out.cell 2
  have ehy10 := hy1_1.out.cell 0
  have ehy11 := hy1_1.out.cell 1
  have ehy12 := hy1_1.out.cell 2
  simp at ehy00 ehy01 ehy02 ehy10 ehy11 ehy12
  have fy0 := hy1_1.out.free 0
  have fy1 := hy1_1.out.free 1
  have fy2 := hy1_1.out.free 2
  go_wp2_with fail
  obtain ⟨W2, hW2⟩ : ∃ W2, W2 = (w1.setCell ⟨w.heap.size + 1 + 1, 0, none⟩ (.bool g)).setCell ⟨w.heap.size + 1 + 1, 1, none⟩ (.slice A1 n c1) := ⟨_, rfl⟩
  have HO2 : Hid (W2.ownsRow W.heap.size 3 1 (.slice A1 n c1) n (xs.map (.int .i64))) := by rw [hW2]; exact own_store2 HO.out hy1_1.out (by decide) _ _
  have hy1_2 : Hid (Box W2 (w.heap.size + 1 + 1) 26 #[.bool g, .slice A1 n c1, .slice none 0 0]) := by rw [hW2]; exact (hy1_1.out.set_ 0 _).set_ 1 _
  have hy0_2 : Hid (Box W2 w.heap.size 49 #[.bool g, .slice A n c, .slice B m d]) := by rw [hW2]; exact (hy0_1.out.far (by dsimp only; omega) _).far (by dsimp only; omega) _
  have hs_2 : Hid (Box W2 (w.heap.size + 1) 26 #[.bool false, .slice none 0 0, .slice none 0 0]) := by rw [hW2]; exact (hs_1.out.far (by dsimp only; omega) _).far (by dsimp only; omega) _
  have BW_2 : Hid (Below w.heap.size w W2) := by rw [hW2]; exact (BW_1.out.setCell (by dsimp only; omega) _).setCell (by dsimp only; omega) _
  have hz2 : W2.heap.size = w1.heap.size := by rw [hW2]; simp
  rw [← hW2]
  clear hW2 fy0 fy1 fy2
  clear ehy00 ehy01 ehy02 ehy10 ehy11 ehy12
  refine (toIntS_any B m d ds _ Hm.out hk (Hs.out.below BW_2.out)).mono ?_
  rintro e w3 ⟨u, rfl, ho, hb⟩
  have hy0_3 := Lib.hid (hy0_2.out.below hb hy0_2.out.lt)
  have hy1_3 := Lib.hid (hy1_2.out.below hb hy1_2.out.lt)
  have hs_3 := Lib.hid (hs_2.out.below hb hs_2.out.lt)
  have BW_3 := Lib.hid (BW_2.out.trans (hb.mono BW_2.out.size))
  have HAP := Lib.hid (apart_older' HO2.out ho)
  have HO3 := Lib.hid (own_below HO2.out hb)
  obtain ⟨B1, d1, rfl⟩ := own_slice ho
  have HU := Lib.hid ho
  clear ho hb
  have ehy10 := hy1_3.out.cell 0
  have ehy11 := hy1_3.out.cell 1
  have ehy12 := hy1_3.out.cell 2
  have ehs0 := hs_3.out.cell 0
  have ehs1 := hs_3.out.cell 1
  have ehs2 := hs_3.out.cell 2
  have fhs0 := hs_3.out.free 0
  have fhs1 := hs_3.out.free 1
  have fhs2 := hs_3.out.free 2
  simp at ehy10 ehy11 ehy12 ehs0 ehs1 ehs2
  have fy2 := hy1_3.out.free 2
  go_wp2_with fail
  refine bodyPost_ret (v := .agg #[.bool g, .slice A1 n c1, .slice B1 m d1]) (by simp [results, Try.results35, ehs0, ehs1, ehs2, go_sem]) rfl ?_
  have hs_4 := hs_3.out.far (p := ⟨w.heap.size + 1 + 1, 2, none⟩) (by dsimp only; omega) (.slice B1 m d1)
  refine ⟨_, _, rfl, ?_, ?_, HAP.out, ?_⟩
  · exact own_base (own_store3 (own_box HO3.out hy1_3.out 2 _ (by decide)) hs_4 (by decide) _ _ _) (by omega)
  · exact own_base (own_store3 (own_box HU.out hy1_3.out 2 _ (by decide)) hs_4 (by decide) _ _ _) (by omega)
  · exact below_store3 (BW_3.out.setCell (by dsimp only; omega) _) (by omega) _ _ _

set_option maxHeartbeats 800000 in
theorem eqRat_same (g : Bool) (A1 A2 : Option Addr) (n c1 c2 : Nat) (xs : List Int) (B1 B2 : Option Addr) (m d1 d2 : Nat) (ds : List Int) (w : World)
    (hn : xs.length = n) (hl : n ≤ maxLen) (h1 : Reads w A1 (xs.map (.int .i64))) (h2 : Reads w A2 (xs.map (.int .i64))) (hm : ds.length = m) (hk : m ≤ maxLen) (k1 : Reads w B1 (ds.map (.int .i64))) (k2 : Reads w B2 (ds.map (.int .i64))) :
    Calls Try.prog 15 #[.agg #[.bool g, .slice A1 n c1, .slice B1 m d1], .agg #[.bool g, .slice A2 n c2, .slice B2 m d2]] w fun e w' => e = .returned (.bool true) ∧ Below w.heap.size w w' := by
  have Hn := Lib.hid hn
  have H1 := Lib.hid h1
  have H2 := Lib.hid h2
  have Hm := Lib.hid hm
  have K1 := Lib.hid k1
  have K2 := Lib.hid k2
  clear hn h1 h2 hm k1 k2
  have hy0_0 := Lib.hid ((by have := Box.new w 26 #[.bool g, .slice A1 n c1, .slice B1 m d1]; simpa using this : Box (w.alloc (.cells #[.bool g, .slice A1 n c1, .slice B1 m d1] 26)) (w.heap.size) 26 #[.bool g, .slice A1 n c1, .slice B1 m d1]).alloc (.cells #[.bool g, .slice A2 n c2, .slice B2 m d2] 26))
  have hy1_0 := Lib.hid (by have := Box.new (w.alloc (.cells #[.bool g, .slice A1 n c1, .slice B1 m d1] 26)) 26 #[.bool g, .slice A2 n c2, .slice B2 m d2]; simpa using this : Box ((w.alloc (.cells #[.bool g, .slice A1 n c1, .slice B1 m d1] 26)).alloc (.cells #[.bool g, .slice A2 n c2, .slice B2 m d2] 26)) (w.heap.size + 1) 26 #[.bool g, .slice A2 n c2, .slice B2 m d2])
  have BW_0 := Lib.hid (((Below.refl w.heap.size w).alloc (by simp) (.cells #[.bool g, .slice A1 n c1, .slice B1 m d1] 26)).alloc (by simp) (.cells #[.bool g, .slice A2 n c2, .slice B2 m d2] 26))
  go_enter Try.func15, Try.ntmps15
  go_wp2_with fail
  refine (eqBigInt_same g A1 A2 n c1 c2 xs _ Hn.out hl (H1.out.below BW_0.out) (H2.out.below BW_0.out)).mono ?_
  rintro e w1 ⟨rfl, hb⟩
  have hy0_1 := Lib.hid (hy0_0.out.below hb hy0_0.out.lt)
  have hy1_1 := Lib.hid (hy1_0.out.below hb hy1_0.out.lt)
  have BW_1 := Lib.hid (BW_0.out.trans (hb.mono BW_0.out.size))
  clear hb
  have ehy00 := hy0_1.out.cell 0
  have ehy01 := hy0_1.out.cell 1
  have ehy02 := hy0_1.out.cell 2
  have ehy10 := hy1_1.out.cell 0
  have ehy11 := hy1_1.out.cell 1
  have ehy12 := hy1_1.out.cell 2
  simp at ehy00 ehy01 ehy02 ehy10 ehy11 ehy12
  go_wp2_with fail
  clear ehy00 ehy01 ehy02 ehy10 ehy11 ehy12
  refine (eqIntS_same B1 B2 m d1 d2 ds _ Hm.out hk (K1.out.below BW_1.out) (K2.out.below BW_1.out)).mono ?_
  rintro e w2 ⟨rfl, hb⟩
  have hy0_2 := Lib.hid (hy0_1.out.below hb hy0_1.out.lt)
  have hy1_2 := Lib.hid (hy1_1.out.below hb hy1_1.out.lt)
  have BW_2 := Lib.hid (BW_1.out.trans (hb.mono BW_1.out.size))
  clear hb
  go_wp2_with fail
  go_ret
  exact ⟨rfl, BW_2.out⟩

def MarkREnd (base1 base2 : Nat) (A : Option Addr) (n c : Nat) (B : Option Addr) (m d K : Nat) (w w' : World) (e : Ending) : Prop :=
  ∃ w1, e = .returned (.int .i64 ((K + n + m : Nat) : Int)) ∧ w1.ownsRow base1 3 1 (.slice A n c) n (marks markI K n) ∧ w.grownBy w1 (Value.slice A n c).ownBlock ∧
    w'.ownsRow base2 3 1 (.slice B m d) m (marks markI (K + n) m) ∧ w1.grownBy w' (Value.slice B m d).ownBlock
set_option maxHeartbeats 800000 in
theorem markRat_own (g : Bool) (base1 base2 : Nat) (A : Option Addr) (n c : Nat) (B : Option Addr) (m d K : Nat) (xs ys : List Value) (w : World) (hK : K + n + m < maxLen)
    (ho1 : w.ownsRow base1 3 1 (.slice A n c) n xs) (hxs : ∀ x ∈ xs, ∃ z, x = Value.int .i64 z) (ho2 : w.ownsRow base2 3 1 (.slice B m d) m ys) (hys : ∀ x ∈ ys, ∃ z, x = Value.int .i64 z) (hap : Apart (.slice B m d) (.slice A n c)) :
    Calls Try.prog 16 #[.agg #[.bool g, .slice A n c, .slice B m d], .int .i64 K] w fun e w' => MarkREnd base1 base2 A n c B m d K w w' e := by
  have HX := Lib.hid hxs
  have HY := Lib.hid hys
  have HO := Lib.hid ho1
  have HU := Lib.hid ho2
  have HAP := Lib.hid hap
  clear hxs hys ho1 ho2 hap
  have hy0_0 := Lib.hid (by have := Box.new w 26 #[.bool g, .slice A n c, .slice B m d]; simpa using this : Box (w.alloc (.cells #[.bool g, .slice A n c, .slice B m d] 26)) (w.heap.size) 26 #[.bool g, .slice A n c, .slice B m d])
  have BW_0 := Lib.hid ((Below.refl w.heap.size w).alloc (by simp) (.cells #[.bool g, .slice A n c, .slice B m d] 26))
  go_enter Try.func16, Try.ntmps16
  go_wp2_with fail
  refine (markBigInt_own g base1 A n c K xs _ (by omega) (HO.out.alloc _) HX.out).mono ?_
  rintro e w1 ⟨rfl, ho, hg⟩
  have hy0_1 := Lib.hid (hy0_0.out.grown hg (ne_own hy0_0.out (HO.out.alloc _)))
  have HU1 := Lib.hid ((HU.out.alloc (.cells #[.bool g, .slice A n c, .slice B m d] 26)).kept hg (apart_of HAP.out))
  have HO1 := Lib.hid ho
  have HG1 := Lib.hid (grownBy_trans (grownBy_alloc _ _ _) hg)
  clear ho hg
  have ehy00 := hy0_1.out.cell 0
  have ehy01 := hy0_1.out.cell 1
  have ehy02 := hy0_1.out.cell 2
  simp at ehy00 ehy01 ehy02
  go_wp2_with fail
  refine (markIntS_own base2 B m d (K + n) ys _ hK HU1.out HY.out).mono ?_
  rintro e w2 ⟨rfl, ho, hg⟩
  have HF : Hid (MarkREnd base1 base2 A n c B m d K w w2 (.returned (.int .i64 ((K + n + m : Nat) : Int)))) := ⟨w1, rfl, HO1.out, HG1.out, ho, hg⟩
  clear ho hg
  go_wp2_with fail
  go_ret
  exact HF.out

set_option maxHeartbeats 800000 in
theorem heldRat_same (g : Bool) (A : Option Addr) (n c : Nat) (B : Option Addr) (m d K : Nat) (w : World) (hK : K + n + m < maxLen) (hr : Reads w A (marks markI K n)) (hs : Reads w B (marks markI (K + n) m)) :
    Calls Try.prog 17 #[.agg #[.bool g, .slice A n c, .slice B m d], .int .i64 K] w fun e w' => e = .returned (.int .i64 ((K + n + m : Nat) : Int)) ∧ Below w.heap.size w w' := by
  have HR := Lib.hid hr
  have HS := Lib.hid hs
  clear hr hs
  have hy0_0 := Lib.hid (by have := Box.new w 26 #[.bool g, .slice A n c, .slice B m d]; simpa using this : Box (w.alloc (.cells #[.bool g, .slice A n c, .slice B m d] 26)) (w.heap.size) 26 #[.bool g, .slice A n c, .slice B m d])
  have BW_0 := Lib.hid ((Below.refl w.heap.size w).alloc (by simp) (.cells #[.bool g, .slice A n c, .slice B m d] 26))
  have hK2 : K + n < maxLen := by omega
  unfold maxLen at hK hK2
  go_enter Try.func17, Try.ntmps17
  go_wp2_with fail
  refine (heldBigInt_same g A n c K _ (by unfold maxLen; omega) (HR.out.below BW_0.out)).mono ?_
  rintro e w1 ⟨rfl, hb⟩
  have hy0_1 := Lib.hid (hy0_0.out.below hb hy0_0.out.lt)
  have BW_1 := Lib.hid (BW_0.out.trans (hb.mono BW_0.out.size))
  clear hb
  have ehy00 := hy0_1.out.cell 0
  have ehy01 := hy0_1.out.cell 1
  have ehy02 := hy0_1.out.cell 2
  simp at ehy00 ehy01 ehy02
  go_wp2_with fail
  clear ehy00 ehy01 ehy02
  refine (heldIntS_same B m d (K + n) _ (by unfold maxLen; omega) (HS.out.below BW_1.out)).mono ?_
  rintro e w2 ⟨rfl, hb⟩
  have hy0_2 := Lib.hid (hy0_1.out.below hb hy0_1.out.lt)
  have BW_2 := Lib.hid (BW_1.out.trans (hb.mono BW_1.out.size))
  clear hb
  go_wp2_with fail
  go_ret
  exact ⟨rfl, BW_2.out⟩

set_option maxHeartbeats 800000 in
theorem szRat_neg (g : Bool) (A : Option Addr) (n c : Nat) (B : Option Addr) (m d : Nat) (left : Int) (w : World) (h0 : 0 ≤ left) (hl : left ≤ 1048576) (hn : n ≤ maxLen) (hm : m ≤ maxLen) (h : left - n - m < 0) :
    Calls Try.prog 33 #[.agg #[.bool g, .slice A n c, .slice B m d], .int .i64 left] w fun e w' => e = .returned (.int .i64 (-1)) ∧ Below w.heap.size w w' := by
  have hy0_0 := Lib.hid (by have := Box.new w 49 #[.bool g, .slice A n c, .slice B m d]; simpa using this : Box (w.alloc (.cells #[.bool g, .slice A n c, .slice B m d] 49)) (w.heap.size) 49 #[.bool g, .slice A n c, .slice B m d])
  have BW_0 := Lib.hid ((Below.refl w.heap.size w).alloc (by simp) (.cells #[.bool g, .slice A n c, .slice B m d] 49))
  by_cases h1 : left - n < 0
  · go_enter Try.func33, Try.ntmps33
    go_wp2_with fail
    refine (szBigInt_neg g A n c left _ h0 hl hn h1).mono ?_
    rintro e w1 ⟨rfl, hb⟩
    have hy0_1 := Lib.hid (hy0_0.out.below hb hy0_0.out.lt)
    have BW_1 := Lib.hid (BW_0.out.trans (hb.mono BW_0.out.size))
    clear hb
    go_wp2_with fail
    go_ret
    exact ⟨rfl, BW_1.out⟩
  · go_enter Try.func33, Try.ntmps33
    go_wp2_with fail
    refine (szBigInt_pos g A n c left _ h0 hl (by omega)).mono ?_
    rintro e w1 ⟨rfl, hb⟩
    have hy0_1 := Lib.hid (hy0_0.out.below hb hy0_0.out.lt)
    have BW_1 := Lib.hid (BW_0.out.trans (hb.mono BW_0.out.size))
    clear hb
    have ehy00 := hy0_1.out.cell 0
    have ehy01 := hy0_1.out.cell 1
    have ehy02 := hy0_1.out.cell 2
    simp at ehy00 ehy01 ehy02
    go_wp2_with fail
    refine (szIntS_neg B m d (left - n) _ (by omega) (by omega) hm (by omega)).mono ?_
    rintro e w2 ⟨rfl, rfl⟩
    go_wp2_with fail
    go_ret
    exact ⟨rfl, BW_1.out⟩
set_option maxHeartbeats 800000 in
theorem szRat_pos (g : Bool) (A : Option Addr) (n c : Nat) (B : Option Addr) (m d : Nat) (left : Int) (w : World) (h0 : 0 ≤ left) (hl : left ≤ 1048576) (h : ¬ left - n - m < 0) :
    Calls Try.prog 33 #[.agg #[.bool g, .slice A n c, .slice B m d], .int .i64 left] w fun e w' => e = .returned (.int .i64 (left - n - m)) ∧ Below w.heap.size w w' := by
  have hy0_0 := Lib.hid (by have := Box.new w 49 #[.bool g, .slice A n c, .slice B m d]; simpa using this : Box (w.alloc (.cells #[.bool g, .slice A n c, .slice B m d] 49)) (w.heap.size) 49 #[.bool g, .slice A n c, .slice B m d])
  have BW_0 := Lib.hid ((Below.refl w.heap.size w).alloc (by simp) (.cells #[.bool g, .slice A n c, .slice B m d] 49))
  have h1 : ¬ left - n < 0 := by omega
  go_enter Try.func33, Try.ntmps33
  go_wp2_with fail
  refine (szBigInt_pos g A n c left _ h0 hl (by omega)).mono ?_
  rintro e w1 ⟨rfl, hb⟩
  have hy0_1 := Lib.hid (hy0_0.out.below hb hy0_0.out.lt)
  have BW_1 := Lib.hid (BW_0.out.trans (hb.mono BW_0.out.size))
  clear hb
  have ehy00 := hy0_1.out.cell 0
  have ehy01 := hy0_1.out.cell 1
  have ehy02 := hy0_1.out.cell 2
  simp at ehy00 ehy01 ehy02
  go_wp2_with fail
  refine (szIntS_pos B m d (left - n) _ (by omega) (by omega) (by omega)).mono ?_
  rintro e w2 ⟨rfl, rfl⟩
  go_wp2_with fail
  go_ret
  exact ⟨rfl, BW_1.out⟩
end Go.Proofs.Ytjggdbakbhacjaa
