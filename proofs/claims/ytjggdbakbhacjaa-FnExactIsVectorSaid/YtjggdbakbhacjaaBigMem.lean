/- Big integers as values: what the helpers of the laws do with them (copied, equal, marked, held, counted). -/
import Derived.Test.YtjggdbakbhacjaaMemI
import Derived.Test.YtjggdbakbhacjaaBig
namespace Go.Proofs.Ytjggdbakbhacjaa
set_option maxRecDepth 100000
open Go.RowKit

theorem own_set {w : World} {base : Nat} {E : TypeId} {size n : Nat} {v u : Value} {xs : List Value} {p : Addr} (h : w.ownsRow base E size v n xs) (hp : p.block < base) : (w.setCell p u).ownsRow base E size v n xs := by
  refine ⟨h.1, ?_⟩
  rcases h.2 with h | ⟨g, cap, cur, h1, h2, h3, h4⟩
  · exact .inl h
  · exact .inr ⟨g, cap, cur, h1, h2, (Below.heap_setCell w p u g (by omega)).trans h3, h4⟩
theorem own_base {w : World} {base base' : Nat} {E : TypeId} {size n : Nat} {v : Value} {xs : List Value} (h : w.ownsRow base E size v n xs) (hb : base' ≤ base) : w.ownsRow base' E size v n xs := by
  refine ⟨h.1, ?_⟩
  rcases h.2 with h | ⟨g, cap, cur, h1, h2, h3⟩
  · exact .inl h
  · exact .inr ⟨g, cap, cur, h1, by omega, h3⟩
theorem grownBy_alloc (w : World) (o : Obj) (row : Option Nat) : w.grownBy (w.alloc o) row := grownBy_of_below ((Below.refl _ _).alloc (Nat.le_refl _) _) row

/-- Block g holds just these cells. -/
def Box (w : World) (g : Nat) (t : TypeId) (cs : Array Value) : Prop := w.heap[g]? = some (.cells cs t (0, 0))
section
variable {w w' : World} {g : Nat} {t : TypeId} {cs : Array Value}
theorem Box.lt (h : Box w g t cs) : g < w.heap.size := by
  rcases Nat.lt_or_ge g w.heap.size with hlt | hge
  · exact hlt
  · unfold Box at h; rw [Array.getElem?_eq_none hge] at h; cases h
theorem Box.cell (h : Box w g t cs) (i : Nat) : w.cell? ⟨g, i, none⟩ = cs[i]? := by unfold Box at h; simp [World.cell?, h]
theorem Box.free (h : Box w g t cs) (i : Nat) : w.frozen? ⟨g, i, none⟩ = false := by unfold Box at h; simp [World.frozen?, h]
theorem Box.new (w : World) (t : TypeId) (cs : Array Value) : Box (w.alloc (.cells cs t)) w.heap.size t cs := heap_alloc_new w _
theorem Box.alloc (h : Box w g t cs) (o : Obj) : Box (w.alloc o) g t cs := (Below.heap_alloc w o g h.lt).trans h
theorem Box.drew (h : Box w g t cs) : Box w.drew g t cs := h
theorem Box.far (h : Box w g t cs) {p : Addr} (hp : g ≠ p.block) (u : Value) : Box (w.setCell p u) g t cs := (Below.heap_setCell w p u g hp).trans h
theorem Box.set_ (h : Box w g t cs) (i : Nat) (u : Value) : Box (w.setCell ⟨g, i, none⟩ u) g t (cs.setIfInBounds i u) := by
  unfold Box at h ⊢
  simp [World.setCell, Array.getElem?_modify, h]
theorem Box.below {B : Nat} (h : Box w g t cs) (hb : Below B w w') (hg : g < B) : Box w' g t cs := (hb.block g hg).trans h
theorem Box.grown {row : Option Nat} (h : Box w g t cs) (hb : w.grownBy w' row) (hg : some g ≠ row) : Box w' g t cs := (hb.block g h.lt hg).trans h
end

/-- A result in memory of its own, behind the two stores into the box that it is handed back in. -/
theorem tail2 {w w2 : World} {base g : Nat} {E : TypeId} {size n : Nat} {v : Value} {xs : List Value} (ho : w2.ownsRow base E size v n xs) (hg : g < base) (hb : Below w.heap.size w w2) (hw : w.heap.size ≤ g) (u0 u1 : Value) :
    ((w2.setCell ⟨g, 0, none⟩ u0).setCell ⟨g, 1, none⟩ u1).ownsRow w.heap.size E size v n xs ∧ Below w.heap.size w ((w2.setCell ⟨g, 0, none⟩ u0).setCell ⟨g, 1, none⟩ u1) :=
  ⟨own_base (own_set (own_set ho hg) hg) (by omega), (hb.setCell hw _).setCell hw _⟩

theorem InI.drew {w : World} {A : Option Addr} {n : Nat} {xs : List Int} (h : InI w A n xs) : InI w.drew A n xs := h
theorem tail_facts {w W w2 : World} {g N c : Nat} {t : TypeId} {cs : Array Value} {E : TypeId} {A : Option Addr} {xs : List Value} (hbx : Box W g t cs) (hb : Below W.heap.size W w2) (hbw : Below w.heap.size w W) (hg : w.heap.size ≤ g) (ho : w2.ownsRow W.heap.size E 1 (.slice A N c) N xs) :
    w2.cell? ⟨g, 0, none⟩ = cs[0]? ∧ w2.cell? ⟨g, 1, none⟩ = cs[1]? ∧ w2.frozen? ⟨g, 0, none⟩ = false ∧ w2.frozen? ⟨g, 1, none⟩ = false ∧
      ∀ u0 u1, ((w2.setCell ⟨g, 0, none⟩ u0).setCell ⟨g, 1, none⟩ u1).ownsRow w.heap.size E 1 (.slice A N c) N xs ∧ Below w.heap.size w ((w2.setCell ⟨g, 0, none⟩ u0).setCell ⟨g, 1, none⟩ u1) := by
  have bx := hbx.below hb hbx.lt
  exact ⟨bx.cell 0, bx.cell 1, bx.free 0, bx.free 1, fun u0 u1 => tail2 ho hbx.lt (hbw.trans (hb.mono hbw.size)) hg u0 u1⟩

theorem limbs_bd {l : List Int} (h : InR l) : ∀ z ∈ l, -9223372036854775808 ≤ z ∧ z ≤ 9223372036854775807 := fun z hz => by have := h z hz; omega
theorem in_own {w : World} {base c : Nat} {A : Option Addr} {r : List Int} (h : Ok r) (ho : w.ownsRow base 3 1 (.slice A r.length c) r.length (r.map (.int .i64))) : InI w A r.length r :=
  ⟨rfl, by have := h.2; omega, Reads.of_own ho, limbs_bd h.1.1⟩

def ToBigEnd (g : Bool) (n : Nat) (xs : List Int) (w w' : World) (e : Ending) : Prop := ∃ v, e = .returned (.agg #[.bool g, v]) ∧ w'.ownsRow w.heap.size 3 1 v n (xs.map (.int .i64)) ∧ Below w.heap.size w w'
set_option maxHeartbeats 400000 in
theorem toBigInt_any (g : Bool) (A : Option Addr) (n c : Nat) (xs : List Int) (w : World) (hn : xs.length = n) (hm : n ≤ 1048576) (hr : Reads w A (xs.map (.int .i64))) :
    Calls Try.prog 75 #[.agg #[.bool g, .slice A n c]] w fun e w' => ToBigEnd g n xs w w' e := by
  have Hn := Lib.hid hn
  have Hr := Lib.hid hr
  clear hn hr
  go_enter Try.func75, Try.ntmps75
  go_wp2_with fail
  refine (toIntS_any A n c xs _ Hn.out hm (Hr.out.below ((((Below.refl _ _).alloc (Nat.le_refl _) _).alloc (by simp) _).alloc (by simp; omega) _))).mono ?_
  rintro e w1 ⟨v, rfl, ho, hb⟩
  obtain ⟨hc, hf⟩ := bcell hb
  have hz : w.heap.size + 1 + 1 < w1.heap.size := by have := hb.size; simp at this; omega
  obtain ⟨A1, c1, rfl⟩ := own_slice ho
  have HO := Lib.hid ho
  have HB := Lib.hid hb
  clear ho hb
  go_wp2_with fail
  refine bodyPost_ret (v := .agg #[.bool g, .slice A1 n c1]) (by simp [results, Try.results75, hc, go_sem]) rfl ⟨_, rfl, ?_, ?_⟩
  · exact own_base (own_set (own_set (own_set HO.out (by simp)) (by simp)) (by simp)) (by simp; omega)
  · have h1 : Below w.heap.size w w1 := ((((Below.refl _ _).alloc (Nat.le_refl _) _).alloc (by simp) _).alloc (by simp; omega) _).trans (HB.out.mono (by simp; omega))
    exact ((h1.setCell (by simp; omega) _).setCell (by simp) _).setCell (by simp) _

set_option maxHeartbeats 400000 in
theorem eqBigInt_same (g : Bool) (A1 A2 : Option Addr) (n c1 c2 : Nat) (xs : List Int) (w : World) (hn : xs.length = n) (hm : n ≤ maxLen) (h1 : Reads w A1 (xs.map (.int .i64))) (h2 : Reads w A2 (xs.map (.int .i64))) :
    Calls Try.prog 54 #[.agg #[.bool g, .slice A1 n c1], .agg #[.bool g, .slice A2 n c2]] w fun e w' => e = .returned (.bool true) ∧ Below w.heap.size w w' := by
  have Hn := Lib.hid hn
  have H1 := Lib.hid h1
  have H2 := Lib.hid h2
  clear hn h1 h2
  have hbe : (g != g) = false := by simp
  have hb0 := fun (x y : Value) (t : TypeId) => (((Below.refl w.heap.size w).alloc (Nat.le_refl _) (.cells #[.bool g, x] t)).alloc (by simp) (.cells #[.bool g, y] t))
  have HB0 := Lib.hid hb0
  clear hb0
  go_enter Try.func54, Try.ntmps54
  go_wp2_with fail
  refine (eqIntS_same A1 A2 n c1 c2 xs _ Hn.out hm (H1.out.below (HB0.out _ _ _)) (H2.out.below (HB0.out _ _ _))).mono ?_
  rintro e w1 ⟨rfl, hb⟩
  go_wp2_with fail
  go_ret
  exact ⟨rfl, (HB0.out _ _ _).trans (hb.mono (by simp; omega))⟩

set_option maxHeartbeats 400000 in
theorem markBigInt_own (g : Bool) (base : Nat) (A : Option Addr) (n c K : Nat) (xs : List Value) (w : World) (hK : K + n < maxLen) (hown : w.ownsRow base 3 1 (.slice A n c) n xs) (hxs : ∀ x ∈ xs, ∃ z, x = Value.int .i64 z) :
    Calls Try.prog 56 #[.agg #[.bool g, .slice A n c], .int .i64 K] w fun e w' => e = .returned (.int .i64 ((K + n : Nat) : Int)) ∧ w'.ownsRow base 3 1 (.slice A n c) n (marks markI K n) ∧ w.grownBy w' (Value.slice A n c).ownBlock := by
  have HX := Lib.hid hxs
  have HO := Lib.hid hown
  clear hxs hown
  go_enter Try.func56, Try.ntmps56
  go_wp2_with fail
  refine (markIntS_own base A n c K xs _ hK (HO.out.alloc _) HX.out).mono ?_
  rintro e w1 ⟨rfl, ho, hg⟩
  have HO1 := Lib.hid ho
  have HG1 := Lib.hid (grownBy_trans (grownBy_alloc _ _ _) hg)
  clear ho hg
  go_wp2_with fail
  go_ret
  exact ⟨rfl, HO1.out, HG1.out⟩

set_option maxHeartbeats 400000 in
theorem heldBigInt_same (g : Bool) (A : Option Addr) (n c K : Nat) (w : World) (hK : K + n < maxLen) (hr : Reads w A (marks markI K n)) :
    Calls Try.prog 58 #[.agg #[.bool g, .slice A n c], .int .i64 K] w fun e w' => e = .returned (.int .i64 ((K + n : Nat) : Int)) ∧ Below w.heap.size w w' := by
  have HR := Lib.hid hr
  clear hr
  go_enter Try.func58, Try.ntmps58
  go_wp2_with fail
  refine (heldIntS_same A n c K _ hK (HR.out.below ((Below.refl _ _).alloc (Nat.le_refl _) _))).mono ?_
  rintro e w1 ⟨rfl, hb⟩
  go_wp2_with fail
  go_ret
  exact ⟨rfl, ((Below.refl _ _).alloc (Nat.le_refl _) _).trans (hb.mono (by simp))⟩

set_option maxHeartbeats 400000 in
theorem szIntS_neg (A : Option Addr) (n c : Nat) (left : Int) (w : World) (h0 : 0 ≤ left) (hl : left ≤ 1048576) (hm : n ≤ maxLen) (h : left - n < 0) :
    Calls Try.prog 73 #[.slice A n c, .int .i64 left] w fun e w' => e = .returned (.int .i64 (-1)) ∧ w = w' := by
  unfold maxLen at hm
  go_enter Try.func73, Try.ntmps73
  go_wp2_with fail
  go_ret
  exact ⟨rfl, rfl⟩
set_option maxHeartbeats 400000 in
theorem szIntS_pos (A : Option Addr) (n c : Nat) (left : Int) (w : World) (h0 : 0 ≤ left) (hl : left ≤ 1048576) (h : ¬ left - n < 0) :
    Calls Try.prog 73 #[.slice A n c, .int .i64 left] w fun e w' => e = .returned (.int .i64 (left - n)) ∧ w = w' := by
  go_enter Try.func73, Try.ntmps73
  go_wp2_with fail
  go_ret
  exact ⟨rfl, rfl⟩
set_option maxHeartbeats 400000 in
theorem szBigInt_neg (g : Bool) (A : Option Addr) (n c : Nat) (left : Int) (w : World) (h0 : 0 ≤ left) (hl : left ≤ 1048576) (hm : n ≤ maxLen) (h : left - n < 0) :
    Calls Try.prog 72 #[.agg #[.bool g, .slice A n c], .int .i64 left] w fun e w' => e = .returned (.int .i64 (-1)) ∧ Below w.heap.size w w' := by
  go_enter Try.func72, Try.ntmps72
  go_wp2_with fail
  refine (szIntS_neg A n c left _ h0 hl hm (by omega)).mono ?_
  rintro e w1 ⟨rfl, rfl⟩
  go_wp2_with fail
  go_ret
  exact ⟨rfl, (Below.refl _ _).alloc (Nat.le_refl _) _⟩
set_option maxHeartbeats 400000 in
theorem szBigInt_pos (g : Bool) (A : Option Addr) (n c : Nat) (left : Int) (w : World) (h0 : 0 ≤ left) (hl : left ≤ 1048576) (h : ¬ left - n < 0) :
    Calls Try.prog 72 #[.agg #[.bool g, .slice A n c], .int .i64 left] w fun e w' => e = .returned (.int .i64 (left - n)) ∧ Below w.heap.size w w' := by
  go_enter Try.func72, Try.ntmps72
  go_wp2_with fail
  refine (szIntS_pos A n c left _ h0 hl (by omega)).mono ?_
  rintro e w1 ⟨rfl, rfl⟩
  go_wp2_with fail
  go_ret
  exact ⟨rfl, (Below.refl _ _).alloc (Nat.le_refl _) _⟩
end Go.Proofs.Ytjggdbakbhacjaa
