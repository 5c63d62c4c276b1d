/- Contracts of the model's big integers: valid or not, from and to int, the negative. -/
import Derived.Test.YtjggdbakbhacjaaDoorGB
import Derived.Test.YtjggdbakbhacjaaDoorGN
import Derived.Test.YtjggdbakbhacjaaDoorGI
import Derived.Test.YtjggdbakbhacjaaDoorGJ
namespace Go.Proofs.YtjggdbakbhacjaaDoor
set_option maxRecDepth 100000
open Go.RowKit

def BOkEnd (g : Bool) (xs : List Int) (e : Ending) : Prop := ∃ b, e = .returned (.bool b) ∧ BigIntOkIs g xs b
set_option maxHeartbeats 400000 in
theorem spec_bigOk' (g : Bool) (A : Option Addr) (n c : Nat) (xs : List Int) (w : World) (h : InI w A n xs) :
    Calls Tryd.prog 32 #[.agg #[.bool g, .slice A n c]] w fun e w' => BOkEnd g xs e ∧ Below w.heap.size w w' := by
  have H := Lib.hid h
  have hn := h.2.1
  clear h
  have con := fun (x : Value) (t : TypeId) => spec_natOk' A n c xs (w.alloc (.cells #[.bool g, x] t)) (H.out.below ((Below.refl _ _).alloc (Nat.le_refl _) _))
  have Con := Lib.hid con
  clear con
  have HF0 := Lib.hid (fun b (hb : NatOkIs xs b) => bigOk_mk (g := g) hb H.out.1)
  by_cases h0 : 0 < n
  all_goals
    cases g
    all_goals
      go_enter Tryd.func32, Tryd.ntmps32
      go_wp2_with fail
      refine (Con.out _ _).mono ?_
      rintro e w1 ⟨⟨b, rfl, hb⟩, rfl⟩
      have HF := Lib.hid (HF0.out _ hb)
      clear hb
      cases b
      all_goals
        go_wp2_with fail
        go_ret
        exact ⟨⟨_, rfl, by have := HF.out; simpa [h0] using this⟩, (Below.refl _ _).alloc (Nat.le_refl _) _⟩
theorem spec_bigIntOk (g : Bool) (A : Option Addr) (n c : Nat) (xs : List Int) (w : World) (h : InI w A n xs) (_hR : Room A n c) :
    Calls Tryd.prog 32 #[.agg #[.bool g, .slice A n c]] w fun e w' => ∃ b, e = .returned (.bool b) ∧ BigIntOkIs g xs b ∧ Below w.heap.size w w' :=
  (spec_bigOk' g A n c xs w h).mono fun _ _ ⟨⟨b, he, hi⟩, hw⟩ => ⟨b, he, hi, hw⟩

/-- What a function that hands back a big integer ends in. -/
def BigEnd (Q : Bool → List Int → Prop) (w w' : World) (e : Ending) : Prop := ∃ g r v, e = .returned (.agg #[.bool g, v]) ∧ Q g r ∧ ResI w w' v r ∧ Below w.heap.size w w'
theorem bigEnd_zero {Q : Bool → List Int → Prop} {w w' : World} (h : Q false []) (hb : Below w.heap.size w w') : BigEnd Q w w' (.returned (.agg #[.bool false, .slice none 0 0])) :=
  ⟨false, [], _, rfl, h, ⟨by simp, World.ownsRow_nil _ _ _ _⟩, hb⟩

def BToIntEnd (g : Bool) (xs : List Int) (e : Ending) : Prop := ∃ v b, e = .returned (.tuple #[.int .i64 v, .bool b]) ∧ BigIntToIntIs g xs v b

end Go.Proofs.YtjggdbakbhacjaaDoor
namespace Go.Proofs.YtjggdbakbhacjaaDoor
set_option maxRecDepth 100000
open Go.RowKit

/-- What two boxes hold, cell by cell. -/
theorem two_boxes {w : World} {b0 b1 : Nat} {t t' : TypeId} {u0 u1 v0 v1 : Value} (h : Box w b0 t #[u0, u1]) (k : Box w b1 t' #[v0, v1]) :
    w.cell? ⟨b0, 0, none⟩ = some u0 ∧ w.cell? ⟨b0, 1, none⟩ = some u1 ∧ w.cell? ⟨b1, 0, none⟩ = some v0 ∧ w.cell? ⟨b1, 1, none⟩ = some v1 :=
  ⟨h.cell 0, h.cell 1, k.cell 0, k.cell 1⟩
/-- An owned list on its way. -/
theorem mid_own {w w1 : World} {A : Option Addr} {c : Nat} {r : List Int} (ho : w1.ownsRow w.heap.size 3 1 (.slice A r.length c) r.length (r.map (.int .i64))) : Room A r.length c ∧ Reads w1 A (r.map (.int .i64)) := ⟨room_own ho, Reads.of_own ho⟩



end Go.Proofs.YtjggdbakbhacjaaDoor
namespace Go.Proofs.YtjggdbakbhacjaaDoor
set_option maxRecDepth 100000
open Go.RowKit


def BCmpEnd (g1 : Bool) (xs : List Int) (g2 : Bool) (ys : List Int) (w w' : World) (e : Ending) : Prop := ∃ r, e = .returned (.int .i64 r) ∧ BigIntCmpIs g1 xs g2 ys r ∧ Below w.heap.size w w'
theorem bcmp_no {g1 g2 : Bool} {xs ys : List Int} {w w' : World} (h : ¬ (BOk g1 xs ∧ BOk g2 ys)) (hb : Below w.heap.size w w') : BCmpEnd g1 xs g2 ys w w' (.returned (.int .i64 0)) := ⟨0, rfl, .inr ⟨h, rfl⟩, hb⟩
theorem bcmp_yes {g1 g2 : Bool} {xs ys : List Int} {w w' : World} {r : Int} (h1 : BOk g1 xs) (h2 : BOk g2 ys) (hr : r = cmpV (bval g1 xs) (bval g2 ys)) (hb : Below w.heap.size w w') : BCmpEnd g1 xs g2 ys w w' (.returned (.int .i64 r)) := ⟨r, rfl, .inl ⟨⟨h1, h2⟩, hr⟩, hb⟩
end Go.Proofs.YtjggdbakbhacjaaDoor
namespace Go.Proofs.YtjggdbakbhacjaaDoor
set_option maxRecDepth 100000
open Go.RowKit

theorem below_two {w W : World} {g : Nat} (hb : Below w.heap.size w W) (hg : w.heap.size ≤ g) (u0 u1 : Value) : Below w.heap.size w ((W.setCell ⟨g, 0, none⟩ u0).setCell ⟨g, 1, none⟩ u1) := (hb.setCell hg _).setCell hg _
/-- What a floor division ends in. -/
def FDivEnd (g : Bool) (xs ms : List Int) (w w' : World) (e : Ending) : Prop := ∃ h q v r u, e = .returned (.tuple #[.agg #[.bool h, v], u]) ∧ BigIntFloorDivIs g xs ms h q r ∧ ResI w w' v q ∧ ResI w w' u r ∧ Apart u v ∧ Below w.heap.size w w'
theorem fdiv_no {g : Bool} {xs ms : List Int} {w w' : World} (h : ¬ (BOk g xs ∧ Ok ms ∧ 0 < val ms)) (hb : Below w.heap.size w w') : FDivEnd g xs ms w w' (.returned (.tuple #[.agg #[.bool false, .slice none 0 0], .slice none 0 0])) :=
  ⟨false, [], _, [], _, rfl, floor_no h, ⟨by simp, World.ownsRow_nil _ _ _ _⟩, ⟨by simp, World.ownsRow_nil _ _ _ _⟩, (fun k hk => by simp [Value.ownBlock] at hk), hb⟩
/-- A slice that was there before another was made lies elsewhere. -/
theorem apart_older {w w1 : World} {base : Nat} {E E' : TypeId} {s s' n n' : Nat} {v u : Value} {xs ys : List Value} (h : w.ownsRow base E s v n xs) (k : w1.ownsRow w.heap.size E' s' u n' ys) : Apart u v := fun j hj hv => by
  have h1 := (h.lt j hv).2
  have h2 := (k.lt j hj).1
  omega
end Go.Proofs.YtjggdbakbhacjaaDoor
namespace Go.Proofs.YtjggdbakbhacjaaDoor
set_option maxRecDepth 100000
open Go.RowKit

theorem one_box {w : World} {b0 : Nat} {t : TypeId} {u0 u1 : Value} (h : Box w b0 t #[u0, u1]) : w.cell? ⟨b0, 0, none⟩ = some u0 ∧ w.cell? ⟨b0, 1, none⟩ = some u1 := ⟨h.cell 0, h.cell 1⟩
theorem box_facts {w : World} {g : Nat} {t : TypeId} {cs : Array Value} (h : Box w g t cs) : Box w g t cs ∧ w.cell? ⟨g, 0, none⟩ = cs[0]? ∧ w.cell? ⟨g, 1, none⟩ = cs[1]? ∧ w.frozen? ⟨g, 0, none⟩ = false ∧ w.frozen? ⟨g, 1, none⟩ = false := ⟨h, h.cell 0, h.cell 1, h.free 0, h.free 1⟩

/-- A sign put to limbs: the limbs stay where they lie. -/
def WithEnd (b : Bool) (base : Nat) (A : Option Addr) (n c : Nat) (xs : List Int) (w w' : World) (e : Ending) : Prop :=
  ∃ v, e = .returned (.agg #[.bool (sgn b xs), v]) ∧ (v = .slice A n c ∨ v = .slice none 0 0) ∧ w'.ownsRow base 3 1 v n (xs.map (.int .i64)) ∧ Below w.heap.size w w'

set_option maxHeartbeats 400000 in
theorem impl_bigOk' (g : Bool) (A : Option Addr) (n c : Nat) (xs : List Int) (w : World) (h : InI w A n xs) :
    Calls Tryd.prog 37 #[.agg #[.bool g, .slice A n c]] w fun e w' => BOkEnd g xs e ∧ Below w.heap.size w w' := by
  have H := Lib.hid h
  have hn := h.2.1
  clear h
  have con := fun (x : Value) (t : TypeId) => impl_natOk' A n c xs (w.alloc (.cells #[.bool g, x] t)) (H.out.below ((Below.refl _ _).alloc (Nat.le_refl _) _))
  have Con := Lib.hid con
  clear con
  have HF0 := Lib.hid (fun b (hb : NatOkIs xs b) => bigOk_mk (g := g) hb H.out.1)
  by_cases h0 : 0 < n
  all_goals
    cases g
    all_goals
      go_enter Tryd.func37, Tryd.ntmps37
      go_wp2_with fail
      refine (Con.out _ _).mono ?_
      rintro e w1 ⟨⟨b, rfl, hb⟩, rfl⟩
      have HF := Lib.hid (HF0.out _ hb)
      clear hb
      cases b
      all_goals
        go_wp2_with fail
        go_ret
        exact ⟨⟨_, rfl, by have := HF.out; simpa [h0] using this⟩, (Below.refl _ _).alloc (Nat.le_refl _) _⟩
theorem impl_bigIntOk (g : Bool) (A : Option Addr) (n c : Nat) (xs : List Int) (w : World) (h : InI w A n xs) (_hR : Room A n c) :
    Calls Tryd.prog 37 #[.agg #[.bool g, .slice A n c]] w fun e w' => ∃ b, e = .returned (.bool b) ∧ BigIntOkIs g xs b ∧ Below w.heap.size w w' :=
  (impl_bigOk' g A n c xs w h).mono fun _ _ ⟨⟨b, he, hi⟩, hw⟩ => ⟨b, he, hi, hw⟩


theorem natOf_ok {n : Int} {r : List Int} (h : NatOfIs n r) (hn : n ≤ 9223372036854775807) : Ok r := by
  refine ⟨h.1, ?_⟩
  have hp : pw 3 = 1000000000000000000000000000 := by decide
  have : r.length ≤ 3 := short_of h.1 (by rw [h.2, hp]; split <;> omega)
  omega
theorem of_pos_i {n : Int} {r : List Int} (hn : 0 ≤ n) (hn1 : n ≤ 9223372036854775807) (h : NatOfIs n r) : BigIntOfIs n (sgn false r) r := by
  have hok := natOf_ok h hn1
  exact of_pos hn h (ok_cap hok)
theorem of_neg_i {n : Int} {a b r : List Int} (hn : n < 0) (hn1 : -9223372036854775808 ≤ n) (ha : NatOfIs (-(n + 1)) a) (hb : NatOfIs 1 b) (h : NatAddIs a b r) : BigIntOfIs n (sgn true r) r := by
  obtain ⟨l, hc, hv, hr⟩ := bin_cap h ⟨natOf_ok ha (by omega), natOf_ok hb (by omega)⟩
  refine make_rep (n := true) ⟨l, hc, rfl, hr⟩ ?_ (fun _ => by simp; omega)
  have e1 := ha.2
  have e2 := hb.2
  rw [if_neg (by omega)] at e2
  rw [hv, e2, e1]; split <;> omega
theorem own_rows {w w1 : World} {v : Value} {r : List Int} (h : ResI w w1 v r) : ∃ A c, v = .slice A r.length c ∧ r.length ≤ 4194304 ∧ w1.ownsRow w.heap.size 3 1 (.slice A r.length c) r.length (r.map (.int .i64)) := by
  obtain ⟨A, c, rfl⟩ := own_slice h.2
  exact ⟨A, c, rfl, h.1, h.2⟩
end Go.Proofs.YtjggdbakbhacjaaDoor
namespace Go.Proofs.YtjggdbakbhacjaaDoor
set_option maxRecDepth 100000
open Go.RowKit


theorem add_q {s t : Int} {q : Bool} {a b r : List Int} (k1 : SOk s a) (k2 : SOk t b) (hst : s = t) (hq : decide (s = -1) = q) (h : NatAddIs a b r) : BRep (s * val a + t * val b) (sgn q r) r := by
  subst hst hq
  exact add_s k1 k2 (bin_cap h ⟨k1.1, k2.1⟩)
theorem sub_q {s t : Int} {q : Bool} {a b r : List Int} (k1 : SOk s a) (k2 : SOk t b) (hst : ¬ s = t) (hq : decide (s = -1) = q) (hle : val b ≤ val a) (h : NatSubIs a b r) : BRep (s * val a + t * val b) (sgn q r) r := by
  subst hq
  exact sub_s k1 k2 hst hle (bin_cap h ⟨k1.1, k2.1, hle⟩)
theorem sub_q' {s t : Int} {q : Bool} {a b r : List Int} (k1 : SOk s a) (k2 : SOk t b) (hst : ¬ s = t) (hq : decide (t = -1) = q) (hle : val a ≤ val b) (h : NatSubIs b a r) : BRep (s * val a + t * val b) (sgn q r) r := by
  rw [Int.add_comm]
  exact sub_q k2 k1 (fun e => hst e.symm) hq hle h
end Go.Proofs.YtjggdbakbhacjaaDoor
namespace Go.Proofs.YtjggdbakbhacjaaDoor
set_option maxRecDepth 100000
open Go.RowKit

theorem add_i {g1 g2 h : Bool} {xs ys r : List Int} {s1 s2 : Int} (k1 : BOk g1 xs) (k2 : BOk g2 ys) (e1 : bval g1 xs = s1 * val xs) (e2 : bval g2 ys = s2 * val ys) (q : BRep (s1 * val xs + s2 * val ys) h r) : BigIntAddIs g1 xs g2 ys h r :=
  .inl ⟨⟨k1, k2⟩, by rwa [e1, e2]⟩
theorem sub_i {g1 g2 h : Bool} {xs ys r : List Int} {s1 s2 : Int} (k1 : BOk g1 xs) (k2 : BOk g2 ys) (e1 : bval g1 xs = s1 * val xs) (e2 : bval g2 ys = s2 * val ys) (q : BRep (s1 * val xs + -s2 * val ys) h r) : BigIntSubIs g1 xs g2 ys h r :=
  .inl ⟨⟨k1, k2⟩, by rw [e1, e2]; rwa [Int.neg_mul, ← Int.sub_eq_add_neg] at q⟩
theorem mul_i {g1 g2 q : Bool} {xs ys r : List Int} {s1 s2 p : Int} (k1 : BOk g1 xs) (k2 : BOk g2 ys) (s1k : SOk s1 xs) (s2k : SOk s2 ys) (e1 : bval g1 xs = s1 * val xs) (e2 : bval g2 ys = s2 * val ys) (hp : s1 * s2 = p) (hq : decide (p = -1) = q) (h : NatMulIs xs ys r) : BigIntMulIs g1 xs g2 ys (sgn q r) r := by
  subst hq hp
  exact .inl ⟨⟨k1, k2⟩, by rw [e1, e2]; exact mul_s s1k s2k (bin_cap h ⟨k1.1, k2.1⟩)⟩
end Go.Proofs.YtjggdbakbhacjaaDoor
namespace Go.Proofs.YtjggdbakbhacjaaDoor
set_option maxRecDepth 100000
open Go.RowKit

theorem cmpV_anti (a b : Int) : cmpV b a = - cmpV a b := by
  unfold cmpV
  by_cases h : a < b
  · rw [if_neg (by omega), if_neg (by omega), if_pos h]; rfl
  · by_cases e : a = b
    · subst e; simp
    · rw [if_pos (by omega), if_neg h, if_neg e]
theorem cmp_s_lt {s t : Int} {a b : List Int} (k1 : SOk s a) (k2 : SOk t b) (h : s < t) : s * val a < t * val b := by
  rcases k1.2 with ⟨rfl, h1⟩ | ⟨rfl, h1⟩ | ⟨rfl, h1⟩ <;> rcases k2.2 with ⟨rfl, h2⟩ | ⟨rfl, h2⟩ | ⟨rfl, h2⟩ <;> omega
theorem cmp_s_eq {s : Int} {a b : List Int} (k1 : SOk s a) : s * cmpV (val a) (val b) = cmpV (s * val a) (s * val b) := by
  rcases k1.2 with ⟨rfl, h1⟩ | ⟨rfl, h1⟩ | ⟨rfl, h1⟩
  · rw [show (-1 : Int) * val a = - val a by omega, show (-1 : Int) * val b = - val b by omega, cmp_neg, cmpV_anti]; omega
  · rw [Int.zero_mul, Int.zero_mul, Int.zero_mul, cmpV_eq rfl]
  · rw [Int.one_mul, Int.one_mul, Int.one_mul]

theorem apart_with {u v : Value} {A : Option Addr} {n c : Nat} (h : Apart u (.slice A n c)) (hv : v = .slice A n c ∨ v = .slice none 0 0) : Apart u v := by
  rcases hv with rfl | rfl
  · exact h
  · intro k _ hk; simp [Value.ownBlock] at hk
end Go.Proofs.YtjggdbakbhacjaaDoor
