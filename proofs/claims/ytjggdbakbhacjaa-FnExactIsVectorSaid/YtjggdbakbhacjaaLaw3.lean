/- For the laws on lists of fractions: what a variable holds, whatever its type, as one fact; the helpers in that form. -/
import Derived.Test.YtjggdbakbhacjaaVecMem2
import Derived.Test.YtjggdbakbhacjaaRatS2
namespace Go.Proofs.Ytjggdbakbhacjaa
set_option maxRecDepth 100000
open Go.RowKit

theorem OwnV.holds_marked {w : World} {base n K : Nat} {V : Value} {L : List El} (h : OwnV w base V n (markL K L)) : Holds w (footV V L) fun w => OwnV w base V n (markL K L) :=
  ⟨fun k hk => (h.lt k (foot_congr (markL_vu K L).symm hk)).2, h, fun _ hb => h.dep fun k hk => hb k (foot_congr (markL_vu K L) hk)⟩
theorem vnow {w : World} {F : Nat → Prop} {base n : Nat} {V : Value} {L : List El} (h : Hid (Holds w F fun w => OwnV w base V n L)) : OwnV w base V n L := h.out.now
theorem inow {w : World} {F : Nat → Prop} {base n : Nat} {E : TypeId} {size : Nat} {v : Value} {xs : List Value} (h : Hid (Holds w F fun w => w.ownsRow base E size v n xs)) : w.ownsRow base E size v n xs := h.out.now
theorem enow {w : World} {F : Nat → Prop} {base : Nat} {e : El} (h : Hid (Holds w F fun w => e.own w base)) : e.own w base := h.out.now
theorem El.own.holds {w : World} {base : Nat} {e : El} (h : e.own w base) : Holds w e.foot fun w => e.own w base := ⟨fun k hk => (h.lt k hk).2, h, fun _ hb => h.dep hb⟩
theorem mtot_has : ∀ {L : List El} {rs : List RD}, Has L rs → mtot L = rs.length + tot rs
  | [], [], _ => rfl
  | e :: L, r :: rs, h => by
    have := mtot_has h.2
    have h1 := h.1.2.1
    have h2 := h.1.2.2.2.1
    simp only [mtot, tot, RD.tot, List.length_cons, this, h1, h2]; omega
theorem IsV.fits {w : World} {A : Option Addr} {n : Nat} {rs : List RD} (h : IsV w A n rs) (hm : n + tot rs ≤ 1048576) : ∀ r ∈ rs, r.fits := fun r hr => by
  obtain ⟨j, hj, rfl⟩ := List.mem_iff_getElem.1 hr
  have ht := tot_at (List.getElem?_eq_getElem hj)
  rcases h.2.2 with h0 | ⟨b, o, hA, hlt, hat⟩
  · have := h.1; omega
  · obtain ⟨A1, n1, c1, B1, m1, d1, _, _, _, i1, i2⟩ := hat j hj
    unfold RD.tot at ht
    exact ⟨⟨by omega, by omega⟩, i1.2.2.2, i2.2.2.2⟩
theorem IsV.le {w : World} {A : Option Addr} {n : Nat} {rs : List RD} (h : IsV w A n rs) : n ≤ maxLen := h.2.1
/-- A list of the call's own as what is handed to a function. -/
theorem vin {w : World} {F : Nat → Prop} {base n c : Nat} {A : Option Addr} {L : List El} {rs : List RD} (h : Hid (Holds w F fun w => OwnV w base (.slice A n c) n L)) (hh : Hid (Has L rs)) (hn : n ≤ 1048576) (hf : Hid (∀ r ∈ rs, r.fits)) : InV w A n rs := (vnow h).in_ hh.out hn hf.out
theorem szRat_any (g : Bool) (A : Option Addr) (n c : Nat) (B : Option Addr) (m d : Nat) (left : Int) (w : World) (hn : n ≤ maxLen) (hm : m ≤ maxLen) (h0 : 0 ≤ left) (hl : left ≤ 1048576) :
    Calls Try.prog 33 #[.agg #[.bool g, .slice A n c, .slice B m d], .int .i64 left] w fun e w' => SzEnd left (n + m) w w' e := by
  by_cases h : left - n - m < 0
  · exact (szRat_neg g A n c B m d left w h0 hl hn hm h).mono fun e w' ⟨he, hb⟩ => ⟨-1, he, .inl rfl, hb⟩
  · exact (szRat_pos g A n c B m d left w h0 hl h).mono fun e w' ⟨he, hb⟩ => ⟨left - n - m, he, .inr ⟨by omega, by omega⟩, hb⟩
/-- A fraction of the call's own, written out. -/
def ratEl (g : Bool) (A : Option Addr) (n c : Nat) (xs : List Value) (B : Option Addr) (m d : Nat) (ys : List Value) : El := ⟨g, .slice A n c, n, xs, .slice B m d, m, ys⟩
theorem row1 {w : World} {F : Nat → Prop} {base : Nat} {g : Bool} {A : Option Addr} {n c : Nat} {xs : List Value} {B : Option Addr} {m d : Nat} {ys : List Value} (h : Hid (Holds w F fun w => (ratEl g A n c xs B m d ys).own w base)) : w.ownsRow base 3 1 (.slice A n c) n xs := h.out.now.1
theorem row2 {w : World} {F : Nat → Prop} {base : Nat} {g : Bool} {A : Option Addr} {n c : Nat} {xs : List Value} {B : Option Addr} {m d : Nat} {ys : List Value} (h : Hid (Holds w F fun w => (ratEl g A n c xs B m d ys).own w base)) : w.ownsRow base 3 1 (.slice B m d) m ys := h.out.now.2.1
def ToREnd (g : Bool) (n : Nat) (xs : List Int) (m : Nat) (ds : List Int) (w w' : World) (e : Ending) : Prop :=
  ∃ A c B d, e = .returned (.agg #[.bool g, .slice A n c, .slice B m d]) ∧ (ratEl g A n c (xs.map (.int .i64)) B m d (ds.map (.int .i64))).own w' w.heap.size ∧ Below w.heap.size w w'
theorem toRat_el (g : Bool) (A : Option Addr) (n c : Nat) (xs : List Int) (B : Option Addr) (m d : Nat) (ds : List Int) (w : World)
    (hn : xs.length = n) (hl : n ≤ 1048576) (hr : Reads w A (xs.map (.int .i64))) (hm : ds.length = m) (hk : m ≤ 1048576) (hs : Reads w B (ds.map (.int .i64))) :
    Calls Try.prog 35 #[.agg #[.bool g, .slice A n c, .slice B m d]] w fun e w' => ToREnd g n xs m ds w w' e := by
  refine (toRat_any g A n c xs B m d ds w hn hl hr hm hk hs).mono fun e w' h => ?_
  obtain ⟨v, u, he, h1, h2, h3, hb⟩ := h
  obtain ⟨A1, c1, rfl⟩ := own_slice h1
  obtain ⟨B1, d1, rfl⟩ := own_slice h2
  exact ⟨A1, c1, B1, d1, he, ⟨h1, h2, h3⟩, hb⟩
def MarkEEnd (base : Nat) (g : Bool) (A : Option Addr) (n c : Nat) (xs : List Value) (B : Option Addr) (m d : Nat) (ys : List Value) (K : Nat) (w w' : World) (e : Ending) : Prop :=
  e = .returned (.int .i64 ((K + n + m : Nat) : Int)) ∧ (ratEl g A n c (marks markI K n) B m d (marks markI (K + n) m)).own w' base ∧ Wrote (ratEl g A n c xs B m d ys).foot w w'
theorem markRat_el (base : Nat) (g : Bool) (A : Option Addr) (n c : Nat) (xs : List Value) (B : Option Addr) (m d : Nat) (ys : List Value) (K : Nat) (w : World) (hK : K + n + m < maxLen) (h : (ratEl g A n c xs B m d ys).own w base)
    (hx : ∀ x ∈ xs, ∃ z, x = Value.int .i64 z) (hy : ∀ x ∈ ys, ∃ z, x = Value.int .i64 z) :
    Calls Try.prog 16 #[.agg #[.bool g, .slice A n c, .slice B m d], .int .i64 K] w fun e w' => MarkEEnd base g A n c xs B m d ys K w w' e := by
  refine (markRat_own g base base A n c B m d K xs ys w hK h.1 hx h.2.1 hy h.2.2).mono fun e w' hh => ?_
  obtain ⟨w1, he, h1, g1, h2, g2⟩ := hh
  refine ⟨he, ⟨h1.kept g2 (apart_of (Apart.symm h.2.2)), h2, h.2.2⟩, ?_⟩
  exact ((Wrote.of_grown g1).mono fun k _ hk => .inl hk).trans ((Wrote.of_grown g2).mono fun k _ hk => .inr hk)
theorem El.own.holds_foot {w : World} {base : Nat} {g : Bool} {A : Option Addr} {n c : Nat} {xs xs' : List Value} {B : Option Addr} {m d : Nat} {ys ys' : List Value} (h : (ratEl g A n c xs' B m d ys').own w base) :
    Holds w (ratEl g A n c xs B m d ys).foot fun w => (ratEl g A n c xs' B m d ys').own w base := h.holds
theorem two_none {F G : Nat → Prop} {a b c d : Nat} (u : Hid (∀ k, F k → a ≤ k ∧ k < b)) (v : Hid (∀ k, G k → c ≤ k ∧ k < d)) (h : b ≤ c ∨ d ≤ a) : ∀ k, F k → ¬ G k := fun k hk hg => by
  have h1 := u.out k hk
  have h2 := v.out k hg
  omega
theorem Box.wrote {w w' : World} {g : Nat} {t : TypeId} {cs : Array Value} {G : Nat → Prop} (h : Box w g t cs) (hW : Wrote G w w') {c d : Nat} (v : Hid (∀ k, G k → c ≤ k ∧ k < d)) (ho : g < c ∨ d ≤ g) : Box w' g t cs :=
  (hW.block g h.lt fun hg => by have := v.out g hg; omega).trans h
end Go.Proofs.Ytjggdbakbhacjaa
