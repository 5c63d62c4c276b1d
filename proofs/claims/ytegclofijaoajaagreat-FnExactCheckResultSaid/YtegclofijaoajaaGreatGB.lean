/- Contracts of the model's big integers. -/
import Derived.Test.YtegclofijaoajaaGreatGA
import Derived.Test.YtegclofijaoajaaGreatGN
import Derived.Test.YtegclofijaoajaaGreatGJ
import Derived.Lib.SmallJoins
import Derived.Deep.DeepCutAuto
namespace Go.Proofs.YtegclofijaoajaaGreat
set_option maxRecDepth 100000
open Go.RowKit

/-- There is room for what a slice holds. -/
def Room (A : Option Addr) (n c : Nat) : Prop := n ≤ c ∧ (A = none → c = 0)
theorem room_own {w : World} {base : Nat} {E : TypeId} {size n c : Nat} {A : Option Addr} {xs : List Value} (h : w.ownsRow base E size (.slice A n c) n xs) : Room A n c := by
  refine ⟨(own_cap h).1, ?_⟩
  rintro rfl
  rcases h.2 with ⟨hv, _⟩ | ⟨g, cap, cur, hv, _⟩
  · cases hv; rfl
  · cases hv
set_option maxHeartbeats 800000 in
theorem spec_trimR (A : Option Addr) (n c : Nat) (xs : List Int) (w : World) (hn : xs.length = n) (hb : n ≤ 4194304) (hR : Room A n c) (hr : Reads w A (xs.map (.int .i64))) :
    Calls Tryz.prog 219 #[.slice A n c] w fun e w' => (∃ m, e = .returned (.slice A m c) ∧ Trimmed xs m) ∧ w = w' := by
  have hcap := hR.1
  have Hn := Lib.hid hn
  have Hr := Lib.hid hr
  by_cases h0 : n = 0
  · have hfin : Hid (Trimmed xs 0) := ⟨Nat.zero_le _, fun j hj _ => absurd hj (by rw [hn]; omega), by simp⟩
    have hA : (A = none ∧ c = 0) ∨ ∃ g o s, A = some ⟨g, o, s⟩ := by
      cases A with
      | none => exact .inl ⟨rfl, hR.2 rfl⟩
      | some a => exact .inr ⟨a.block, a.off, a.spot, rfl⟩
    clear hn hr hR
    subst h0
    rcases hA with ⟨rfl, rfl⟩ | ⟨g, o, s, rfl⟩
    all_goals
      go_enter Tryz.func219, Tryz.ntmps219
      go_wp2_with fail
      refine wp_loop_rounds 1 ?_
      rw [rounds_succ]
      go_wp2_with fail
    · go_ret
      exact ⟨⟨0, rfl, hfin.out⟩, rfl⟩
    · go_ret
      exact ⟨⟨0, rfl, hfin.out⟩, rfl⟩
  obtain ⟨g, o, rfl, hgs, hc⟩ := hr.at_ (by simp; omega)
  have HC := Lib.hid hc
  clear hn hr hR hc
  go_enter Tryz.func219, Tryz.ntmps219
  go_wp2_with fail
  go_loop [3] (fun x => ∃ m : Nat, m ≤ n ∧ x = .int .i64 m ∧ Hid (ZeroFrom xs m)) (fun x => (intOf x).toNat)
  case atStart => exact ⟨n, Nat.le_refl _, rfl, fun j hj hle => absurd hj (by rw [Hn.out]; omega)⟩
  case round =>
    obtain ⟨m, hm, rfl, hz⟩ := hrel
    by_cases hm0 : m = 0
    · have hfin : Hid (Trimmed xs 0) := ⟨Nat.zero_le _, by rw [← hm0]; exact hz.out, by simp⟩
      subst hm0
      go_wp2_with fail
      go_ret
      exact ⟨⟨0, rfl, hfin.out⟩, rfl⟩
    · obtain ⟨k, rfl⟩ : ∃ k, m = k + 1 := ⟨m - 1, by omega⟩
      have hkx : k < xs.length := by rw [Hn.out]; omega
      obtain ⟨z, hzk⟩ : ∃ z, z = xs[k] := ⟨_, rfl⟩
      have hcell : w.cell? ⟨g, o + k, none⟩ = some (.int .i64 z) := by
        rw [HC.out k (by simpa using hkx)]; simp [hzk]
      by_cases hz0 : z = 0
      · have hnx : Hid (ZeroFrom xs k) := zeroFrom_pred hz.out hkx (by rw [← hzk]; exact hz0)
        subst hz0
        clear hzk hm0
        go_wp2_with fail
        go_round
        case rel => exact ⟨k, by omega, by go_num, hnx⟩
        case measure => simp [intOf]
      · have hfin : Hid (Trimmed xs (k + 1)) := ⟨by omega, hz.out, by rw [take_last hkx, ← hzk]; simpa using hz0⟩
        have hz1 : (z == 0) = false := by simpa using hz0
        clear hzk hm0 hz0
        go_wp2_with fail
        go_ret
        exact ⟨⟨k + 1, rfl, hfin.out⟩, rfl⟩
set_option maxHeartbeats 400000 in
theorem spec_capR (A : Option Addr) (n c : Nat) (xs : List Int) (w : World) (hn : xs.length = n) (hb : n ≤ 4194304) (hR : Room A n c) (hr : Reads w A (xs.map (.int .i64))) :
    Calls Tryz.prog 222 #[.slice A n c] w fun e w' => CapEnd xs A c e ∧ w = w' := by
  have con := Lib.hid (spec_trimR A n c xs w hn hb hR hr)
  clear hn hb hr hR
  go_enter Tryz.func222, Tryz.ntmps222
  go_wp2_with fail
  refine con.out.mono ?_
  rintro e w' ⟨⟨m, rfl, ht⟩, rfl⟩
  have Ht := Lib.hid ht
  clear ht con
  by_cases h60 : 60 < (m : Int)
  · go_wp2_with fail
    go_ret
    exact ⟨⟨m, Ht.out, .inl ⟨by omega, rfl⟩⟩, rfl⟩
  · go_wp2_with fail
    go_ret
    exact ⟨⟨m, Ht.out, .inr ⟨by omega, rfl⟩⟩, rfl⟩
/-- What a cut list reads as. -/
theorem CapEnd.reads {w : World} {A : Option Addr} {c : Nat} {xs : List Int} {e : Ending} (h : CapEnd xs A c e) (hr : InR xs) (ho : Reads w A (xs.map (.int .i64))) :
    ∃ l m B d, e = .returned (.slice B m d) ∧ Canon l ∧ val l = val xs ∧ (cap l).length = m ∧ m ≤ 60 ∧ Reads w B ((cap l).map (.int .i64)) := by
  obtain ⟨m, ht, h⟩ := h
  obtain ⟨hc, hv⟩ := ht.canon hr
  have hlm : (xs.take m).length = m := by have := ht.1; simp; omega
  rcases h with ⟨hm, rfl⟩ | ⟨hm, rfl⟩
  · have e : cap (xs.take m) = [] := by unfold cap; rw [if_pos (by omega)]
    exact ⟨xs.take m, 0, none, 0, rfl, hc, hv, by rw [e]; rfl, by omega, by rw [e]; exact .inl rfl⟩
  · have e : cap (xs.take m) = xs.take m := by unfold cap; rw [if_neg (by omega)]
    refine ⟨xs.take m, m, A, c, rfl, hc, hv, by rw [e, hlm], hm, ?_⟩
    rw [e]
    rcases ho with h0 | ⟨b, o, rfl, hb, hcs⟩
    · left; rw [List.map_eq_nil_iff] at h0; subst h0; simp
    · refine .inr ⟨b, o, rfl, hb, fun j hj => ?_⟩
      have := hcs j (by simp at hj ⊢; omega)
      rw [this]; simp

/-- A sign and limbs made to a big integer. -/
def MakeEnd (neg : Bool) (t : Int) (w w' : World) (e : Ending) : Prop := ∃ r v, e = .returned (.agg #[.bool (sgn neg r), v]) ∧ (∃ l, Canon l ∧ val l = t ∧ r = cap l) ∧ ResI w w' v r ∧ Below w.heap.size w w'
set_option maxHeartbeats 800000 in
theorem spec_make (neg : Bool) (A : Option Addr) (n c : Nat) (xs : List Int) (w : World) (hn : xs.length = n) (hb : n ≤ 4194304) (hR : Room A n c) (hr : Reads w A (xs.map (.int .i64))) (k1 : InR xs) :
    Calls Tryz.prog 160 #[.bool neg, .slice A n c] w fun e w' => MakeEnd neg (val xs) w w' e := by
  obtain ⟨i0, hi, hz0, hz1, hz2⟩ := info_parts Tryz.infoI
  have Hr := Lib.hid hr
  have con := fun W h => spec_capR A n c xs W hn hb hR h
  have Con := Lib.hid con
  have K1 := Lib.hid k1
  clear con hn hb hr hR k1
  go_enter Tryz.func160, Tryz.ntmps160
  go_wp2_with fail
  have hr1 : Hid (Reads (w.alloc (.cells #[.bool false, .slice none 0 0] 32)) A (xs.map (.int .i64))) := Hr.out.below ((Below.refl _ _).alloc (Nat.le_refl _) _)
  refine (Con.out _ hr1.out).mono ?_
  rintro e w1 ⟨hce, rfl⟩
  obtain ⟨l, m, B, d, rfl, hc, hv, hl, hm, hrd⟩ := hce.reads K1.out hr1.out
  obtain ⟨r, hrl⟩ : ∃ r, r = cap l := ⟨_, rfl⟩
  rw [← hrl] at hl hrd
  have HF : Hid (∃ l, Canon l ∧ val l = val xs ∧ r = cap l) := ⟨l, hc, hv, hrl⟩
  have HL := Lib.hid hl
  have HR := Lib.hid hrd
  have hsg : Hid ((neg && decide (0 < m)) = sgn neg r) := by
    unfold sgn Hid
    have : decide (0 < m) = decide (r ≠ []) := by
      rw [decide_eq_decide, ← hl]; exact List.length_pos_iff
    rw [this]
  clear hc hv hrl hl hrd hce hr1 Con K1
  obtain ⟨W, hW⟩ : ∃ W, W = w.alloc (.cells #[.bool false, .slice none 0 0] 32) := ⟨_, rfl⟩
  have hbox : Hid (Box W w.heap.size 32 #[.bool false, .slice none 0 0]) := by rw [hW]; exact Box.new _ _ _
  have hbw : Hid (Below w.heap.size w W) := by rw [hW]; exact (Below.refl _ _).alloc (Nat.le_refl _) _
  have hsz : W.heap.size = w.heap.size + 1 := by rw [hW]; simp
  have HSZ := Lib.hid hsz
  rw [← hW] at HR ⊢
  clear hW hsz
  have hbs : W.heap.size ≤ (W.alloc (.cells #[] 3)).heap.size := by simp
  have HR2 : Hid (Reads (W.alloc (.cells #[] 3)) B (r.map (.int .i64))) := HR.out.below ((Below.refl _ _).alloc (Nat.le_refl _) _)
  have HL2 : Hid ((r.map (Value.int .i64)).length = m) := by unfold Hid; rw [List.length_map, HL.out]
  have hcase : (neg = false ∧ Hid (sgn neg r = false)) ∨ (neg = true ∧ (m : Int) < 1 ∧ Hid (sgn neg r = false)) ∨ (neg = true ∧ 0 < m ∧ Hid (sgn neg r = true)) := by
    cases neg
    · exact .inl ⟨rfl, Lib.hid (by simp [sgn])⟩
    · by_cases h0 : m = 0
      · exact .inr (.inl ⟨rfl, by omega, by unfold Hid; rw [← hsg.out, h0]; rfl⟩)
      · exact .inr (.inr ⟨rfl, by omega, by unfold Hid; rw [← hsg.out]; simp; omega⟩)
  clear hsg
  rcases hcase with ⟨rfl, hs⟩ | ⟨rfl, h0, hs⟩ | ⟨rfl, h0, hs⟩
  all_goals
    go_wp2_with (at_builtin; refine wpList_append_reads rfl _ _ 30 rfl W.heap.size 3 i0 (.int .i64 0) 8 Tryz.underlying30 hi hz0 hz1 hz2 rfl _ _ _ rfl (World.ownsRow_lit W #[] 0 (Nat.le_refl _) (by simp) (by simp)) B m d (r.map (.int .i64)) rfl HL2.out HR2.out (by simp [Value.oneCell']) (by unfold maxLen; omega) (by omega) hbs ?_)
    intro v' w1 hown hg
    obtain ⟨A1, c1, rfl⟩ := own_slice hown
    have hb1 := (hbox.out.alloc (.cells #[] 3)).grown hg (by simp [Value.ownBlock, HSZ.out])
    have e0 := hb1.cell 0
    have e1 := hb1.cell 1
    have f0 := hb1.free 0
    have f1 := hb1.free 1
    simp at e0 e1
    have BX := Lib.hid hb1
    have HO := Lib.hid (own_base hown (by rw [HSZ.out]; omega : w.heap.size ≤ W.heap.size))
    have HO2 := Lib.hid hown
    have BW := Lib.hid ((hbw.out.alloc hbw.out.size (.cells #[] 3)).grown hg (by have := hbw.out.size; simp; omega) (fun k hk => by simp [Value.ownBlock] at hk; have := hbw.out.size; omega))
    clear hb1 hown hg
    go_wp2_with fail
    first
      | (refine bodyPost_ret (v := .agg #[.bool false, .slice A1 m c1]) ?_ rfl ?_; focus (simp [results, Tryz.results160, e0, e1, go_sem]; done))
      | (refine bodyPost_ret (v := .agg #[.bool false, .slice A1 m c1]) ?_ rfl ?_; focus (simp [results, Tryz.results160, e0, e1, go_sem]; omega))
      | (refine bodyPost_ret (v := .agg #[.bool true, .slice A1 m c1]) ?_ rfl ?_; focus (simp [results, Tryz.results160, e0, e1, go_sem]; done))
    refine ⟨r, .slice A1 m c1, by rw [hs.out], HF.out, ⟨by rw [HL.out]; omega, ?_⟩, (BW.out.setCell (Nat.le_refl _) _).setCell (Nat.le_refl _) _⟩
    rw [HL.out]
    exact own_base (own_set (own_set HO2.out (by simp [HSZ.out])) (by simp [HSZ.out])) (by rw [HSZ.out]; omega)
end Go.Proofs.YtegclofijaoajaaGreat
namespace Go.Proofs.YtegclofijaoajaaGreat
set_option maxRecDepth 100000
open Go.RowKit Go.ChangeShapes Go.WideShapes Go.Deep

theorem InI.len {w : World} {A : Option Addr} {n : Nat} {xs : List Int} (h : InI w A n xs) : xs.length = n := h.1
theorem InI.le {w : World} {A : Option Addr} {n : Nat} {xs : List Int} (h : InI w A n xs) : n ≤ 1048576 := h.2.1
theorem InI.rd {w : World} {A : Option Addr} {n : Nat} {xs : List Int} (h : InI w A n xs) : Reads w A (xs.map (.int .i64)) := h.2.2.1
theorem InI.bd {w : World} {A : Option Addr} {n : Nat} {xs : List Int} (h : InI w A n xs) : ∀ z ∈ xs, -9223372036854775808 ≤ z ∧ z ≤ 9223372036854775807 := h.2.2.2
theorem InI.own {w w1 : World} {A B : Option Addr} {n c base : Nat} {xs : List Int} (h : InI w A n xs) (o : w1.ownsRow base 3 1 (.slice B n c) n (xs.map (.int .i64))) : InI w1 B n xs := ⟨h.1, h.2.1, Reads.of_own o, h.2.2.2⟩
theorem ne_own {w : World} {g base : Nat} {t E : TypeId} {cs : Array Value} {size n : Nat} {v : Value} {xs : List Value} (h : Box w g t cs) (o : w.ownsRow base E size v n xs) (hne : E ≠ t := by decide) : some g ≠ v.ownBlock := by
  rcases o.2 with ⟨rfl, _⟩ | ⟨g', cap, cur, rfl, _, hg, _⟩
  · simp [Value.ownBlock]
  · intro he
    have e : g = g' := by simpa [Value.ownBlock] using he
    subst e
    unfold Box at h
    rw [h] at hg
    injection hg with hg
    injection hg with _ ht
    exact hne ht.symm
theorem own_box {w : World} {g base : Nat} {t E : TypeId} {cs : Array Value} {size n : Nat} {v : Value} {xs : List Value} (o : w.ownsRow base E size v n xs) (h : Box w g t cs) (i : Nat) (u : Value) (hne : E ≠ t := by decide) : (w.setCell ⟨g, i, none⟩ u).ownsRow base E size v n xs := by
  have hk := ne_own h o hne
  refine ⟨o.1, ?_⟩
  rcases o.2 with h | ⟨g', cap, cur, rfl, h2, h3, h4⟩
  · exact .inl h
  · refine .inr ⟨g', cap, cur, rfl, h2, (Below.heap_setCell w _ u g' ?_).trans h3, h4⟩
    intro e
    exact hk (by simp [Value.ownBlock, e])
/-! For the regions that draw: a cell of a box that is known, in whatever form the world has; matched with reducible transparency alone. -/
theorem cellS {w : World} {g i : Nat} {t : TypeId} {cs : Array Value} {v : Value} (h : Hid (Box w g t cs)) (hv : Hid (cs[i]? = some v)) : w.cell? ⟨g, i, none⟩ = some v := (h.out.cell i).trans hv.out
theorem hAlloc {w : World} {g : Nat} {t : TypeId} {cs : Array Value} (h : Hid (Box w g t cs)) (o : Obj) : Hid (Box (w.alloc o) g t cs) := Lib.hid (h.out.alloc o)
theorem hDrew {w : World} {g : Nat} {t : TypeId} {cs : Array Value} (h : Hid (Box w g t cs)) : Hid (Box w.drew g t cs) := Lib.hid h.out.drew
theorem hFar {w : World} {g : Nat} {t : TypeId} {cs : Array Value} (h : Hid (Box w g t cs)) {p : Addr} (hp : g ≠ p.block) (u : Value) : Hid (Box (w.setCell p u) g t cs) := Lib.hid (h.out.far hp u)
theorem own_drew {w : World} {base : Nat} {E : TypeId} {size n : Nat} {v : Value} {xs : List Value} (h : w.ownsRow base E size v n xs) : w.drew.ownsRow base E size v n xs := h
section
variable {P : Program} {H : Type} {enc : TypeId × Value → H} {w : World} {sp : Nat → Bool} {hd : Bool}
theorem ints_cell {t e : TypeId} {v : Value} {fuel : Nat} {x : DataW H × List MemPlace} (ht : P.underlying t = some (.slice e)) (he : P.underlying e = some (.int .i64)) (hc : P.cellsOf e = 1)
    (h : DataW.trod enc P w 0 sp hd fuel t [v] = some x) : ∃ A len cap xs, v = .slice A len cap ∧ IsInts w A len xs := by
  have h' := h
  rcases Go.ChangeShapes.open_ints ht he hc h with ⟨hcs, _⟩ | ⟨a, l, c, ss, hcs, _⟩
  · obtain rfl : v = .slice none 0 0 := by simpa using hcs
    obtain ⟨xs, hx⟩ := isInts_of ht he hc (⟨fuel, by simpa [Value.cells] using h'⟩ : DataW.Trod enc P w 0 sp hd t (Value.slice none 0 0) x.1 x.2)
    exact ⟨_, _, _, xs, rfl, hx⟩
  · obtain rfl : v = .slice (some a) l c := by simpa using hcs
    obtain ⟨xs, hx⟩ := isInts_of ht he hc (⟨fuel, by simpa [Value.cells] using h'⟩ : DataW.Trod enc P w 0 sp hd t (Value.slice (some a) l c) x.1 x.2)
    exact ⟨_, _, _, xs, rfl, hx⟩
end
end Go.Proofs.YtegclofijaoajaaGreat
namespace Go.Proofs.YtegclofijaoajaaGreat
set_option maxRecDepth 100000

theorem ok_cap_of {l r : List Int} (hr : r = cap l) (h : l.length ≤ 60) : r = l := by rw [hr]; unfold cap; rw [if_neg (by omega)]
theorem bval_abs {g : Bool} {l : List Int} (h : BOk g l) : val l = ((bval g l).natAbs : Int) := by
  have := h.nonneg
  cases g <;> simp [bval] <;> omega
theorem bok_unique {g g' : Bool} {l l' : List Int} (h : BOk g l) (h' : BOk g' l') (e : bval g l = bval g' l') : g = g' ∧ l = l' := by
  have hl : l = l' := canon_unique h.1.1 h'.1.1 (by rw [bval_abs h, bval_abs h', e])
  subst hl
  refine ⟨?_, rfl⟩
  cases g <;> cases g'
  · rfl
  · have := h'.pos; simp [bval] at e; omega
  · have := h.pos; simp [bval] at e; omega
  · rfl
/-- N / D in lowest terms, of whatever length. -/
def RLow (N D : Int) (g : Bool) (l d : List Int) : Prop := D ≠ 0 ∧ BOk g l ∧ Ok d ∧ 0 < val d ∧ Int.gcd (val l) (val d) = 1 ∧ bval g l * D = N * val d
def Short (l d : List Int) : Prop := l.length ≤ 24 ∧ d.length ≤ 24
/-- A valid fraction. -/
def ROk (g : Bool) (l d : List Int) : Prop := BOk g l ∧ Ok d ∧ 0 < val d ∧ Int.gcd (val l) (val d) = 1 ∧ Short l d
/-- What an operation gives: N / D where P holds and there is room, else the zero value. -/
def RIs (P : Prop) (N D : Int) (g : Bool) (l d : List Int) : Prop :=
  (P ∧ RLow N D g l d ∧ Short l d) ∨ (¬ (P ∧ ∃ g l d, RLow N D g l d ∧ Short l d) ∧ g = false ∧ l = [] ∧ d = [])
theorem dvd_antisymm_pos {a b : Int} (ha : 0 < a) (hb : 0 < b) (h : a ∣ b) (k : b ∣ a) : a = b := by
  have h1 := Int.le_of_dvd hb h
  have h2 := Int.le_of_dvd ha k
  omega
theorem gcd_bval {g : Bool} {l d : List Int} : Int.gcd (bval g l) (val d) = Int.gcd (val l) (val d) := by
  cases g <;> simp [bval]
theorem cross_dvd {n d n' d' : Int} (h : Int.gcd n d = 1) (e : n * d' = n' * d) : d ∣ d' := by
  have h1 : d ∣ n * d' := ⟨n', by rw [e, Int.mul_comm]⟩
  have h2 : d.natAbs ∣ n.natAbs * d'.natAbs := by rw [← Int.natAbs_mul]; exact Int.natAbs_dvd_natAbs.2 h1
  have h3 : Nat.Coprime d.natAbs n.natAbs := by unfold Nat.Coprime; rw [Nat.gcd_comm]; exact h
  exact Int.natAbs_dvd_natAbs.1 (h3.dvd_of_dvd_mul_left h2)
theorem rlow_unique {N D : Int} {g g' : Bool} {l l' d d' : List Int} (h : RLow N D g l d) (h' : RLow N D g' l' d') : g = g' ∧ l = l' ∧ d = d' := by
  obtain ⟨hD, h1, h2, h3, h4, h5⟩ := h
  obtain ⟨_, k1, k2, k3, k4, k5⟩ := h'
  have e : bval g l * val d' = bval g' l' * val d := by
    refine Int.eq_of_mul_eq_mul_right hD ?_
    have e1 : bval g l * val d' * D = bval g l * D * val d' := by rw [Int.mul_assoc, Int.mul_comm (val d'), ← Int.mul_assoc]
    have e2 : bval g' l' * val d * D = bval g' l' * D * val d := by rw [Int.mul_assoc, Int.mul_comm (val d), ← Int.mul_assoc]
    rw [e1, e2, h5, k5, Int.mul_assoc, Int.mul_assoc, Int.mul_comm (val d)]
  have hd : val d = val d' := dvd_antisymm_pos h3 k3 (cross_dvd (by rw [gcd_bval]; exact h4) e) (cross_dvd (by rw [gcd_bval]; exact k4) e.symm)
  have hdd := canon_unique h2.1 k2.1 hd
  subst hdd
  have hb := Int.eq_of_mul_eq_mul_right (by omega) e
  obtain ⟨rfl, rfl⟩ := bok_unique h1 k1 hb
  exact ⟨rfl, rfl, rfl⟩
theorem rIs_unique {P : Prop} {N D : Int} {g g' : Bool} {l l' d d' : List Int} (h : RIs P N D g l d) (h' : RIs P N D g' l' d') : g = g' ∧ l = l' ∧ d = d' := by
  rcases h with ⟨hp, h, hs⟩ | ⟨hn, rfl, rfl, rfl⟩ <;> rcases h' with ⟨hp', h', hs'⟩ | ⟨hn', rfl, rfl, rfl⟩
  · exact rlow_unique h h'
  · exact absurd ⟨hp, _, _, _, h, hs⟩ hn'
  · exact absurd ⟨hp', _, _, _, h', hs'⟩ hn
  · exact ⟨rfl, rfl, rfl⟩
theorem rIs_yes {P : Prop} {N D : Int} {g : Bool} {l d : List Int} (hp : P) (h : RLow N D g l d) (hs : Short l d) : RIs P N D g l d := .inl ⟨hp, h, hs⟩
theorem rIs_long {P : Prop} {N D : Int} {g : Bool} {l d : List Int} (h : RLow N D g l d) (hs : ¬ Short l d) : RIs P N D false [] [] :=
  .inr ⟨fun ⟨_, _, _, _, h', hs'⟩ => by obtain ⟨_, rfl, rfl⟩ := rlow_unique h h'; exact hs hs', rfl, rfl, rfl⟩
theorem rIs_no {P : Prop} {N D : Int} (h : ¬ P) : RIs P N D false [] [] := .inr ⟨fun k => h k.1, rfl, rfl, rfl⟩
theorem rIs_zero {P : Prop} {N D : Int} (h : D = 0) : RIs P N D false [] [] := .inr ⟨fun ⟨_, _, _, _, k, _⟩ => k.1 h, rfl, rfl, rfl⟩
theorem rIs_prop {P Q : Prop} {N D : Int} {g : Bool} {l d : List Int} (h : RIs P N D g l d) (hp : P) (hq : Q) : RIs Q N D g l d := by
  rcases h with ⟨_, h⟩ | ⟨hn, h⟩
  · exact .inl ⟨hq, h⟩
  · exact .inr ⟨fun k => hn ⟨hp, k.2⟩, h⟩
theorem ROk.low {g : Bool} {l d : List Int} (h : ROk g l d) : RLow (bval g l) (val d) g l d := ⟨by have := h.2.2.1; omega, h.1, h.2.1, h.2.2.1, h.2.2.2.1, rfl⟩
theorem RLow.ok {N D : Int} {g : Bool} {l d : List Int} (h : RLow N D g l d) (hs : Short l d) : ROk g l d := ⟨h.2.1, h.2.2.1, h.2.2.2.1, h.2.2.2.2.1, hs⟩
theorem RIs.ok {P : Prop} {N D : Int} {g : Bool} {l d : List Int} (h : RIs P N D g l d) (hd : d ≠ []) : ROk g l d := by
  rcases h with ⟨_, h, hs⟩ | ⟨_, _, _, e⟩
  · exact h.ok hs
  · exact absurd e hd
theorem ROk.bd {g : Bool} {l d : List Int} (h : ROk g l d) : (0 ≤ val l ∧ val l < pw 24) ∧ 0 < val d ∧ val d < pw 24 := by
  have h1 := val_lt h.1.1.1.1
  have h2 := val_lt h.2.1.1.1
  have h3 := pw_mono h.2.2.2.2.1
  have h4 := pw_mono h.2.2.2.2.2
  exact ⟨⟨h.1.nonneg, by omega⟩, h.2.2.1, by omega⟩

/-- One limb, 1. -/
theorem one_canon : Canon [1] := ⟨InR.one (by omega) (by omega), by simp⟩
theorem one_of {l : List Int} (h : Canon l) (hv : val l = 1) : l = [1] := canon_unique h one_canon (by rw [hv]; rfl)
theorem gcd_one {a b : Int} {r : List Int} (h : GcdIs a b r) : r = [1] ↔ Int.gcd a b = 1 := by
  constructor
  · intro e; have := h.2; rw [e] at this; simp [val] at this; omega
  · intro e; exact one_of h.1 (by rw [h.2, e]; rfl)
theorem gcd_pos_of {a b : Int} (hb : 0 < b) : 0 < (Int.gcd a b : Int) := by
  have : 0 < Int.gcd a b := Int.gcd_pos_of_ne_zero_right a (by omega)
  omega
theorem div_exact {a G : Int} {q r : List Int} (h : DivIs a G q r) (hd : G ∣ a) : a = val q * G := by
  obtain ⟨hq, hr, e, hlt⟩ := h
  have h0 := val_nonneg hr.1
  have h1 : G ∣ val r := by
    have h2 : G ∣ val q * G := ⟨val q, Int.mul_comm _ _⟩
    have h3 : val r = a - val q * G := by omega
    rw [h3]; exact Int.dvd_sub hd h2
  have h4 : val r = 0 := by
    rcases Int.lt_or_le 0 (val r) with h5 | h5
    · have := Int.le_of_dvd h5 h1; omega
    · omega
  omega
theorem gcd_reduced {a b G x y : Int} (hG : G = (Int.gcd a b : Int)) (h0 : 0 < G) (ha : a = x * G) (hb : b = y * G) : Int.gcd x y = 1 := by
  have h1 : Int.gcd (x * G) (y * G) = Int.gcd x y * G.natAbs := Int.gcd_mul_right _ _ _
  rw [← ha, ← hb] at h1
  have h2 : G.natAbs = Int.gcd a b := by omega
  rw [h2] at h1
  have h3 : 0 < Int.gcd a b := by omega
  exact Nat.eq_of_mul_eq_mul_right h3 (by rw [← h1, Nat.one_mul])
theorem sgn_bval (b : Bool) {l : List Int} (h : Canon l) : bval (sgn b l) l = if b = true then - val l else val l := by
  cases b
  · simp [sgn, bval]
  · by_cases e : l = []
    · subst e; simp [sgn, bval, val]
    · simp [sgn, bval, e]
theorem sgn_bok (b : Bool) {l : List Int} (h : Ok l) : BOk (sgn b l) l := ⟨h, fun e => by unfold sgn at e; simp at e; exact e.2⟩
/-- Numerator and denominator over their greatest common divisor. -/
theorem low_mk {g1 g2 : Bool} {xs ys q p : List Int} {G : Int} (k1 : BOk g1 xs) (k2 : BOk g2 ys) (hy : 0 < val ys) (hG : G = (Int.gcd (val xs) (val ys) : Int)) (hq : Ok q) (hp : Ok p) (ex : val xs = val q * G) (ey : val ys = val p * G) :
    RLow (bval g1 xs) (bval g2 ys) (sgn (g1 != g2) q) q p := by
  have h0 : 0 < G := by rw [hG]; exact gcd_pos_of hy
  have hp0 := val_nonneg hp.1.1
  have hpp : 0 < val p := by
    rcases Int.lt_or_le 0 (val p) with h | h
    · exact h
    · have : val p = 0 := by omega
      rw [this] at ey; omega
  have hD : bval g2 ys ≠ 0 := by cases g2 <;> simp [bval] <;> omega
  refine ⟨hD, sgn_bok _ hq, hp, hpp, gcd_reduced hG h0 ex ey, ?_⟩
  rw [sgn_bval _ hq.1]
  have e : val q * val ys = val xs * val p := by rw [ex, ey, Int.mul_assoc, Int.mul_comm G]
  cases g1 <;> cases g2 <;> simp [bval, Int.neg_mul, Int.mul_neg, e]
/-- The parts over their greatest common divisor, as a division gives them. -/
theorem low_div {g1 g2 : Bool} {xs ys G q r p s : List Int} (k1 : BOk g1 xs) (k2 : BOk g2 ys) (hy : 0 < val ys) (hG : GcdIs (val xs) (val ys) G) (hq : DivIs (val xs) (val G) q r) (hp : DivIs (val ys) (val G) p s) (lq : q.length ≤ 60) (lp : p.length ≤ 60) :
    RLow (bval g1 xs) (bval g2 ys) (sgn (g1 != g2) q) q p :=
  low_mk k1 k2 hy hG.2 ⟨hq.1, lq⟩ ⟨hp.1, lp⟩ (div_exact hq (by rw [hG.2]; exact Int.gcd_dvd_left _ _)) (div_exact hp (by rw [hG.2]; exact Int.gcd_dvd_right _ _))
theorem gcd_pos_list {a b : Int} {G : List Int} (hb : 0 < b) (h : GcdIs a b G) : 0 < val G := by rw [h.2]; exact gcd_pos_of hb

theorem bRep_small {t : Int} {g : Bool} {r : List Int} (h : BRep t g r) (h0 : -pw 60 < t) (h1 : t < pw 60) : BOk g r ∧ bval g r = t := by
  obtain ⟨l, hc, hv, hr, hg⟩ := id h
  have hl : l.length ≤ 60 := short_of hc (by rw [hv]; omega)
  exact bRep_ok h ⟨hc, hl⟩ hv
theorem bval_bd {g : Bool} {l : List Int} {B : Int} (h0 : 0 ≤ val l) (h : val l < B) : -B < bval g l ∧ bval g l < B := by
  cases g <;> simp [bval] <;> omega
theorem mul_bd {a b : Int} {j k : Nat} (a0 : -pw j < a) (a1 : a < pw j) (b0 : -pw k < b) (b1 : b < pw k) : -pw (j + k) < a * b ∧ a * b < pw (j + k) := by
  rw [pw_add]
  have hj := pw_pos j
  have hk := pw_pos k
  have h : (a * b).natAbs < (pw j * pw k).natAbs := by
    rw [Int.natAbs_mul, Int.natAbs_mul]
    exact Nat.mul_lt_mul'' (by omega) (by omega)
  have h2 := Int.mul_pos hj hk
  omega
theorem mul_bd24 {a b : Int} (a0 : -pw 24 < a) (a1 : a < pw 24) (b0 : -pw 24 < b) (b1 : b < pw 24) : -pw 48 < a * b ∧ a * b < pw 48 := mul_bd (j := 24) (k := 24) a0 a1 b0 b1
theorem ROk.nbd {g : Bool} {l d : List Int} (h : ROk g l d) : -pw 24 < bval g l ∧ bval g l < pw 24 := bval_bd h.bd.1.1 h.bd.1.2
theorem pw_le_60 {k : Nat} (h : k ≤ 60) : pw k ≤ pw 60 := pw_mono h
/-- Numerators over the product of both denominators. -/
def CrossIs (N : Int) (g : Bool) (r : List Int) : Prop := BOk g r ∧ bval g r = N ∧ -pw 48 < N ∧ N < pw 48
theorem cross_mk {g1 g2 h : Bool} {l1 d1 l2 d2 r : List Int} (k1 : ROk g1 l1 d1) (k2 : ROk g2 l2 d2) (q : BigIntMulIs g1 l1 false d2 h r) : CrossIs (bval g1 l1 * val d2) h r := by
  have hb := k1.nbd
  have hd := k2.bd.2
  obtain ⟨m0, m1⟩ := mul_bd24 hb.1 hb.2 (show -pw 24 < val d2 by have := pw_pos 24; omega) hd.2
  rcases q with ⟨_, q⟩ | ⟨q, _⟩
  · have e : bval false d2 = val d2 := rfl
    rw [e] at q
    have h60 := pw_le_60 (show 48 ≤ 60 by omega)
    obtain ⟨a, b⟩ := bRep_small q (by omega) (by omega)
    exact ⟨a, b, m0, m1⟩
  · exact absurd ⟨k1.1, k2.2.1, fun e => by cases e⟩ q
theorem nums_mk {g1 g2 h : Bool} {l1 d1 l2 d2 r : List Int} (k1 : ROk g1 l1 d1) (k2 : ROk g2 l2 d2) (q : BigIntMulIs g1 l1 g2 l2 h r) : CrossIs (bval g1 l1 * bval g2 l2) h r := by
  have hb := k1.nbd
  have hd := k2.nbd
  obtain ⟨m0, m1⟩ := mul_bd24 hb.1 hb.2 hd.1 hd.2
  rcases q with ⟨_, q⟩ | ⟨q, _⟩
  · have h60 := pw_le_60 (show 48 ≤ 60 by omega)
    obtain ⟨a, b⟩ := bRep_small q (by omega) (by omega)
    exact ⟨a, b, m0, m1⟩
  · exact absurd ⟨k1.1, k2.1⟩ q
theorem dens_mk {g1 g2 : Bool} {l1 d1 l2 d2 r : List Int} (k1 : ROk g1 l1 d1) (k2 : ROk g2 l2 d2) (q : NatMulIs d1 d2 r) : Ok r ∧ val r = val d1 * val d2 ∧ 0 < val r := by
  have b1 := k1.bd.2
  have b2 := k2.bd.2
  have hp := Int.mul_pos b1.1 b2.1
  have p24 := pw_pos 24
  obtain ⟨m0, m1⟩ := mul_bd24 (show -pw 24 < val d1 by omega) b1.2 (show -pw 24 < val d2 by omega) b2.2
  obtain ⟨l, hc, hv, hr⟩ := bin_cap q ⟨k1.2.1, k2.2.1⟩
  have hl : l.length ≤ 48 := short_of hc (by rw [hv]; exact m1)
  have e := ok_cap_of hr (by omega)
  subst e
  exact ⟨⟨hc, by omega⟩, hv, by rw [hv]; exact hp⟩
theorem pw_double : pw 48 + pw 48 ≤ pw 60 := by decide
theorem sum_mk {N M : Int} {g1 g2 h : Bool} {a b r : List Int} (k1 : CrossIs N g1 a) (k2 : CrossIs M g2 b) (q : BigIntAddIs g1 a g2 b h r) : BOk h r ∧ bval h r = N + M := by
  have h2 := pw_double
  obtain ⟨a1, a2, a3, a4⟩ := k1
  obtain ⟨b1, b2, b3, b4⟩ := k2
  rcases q with ⟨_, q⟩ | ⟨q, _⟩
  · rw [a2, b2] at q
    exact bRep_small q (by omega) (by omega)
  · exact absurd ⟨a1, b1⟩ q
/-! What each function gives. -/
def RatOkIs (g : Bool) (l d : List Int) (b : Bool) : Prop := b = true ↔ ROk g l d
section
variable {g1 g2 : Bool} {l1 d1 l2 d2 : List Int} {g g' : Bool} {l d l' d' : List Int}
def RatMakeIs (g1 : Bool) (xs : List Int) (g2 : Bool) (ys : List Int) (g : Bool) (l d : List Int) : Prop := RIs (BOk g1 xs ∧ BOk g2 ys) (bval g1 xs) (bval g2 ys) g l d
def RatOfIs (n m : Int) (g : Bool) (l d : List Int) : Prop := RIs True n m g l d
def RatFromIntIs (n : Int) (g : Bool) (l d : List Int) : Prop := RIs True n 1 g l d
theorem ratFromInt_unique {n : Int} (h : RatFromIntIs n g l d) (h' : RatFromIntIs n g' l' d') : g = g' ∧ l = l' ∧ d = d' := rIs_unique h h'
def RatAddIs (g1 : Bool) (l1 d1 : List Int) (g2 : Bool) (l2 d2 : List Int) (g : Bool) (l d : List Int) : Prop := RIs (ROk g1 l1 d1 ∧ ROk g2 l2 d2) (bval g1 l1 * val d2 + bval g2 l2 * val d1) (val d1 * val d2) g l d
def RatSubIs (g1 : Bool) (l1 d1 : List Int) (g2 : Bool) (l2 d2 : List Int) (g : Bool) (l d : List Int) : Prop := RIs (ROk g1 l1 d1 ∧ ROk g2 l2 d2) (bval g1 l1 * val d2 - bval g2 l2 * val d1) (val d1 * val d2) g l d
def RatMulIs (g1 : Bool) (l1 d1 : List Int) (g2 : Bool) (l2 d2 : List Int) (g : Bool) (l d : List Int) : Prop := RIs (ROk g1 l1 d1 ∧ ROk g2 l2 d2) (bval g1 l1 * bval g2 l2) (val d1 * val d2) g l d
def RatDivIs (g1 : Bool) (l1 d1 : List Int) (g2 : Bool) (l2 d2 : List Int) (g : Bool) (l d : List Int) : Prop := RIs (ROk g1 l1 d1 ∧ ROk g2 l2 d2) (bval g1 l1 * val d2) (bval g2 l2 * val d1) g l d
theorem ratAdd_unique (h : RatAddIs g1 l1 d1 g2 l2 d2 g l d) (h' : RatAddIs g1 l1 d1 g2 l2 d2 g' l' d') : g = g' ∧ l = l' ∧ d = d' := rIs_unique h h'
theorem ratMul_unique (h : RatMulIs g1 l1 d1 g2 l2 d2 g l d) (h' : RatMulIs g1 l1 d1 g2 l2 d2 g' l' d') : g = g' ∧ l = l' ∧ d = d' := rIs_unique h h'
def RatNegIs (g1 : Bool) (l1 d1 : List Int) (g : Bool) (l d : List Int) : Prop := RIs (ROk g1 l1 d1) (- bval g1 l1) (val d1) g l d
/-- One of two, told by C; the zero value where one of them is not valid. -/
def PickIs (P C : Prop) (g1 : Bool) (l1 d1 : List Int) (g2 : Bool) (l2 d2 : List Int) (g : Bool) (l d : List Int) : Prop :=
  (P ∧ C ∧ g = g1 ∧ l = l1 ∧ d = d1) ∨ (P ∧ ¬ C ∧ g = g2 ∧ l = l2 ∧ d = d2) ∨ (¬ P ∧ g = false ∧ l = [] ∧ d = [])
def RatMinIs (g1 : Bool) (l1 d1 : List Int) (g2 : Bool) (l2 d2 : List Int) (g : Bool) (l d : List Int) : Prop := PickIs (ROk g1 l1 d1 ∧ ROk g2 l2 d2) (bval g1 l1 * val d2 ≤ bval g2 l2 * val d1) g1 l1 d1 g2 l2 d2 g l d
def RatMaxIs (g1 : Bool) (l1 d1 : List Int) (g2 : Bool) (l2 d2 : List Int) (g : Bool) (l d : List Int) : Prop := PickIs (ROk g1 l1 d1 ∧ ROk g2 l2 d2) (bval g2 l2 * val d1 ≤ bval g1 l1 * val d2) g1 l1 d1 g2 l2 d2 g l d
end
def RatCmpIs (g1 : Bool) (l1 d1 : List Int) (g2 : Bool) (l2 d2 : List Int) (r : Int) : Prop :=
  ((ROk g1 l1 d1 ∧ ROk g2 l2 d2) ∧ r = cmpV (bval g1 l1 * val d2) (bval g2 l2 * val d1)) ∨ (¬ (ROk g1 l1 d1 ∧ ROk g2 l2 d2) ∧ r = 0)
def RatSignIs (g : Bool) (l d : List Int) (r : Int) : Prop := (ROk g l d ∧ r = sg g l.length) ∨ (¬ ROk g l d ∧ r = 0)
def RatEqualIs (g1 : Bool) (l1 d1 : List Int) (g2 : Bool) (l2 d2 : List Int) (b : Bool) : Prop := b = true ↔ g1 = g2 ∧ l1 = l2 ∧ d1 = d2
theorem rfrom_mk {n : Int} {g : Bool} {r : List Int} (h : BigIntOfIs n g r) (h0 : -9223372036854775808 ≤ n) (h1 : n ≤ 9223372036854775807) : RatFromIntIs n g r [1] := by
  have hp : pw 60 > 9223372036854775808 := by decide
  have hp3 : pw 3 > 9223372036854775808 := by decide
  obtain ⟨a, b⟩ := bRep_small h (by omega) (by omega)
  have hl : r.length ≤ 3 := short_of a.1.1 (by rw [bval_abs a, b]; omega)
  exact .inl ⟨trivial, ⟨by omega, a, ⟨one_canon, by simp⟩, by decide, by simp [val], by rw [b]; simp [val]⟩, by omega, by simp⟩
/-- A sum of whole numbers. -/
theorem add_whole {g1 g2 : Bool} {l1 d1 l2 d2 : List Int} {N : Int} {g : Bool} {l d : List Int} (k1 : ROk g1 l1 d1) (k2 : ROk g2 l2 d2) (e1 : d1 = [1]) (e2 : d2 = [1]) (hN : N = bval g1 l1 + bval g2 l2) (h : RIs True N 1 g l d) : RatAddIs g1 l1 d1 g2 l2 d2 g l d := by
  subst e1 e2 hN
  have e : val [1] = 1 := by simp [val]
  unfold RatAddIs
  rw [e, Int.mul_one, Int.mul_one, Int.mul_one]
  exact rIs_prop h trivial ⟨k1, k2⟩
end Go.Proofs.YtegclofijaoajaaGreat
namespace Go.Proofs.YtegclofijaoajaaGreat
set_option maxRecDepth 100000
open Go.RowKit

theorem Box.at' {w : World} {g : Nat} {t : TypeId} {cs : Array Value} (h : g = w.heap.size) : Box (w.alloc (.cells cs t)) g t cs := by subst h; exact Box.new _ _ _
theorem own_store3 {w : World} {g base : Nat} {t E : TypeId} {cs : Array Value} {size n : Nat} {v : Value} {xs : List Value} (o : w.ownsRow base E size v n xs) (h : Box w g t cs) (hne : E ≠ t) (u0 u1 u2 : Value) :
    (((w.setCell ⟨g, 0, none⟩ u0).setCell ⟨g, 1, none⟩ u1).setCell ⟨g, 2, none⟩ u2).ownsRow base E size v n xs :=
  own_box (own_box (own_box o h 0 u0 hne) (h.set_ 0 u0) 1 u1 hne) ((h.set_ 0 u0).set_ 1 u1) 2 u2 hne
theorem own_store2 {w : World} {g base : Nat} {t E : TypeId} {cs : Array Value} {size n : Nat} {v : Value} {xs : List Value} (o : w.ownsRow base E size v n xs) (h : Box w g t cs) (hne : E ≠ t) (u0 u1 : Value) :
    ((w.setCell ⟨g, 0, none⟩ u0).setCell ⟨g, 1, none⟩ u1).ownsRow base E size v n xs :=
  own_box (own_box o h 0 u0 hne) (h.set_ 0 u0) 1 u1 hne
theorem below_store3 {w W : World} {g : Nat} (hb : Below w.heap.size w W) (hg : w.heap.size ≤ g) (u0 u1 u2 : Value) : Below w.heap.size w (((W.setCell ⟨g, 0, none⟩ u0).setCell ⟨g, 1, none⟩ u1).setCell ⟨g, 2, none⟩ u2) := ((hb.setCell hg _).setCell hg _).setCell hg _
theorem apart_older' {w w1 : World} {base : Nat} {E E' : TypeId} {s s' n n' : Nat} {v u : Value} {xs ys : List Value} (h : w.ownsRow base E s v n xs) (k : w1.ownsRow w.heap.size E' s' u n' ys) : Apart u v := fun j hj hv => by
  have h1 := (h.lt j hv).2
  have h2 := (k.lt j hj).1
  omega

def ToRatEnd (g : Bool) (n : Nat) (xs : List Int) (m : Nat) (ds : List Int) (w w' : World) (e : Ending) : Prop :=
  ∃ v u, e = .returned (.agg #[.bool g, v, u]) ∧ w'.ownsRow w.heap.size 3 1 v n (xs.map (.int .i64)) ∧ w'.ownsRow w.heap.size 3 1 u m (ds.map (.int .i64)) ∧ Apart u v ∧ Below w.heap.size w w'
set_option maxHeartbeats 800000 in
theorem toRat_any (g : Bool) (A : Option Addr) (n c : Nat) (xs : List Int) (B : Option Addr) (m d : Nat) (ds : List Int) (w : World)
    (hn : xs.length = n) (hl : n ≤ 1048576) (hr : Reads w A (xs.map (.int .i64))) (hm : ds.length = m) (hk : m ≤ 1048576) (hs : Reads w B (ds.map (.int .i64))) :
    Calls Tryz.prog 134 #[.agg #[.bool g, .slice A n c, .slice B m d]] w fun e w' => ToRatEnd g n xs m ds w w' e := by
  have Hn := Lib.hid hn
  have Hm := Lib.hid hm
  have Hr := Lib.hid hr
  have Hs := Lib.hid hs
  clear hn hr hm hs
  obtain ⟨W, hW⟩ : ∃ W, W = (((w.alloc (.cells #[.bool g, .slice A n c, .slice B m d] 82)).alloc (.cells #[.bool false, .slice none 0 0, .slice none 0 0] 34)).alloc (.cells #[.bool false, .slice none 0 0, .slice none 0 0] 34)) := ⟨_, rfl⟩
  have hy0_0 : Hid (Box W w.heap.size 82 #[.bool g, .slice A n c, .slice B m d]) := by rw [hW]; exact ((Box.new _ _ _).alloc _).alloc _
  have hs_0 : Hid (Box W (w.heap.size + 1) 34 #[.bool false, .slice none 0 0, .slice none 0 0]) := by rw [hW]; exact (Box.at' (by simp)).alloc _
  have hy1_0 : Hid (Box W (w.heap.size + 1 + 1) 34 #[.bool false, .slice none 0 0, .slice none 0 0]) := by rw [hW]; exact Box.at' (by simp)
  have BW_0 : Hid (Below w.heap.size w W) := by rw [hW]; exact (((Below.refl _ _).alloc (Nat.le_refl _) _).alloc (by simp) _).alloc (by simp; omega) _
  have hWs : W.heap.size = w.heap.size + 1 + 1 + 1 := by rw [hW]; simp
  go_enter Tryz.func134, Tryz.ntmps134
  go_wp2_with fail
  rw [← hW]
  clear hW
  refine (toBigInt_any g A n c xs _ Hn.out hl (Hr.out.below BW_0.out)).mono ?_
  rintro e w1 ⟨v, rfl, ho, hb⟩
  have hy0_1 := Lib.hid (hy0_0.out.below hb hy0_0.out.lt)
  have hy1_1 := Lib.hid (hy1_0.out.below hb hy1_0.out.lt)
  have hs_1 := Lib.hid (hs_0.out.below hb hs_0.out.lt)
  have BW_1 := Lib.hid (BW_0.out.trans (hb.mono BW_0.out.size))
  obtain ⟨A1, c1, rfl⟩ := own_slice ho
  have HO := Lib.hid ho
  have hz : W.heap.size ≤ w1.heap.size := hb.size
  clear ho hb
  have ehy00 := hy0_1.out.cell 0
  have ehy01 := hy0_1.out.cell 1
  have ehy02 := hy0_1.out.cell 2
  have ehy10 := hy1_1.out.cell 0
  have ehy11 := hy1_1.out.cell 1
  have ehy12 := hy1_1.out.cell 2
  simp at ehy00 ehy01 ehy02 ehy10 ehy11 ehy12
  have fy0 := hy1_1.out.free 0
  have fy1 := hy1_1.out.free 1
  have fy2 := hy1_1.out.free 2
  go_wp2_with fail
  obtain ⟨W2, hW2⟩ : ∃ W2, W2 = (w1.setCell ⟨w.heap.size + 1 + 1, 0, none⟩ (.bool g)).setCell ⟨w.heap.size + 1 + 1, 1, none⟩ (.slice A1 n c1) := ⟨_, rfl⟩
  have HO2 : Hid (W2.ownsRow W.heap.size 3 1 (.slice A1 n c1) n (xs.map (.int .i64))) := by rw [hW2]; exact own_store2 HO.out hy1_1.out (by decide) _ _
  have hy1_2 : Hid (Box W2 (w.heap.size + 1 + 1) 34 #[.bool g, .slice A1 n c1, .slice none 0 0]) := by rw [hW2]; exact (hy1_1.out.set_ 0 _).set_ 1 _
  have hy0_2 : Hid (Box W2 w.heap.size 82 #[.bool g, .slice A n c, .slice B m d]) := by rw [hW2]; exact (hy0_1.out.far (by dsimp only; omega) _).far (by dsimp only; omega) _
  have hs_2 : Hid (Box W2 (w.heap.size + 1) 34 #[.bool false, .slice none 0 0, .slice none 0 0]) := by rw [hW2]; exact (hs_1.out.far (by dsimp only; omega) _).far (by dsimp only; omega) _
  have BW_2 : Hid (Below w.heap.size w W2) := by rw [hW2]; exact (BW_1.out.setCell (by dsimp only; omega) _).setCell (by dsimp only; omega) _
  have hz2 : W2.heap.size = w1.heap.size := by rw [hW2]; simp
  rw [← hW2]
  clear hW2 fy0 fy1 fy2
  clear ehy00 ehy01 ehy02 ehy10 ehy11 ehy12
  refine (toIntS_any B m d ds _ Hm.out hk (Hs.out.below BW_2.out)).mono ?_
  rintro e w3 ⟨u, rfl, ho, hb⟩
  have hy0_3 := Lib.hid (hy0_2.out.below hb hy0_2.out.lt)
  have hy1_3 := Lib.hid (hy1_2.out.below hb hy1_2.out.lt)
  have hs_3 := Lib.hid (hs_2.out.below hb hs_2.out.lt)
  have BW_3 := Lib.hid (BW_2.out.trans (hb.mono BW_2.out.size))
  have HAP := Lib.hid (apart_older' HO2.out ho)
  have HO3 := Lib.hid (own_below HO2.out hb)
  obtain ⟨B1, d1, rfl⟩ := own_slice ho
  have HU := Lib.hid ho
  clear ho hb
  have ehy10 := hy1_3.out.cell 0
  have ehy11 := hy1_3.out.cell 1
  have ehy12 := hy1_3.out.cell 2
  have ehs0 := hs_3.out.cell 0
  have ehs1 := hs_3.out.cell 1
  have ehs2 := hs_3.out.cell 2
  have fhs0 := hs_3.out.free 0
  have fhs1 := hs_3.out.free 1
  have fhs2 := hs_3.out.free 2
  simp at ehy10 ehy11 ehy12 ehs0 ehs1 ehs2
  have fy2 := hy1_3.out.free 2
  go_wp2_with fail
  refine bodyPost_ret (v := .agg #[.bool g, .slice A1 n c1, .slice B1 m d1]) (by simp [results, Tryz.results134, ehs0, ehs1, ehs2, go_sem]) rfl ?_
  have hs_4 := hs_3.out.far (p := ⟨w.heap.size + 1 + 1, 2, none⟩) (by dsimp only; omega) (.slice B1 m d1)
  refine ⟨_, _, rfl, ?_, ?_, HAP.out, ?_⟩
  · exact own_base (own_store3 (own_box HO3.out hy1_3.out 2 _ (by decide)) hs_4 (by decide) _ _ _) (by omega)
  · exact own_base (own_store3 (own_box HU.out hy1_3.out 2 _ (by decide)) hs_4 (by decide) _ _ _) (by omega)
  · exact below_store3 (BW_3.out.setCell (by dsimp only; omega) _) (by omega) _ _ _

set_option maxHeartbeats 800000 in
theorem eqRat_same (g : Bool) (A1 A2 : Option Addr) (n c1 c2 : Nat) (xs : List Int) (B1 B2 : Option Addr) (m d1 d2 : Nat) (ds : List Int) (w : World)
    (hn : xs.length = n) (hl : n ≤ maxLen) (h1 : Reads w A1 (xs.map (.int .i64))) (h2 : Reads w A2 (xs.map (.int .i64))) (hm : ds.length = m) (hk : m ≤ maxLen) (k1 : Reads w B1 (ds.map (.int .i64))) (k2 : Reads w B2 (ds.map (.int .i64))) :
    Calls Tryz.prog 111 #[.agg #[.bool g, .slice A1 n c1, .slice B1 m d1], .agg #[.bool g, .slice A2 n c2, .slice B2 m d2]] w fun e w' => e = .returned (.bool true) ∧ Below w.heap.size w w' := by
  have Hn := Lib.hid hn
  have H1 := Lib.hid h1
  have H2 := Lib.hid h2
  have Hm := Lib.hid hm
  have K1 := Lib.hid k1
  have K2 := Lib.hid k2
  clear hn h1 h2 hm k1 k2
  have hy0_0 := Lib.hid ((by have := Box.new w 34 #[.bool g, .slice A1 n c1, .slice B1 m d1]; simpa using this : Box (w.alloc (.cells #[.bool g, .slice A1 n c1, .slice B1 m d1] 34)) (w.heap.size) 34 #[.bool g, .slice A1 n c1, .slice B1 m d1]).alloc (.cells #[.bool g, .slice A2 n c2, .slice B2 m d2] 34))
  have hy1_0 := Lib.hid (by have := Box.new (w.alloc (.cells #[.bool g, .slice A1 n c1, .slice B1 m d1] 34)) 34 #[.bool g, .slice A2 n c2, .slice B2 m d2]; simpa using this : Box ((w.alloc (.cells #[.bool g, .slice A1 n c1, .slice B1 m d1] 34)).alloc (.cells #[.bool g, .slice A2 n c2, .slice B2 m d2] 34)) (w.heap.size + 1) 34 #[.bool g, .slice A2 n c2, .slice B2 m d2])
  have BW_0 := Lib.hid (((Below.refl w.heap.size w).alloc (by simp) (.cells #[.bool g, .slice A1 n c1, .slice B1 m d1] 34)).alloc (by simp) (.cells #[.bool g, .slice A2 n c2, .slice B2 m d2] 34))
  go_enter Tryz.func111, Tryz.ntmps111
  go_wp2_with fail
  refine (eqBigInt_same g A1 A2 n c1 c2 xs _ Hn.out hl (H1.out.below BW_0.out) (H2.out.below BW_0.out)).mono ?_
  rintro e w1 ⟨rfl, hb⟩
  have hy0_1 := Lib.hid (hy0_0.out.below hb hy0_0.out.lt)
  have hy1_1 := Lib.hid (hy1_0.out.below hb hy1_0.out.lt)
  have BW_1 := Lib.hid (BW_0.out.trans (hb.mono BW_0.out.size))
  clear hb
  have ehy00 := hy0_1.out.cell 0
  have ehy01 := hy0_1.out.cell 1
  have ehy02 := hy0_1.out.cell 2
  have ehy10 := hy1_1.out.cell 0
  have ehy11 := hy1_1.out.cell 1
  have ehy12 := hy1_1.out.cell 2
  simp at ehy00 ehy01 ehy02 ehy10 ehy11 ehy12
  go_wp2_with fail
  clear ehy00 ehy01 ehy02 ehy10 ehy11 ehy12
  refine (eqIntS_same B1 B2 m d1 d2 ds _ Hm.out hk (K1.out.below BW_1.out) (K2.out.below BW_1.out)).mono ?_
  rintro e w2 ⟨rfl, hb⟩
  have hy0_2 := Lib.hid (hy0_1.out.below hb hy0_1.out.lt)
  have hy1_2 := Lib.hid (hy1_1.out.below hb hy1_1.out.lt)
  have BW_2 := Lib.hid (BW_1.out.trans (hb.mono BW_1.out.size))
  clear hb
  go_wp2_with fail
  go_ret
  exact ⟨rfl, BW_2.out⟩

def MarkREnd (base1 base2 : Nat) (A : Option Addr) (n c : Nat) (B : Option Addr) (m d K : Nat) (w w' : World) (e : Ending) : Prop :=
  ∃ w1, e = .returned (.int .i64 ((K + n + m : Nat) : Int)) ∧ w1.ownsRow base1 3 1 (.slice A n c) n (marks markI K n) ∧ w.grownBy w1 (Value.slice A n c).ownBlock ∧
    w'.ownsRow base2 3 1 (.slice B m d) m (marks markI (K + n) m) ∧ w1.grownBy w' (Value.slice B m d).ownBlock
set_option maxHeartbeats 800000 in
theorem szRat_neg (g : Bool) (A : Option Addr) (n c : Nat) (B : Option Addr) (m d : Nat) (left : Int) (w : World) (h0 : 0 ≤ left) (hl : left ≤ 1048576) (hn : n ≤ maxLen) (hm : m ≤ maxLen) (h : left - n - m < 0) :
    Calls Tryz.prog 127 #[.agg #[.bool g, .slice A n c, .slice B m d], .int .i64 left] w fun e w' => e = .returned (.int .i64 (-1)) ∧ Below w.heap.size w w' := by
  have hy0_0 := Lib.hid (by have := Box.new w 82 #[.bool g, .slice A n c, .slice B m d]; simpa using this : Box (w.alloc (.cells #[.bool g, .slice A n c, .slice B m d] 82)) (w.heap.size) 82 #[.bool g, .slice A n c, .slice B m d])
  have BW_0 := Lib.hid ((Below.refl w.heap.size w).alloc (by simp) (.cells #[.bool g, .slice A n c, .slice B m d] 82))
  by_cases h1 : left - n < 0
  · go_enter Tryz.func127, Tryz.ntmps127
    go_wp2_with fail
    refine (szBigInt_neg g A n c left _ h0 hl hn h1).mono ?_
    rintro e w1 ⟨rfl, hb⟩
    have hy0_1 := Lib.hid (hy0_0.out.below hb hy0_0.out.lt)
    have BW_1 := Lib.hid (BW_0.out.trans (hb.mono BW_0.out.size))
    clear hb
    go_wp2_with fail
    go_ret
    exact ⟨rfl, BW_1.out⟩
  · go_enter Tryz.func127, Tryz.ntmps127
    go_wp2_with fail
    refine (szBigInt_pos g A n c left _ h0 hl (by omega)).mono ?_
    rintro e w1 ⟨rfl, hb⟩
    have hy0_1 := Lib.hid (hy0_0.out.below hb hy0_0.out.lt)
    have BW_1 := Lib.hid (BW_0.out.trans (hb.mono BW_0.out.size))
    clear hb
    have ehy00 := hy0_1.out.cell 0
    have ehy01 := hy0_1.out.cell 1
    have ehy02 := hy0_1.out.cell 2
    simp at ehy00 ehy01 ehy02
    go_wp2_with fail
    refine (szIntS_neg B m d (left - n) _ (by omega) (by omega) hm (by omega)).mono ?_
    rintro e w2 ⟨rfl, rfl⟩
    go_wp2_with fail
    go_ret
    exact ⟨rfl, BW_1.out⟩
set_option maxHeartbeats 800000 in
theorem szRat_pos (g : Bool) (A : Option Addr) (n c : Nat) (B : Option Addr) (m d : Nat) (left : Int) (w : World) (h0 : 0 ≤ left) (hl : left ≤ 1048576) (h : ¬ left - n - m < 0) :
    Calls Tryz.prog 127 #[.agg #[.bool g, .slice A n c, .slice B m d], .int .i64 left] w fun e w' => e = .returned (.int .i64 (left - n - m)) ∧ Below w.heap.size w w' := by
  have hy0_0 := Lib.hid (by have := Box.new w 82 #[.bool g, .slice A n c, .slice B m d]; simpa using this : Box (w.alloc (.cells #[.bool g, .slice A n c, .slice B m d] 82)) (w.heap.size) 82 #[.bool g, .slice A n c, .slice B m d])
  have BW_0 := Lib.hid ((Below.refl w.heap.size w).alloc (by simp) (.cells #[.bool g, .slice A n c, .slice B m d] 82))
  have h1 : ¬ left - n < 0 := by omega
  go_enter Tryz.func127, Tryz.ntmps127
  go_wp2_with fail
  refine (szBigInt_pos g A n c left _ h0 hl (by omega)).mono ?_
  rintro e w1 ⟨rfl, hb⟩
  have hy0_1 := Lib.hid (hy0_0.out.below hb hy0_0.out.lt)
  have BW_1 := Lib.hid (BW_0.out.trans (hb.mono BW_0.out.size))
  clear hb
  have ehy00 := hy0_1.out.cell 0
  have ehy01 := hy0_1.out.cell 1
  have ehy02 := hy0_1.out.cell 2
  simp at ehy00 ehy01 ehy02
  go_wp2_with fail
  refine (szIntS_pos B m d (left - n) _ (by omega) (by omega) (by omega)).mono ?_
  rintro e w2 ⟨rfl, rfl⟩
  go_wp2_with fail
  go_ret
  exact ⟨rfl, BW_1.out⟩
end Go.Proofs.YtegclofijaoajaaGreat
namespace Go.Proofs.YtegclofijaoajaaGreat
set_option maxRecDepth 100000
open Go.RowKit Go.ChangeShapes Go.WideShapes Go.Deep Go.Joins

section
variable {P : Program} {H : Type} {enc : TypeId × Value → H} {w : World} {sp : Nat → Bool} {hd : Bool}
end
end Go.Proofs.YtegclofijaoajaaGreat
namespace Go.Proofs.YtegclofijaoajaaGreat
set_option maxRecDepth 100000
open Go.RowKit

/-- A fraction as data: its sign, its two lists of limbs. -/
structure RD where
  g : Bool
  xs : List Int
  ds : List Int
/-- A fraction of a list of the call's own: its sign, its two slices, what lies there. -/
structure El where
  g : Bool
  v : Value
  n : Nat
  xs : List Value
  u : Value
  m : Nat
  ys : List Value
def El.cells (e : El) : List Value := [.bool e.g, e.v, e.u]
def El.zero : El := ⟨false, .slice none 0 0, 0, [], .slice none 0 0, 0, []⟩
def El.foot (e : El) (k : Nat) : Prop := e.v.ownBlock = some k ∨ e.u.ownBlock = some k
def El.own (w : World) (base : Nat) (e : El) : Prop := w.ownsRow base 3 1 e.v e.n e.xs ∧ w.ownsRow base 3 1 e.u e.m e.ys ∧ Apart e.u e.v
def El.has (e : El) (r : RD) : Prop := e.g = r.g ∧ e.n = r.xs.length ∧ e.xs = r.xs.map (.int .i64) ∧ e.m = r.ds.length ∧ e.ys = r.ds.map (.int .i64)
def Far (a b : El) : Prop := ∀ k, a.foot k → ¬ b.foot k
theorem Far.symm {a b : El} (h : Far a b) : Far b a := fun k hb ha => h k ha hb
def flat (L : List El) : List Value := L.flatMap El.cells
/-- A list of fractions of the call's own, from block base on. -/
def OwnV (w : World) (base : Nat) (V : Value) (n : Nat) (L : List El) : Prop :=
  L.length = n ∧ w.ownsRow base 34 3 V n (flat L) ∧ (∀ e ∈ L, e.own w base) ∧ L.Pairwise Far
def footV (V : Value) (L : List El) (k : Nat) : Prop := V.ownBlock = some k ∨ ∃ e ∈ L, e.foot k
/-- The elements hold these fractions. -/
def Has : List El → List RD → Prop
  | [], [] => True
  | e :: L, r :: rs => e.has r ∧ Has L rs
  | _, _ => False
theorem Has.length : ∀ {L : List El} {rs : List RD}, Has L rs → L.length = rs.length
  | [], [], _ => rfl
  | e :: L, r :: rs, h => by simp [Has.length h.2]
theorem Has.at_ : ∀ {L : List El} {rs : List RD}, Has L rs → ∀ j (h : j < L.length) (k : j < rs.length), L[j].has rs[j]
  | e :: L, r :: rs, h, 0, _, _ => h.1
  | e :: L, r :: rs, h, j + 1, hj, hk => Has.at_ h.2 j (by simpa using hj) (by simpa using hk)
theorem Has.append : ∀ {L M : List El} {rs ss : List RD}, Has L rs → Has M ss → Has (L ++ M) (rs ++ ss)
  | [], _, [], _, _, k => k
  | _ :: _, _, _ :: _, _, h, k => ⟨h.1, Has.append h.2 k⟩
theorem Has.set : ∀ {L : List El} {rs : List RD} (i : Nat) {e : El} {r : RD}, Has L rs → e.has r → Has (L.set i e) (rs.set i r)
  | [], [], _, _, _, _, _ => trivial
  | _ :: _, _ :: _, 0, _, _, h, k => ⟨k, h.2⟩
  | _ :: _, _ :: _, i + 1, _, _, h, k => ⟨h.1, Has.set i h.2 k⟩

theorem flat_length : ∀ L : List El, (flat L).length = L.length * 3
  | [] => rfl
  | e :: L => by
    have := flat_length L
    unfold flat at this ⊢
    rw [List.flatMap_cons, List.length_append, this, List.length_cons]
    simp [El.cells]; omega
theorem flat_cons (e : El) (L : List El) : flat (e :: L) = .bool e.g :: e.v :: e.u :: flat L := by simp [flat, El.cells]
theorem flat_append (L M : List El) : flat (L ++ M) = flat L ++ flat M := by simp [flat]
theorem flat_one (e : El) : flat [e] = [.bool e.g, e.v, e.u] := by simp [flat, El.cells]
theorem flat_at : ∀ (L : List El) (i : Nat) (h : i < L.length), (flat L)[i * 3]? = some (.bool L[i].g) ∧ (flat L)[i * 3 + 1]? = some L[i].v ∧ (flat L)[i * 3 + 2]? = some L[i].u
  | e :: L, 0, _ => by rw [flat_cons]; simp
  | e :: L, i + 1, h => by
    have := flat_at L i (by simpa using h)
    rw [flat_cons, show (i + 1) * 3 = i * 3 + 1 + 1 + 1 by omega]
    simpa using this
theorem flat_set : ∀ (L : List El) (i : Nat) (e : El), i < L.length → flat (L.set i e) = (((flat L).set (i * 3) (.bool e.g)).set (i * 3 + 1) e.v).set (i * 3 + 2) e.u
  | x :: L, 0, e, _ => by simp [flat_cons]
  | x :: L, i + 1, e, h => by
    have := flat_set L i e (by simpa using h)
    rw [List.set_cons_succ, flat_cons, flat_cons, this, show (i + 1) * 3 = i * 3 + 1 + 1 + 1 by omega]
    simp [List.set_cons_succ]
theorem flat_zero (n : Nat) : (madeCells (Value.agg #[.bool false, .slice none 0 0, .slice none 0 0]).cells (n * 3)).toList = flat (List.replicate n El.zero) := by
  apply List.ext_getElem?
  intro j
  by_cases hj : j < n * 3
  · have hi : j / 3 < (List.replicate n El.zero).length := by simp; omega
    obtain ⟨h0, h1, h2⟩ := flat_at (List.replicate n El.zero) (j / 3) hi
    have hz : (List.replicate n El.zero)[j / 3] = El.zero := by simp
    rw [hz] at h0 h1 h2
    have hm : j % 3 = 0 ∨ j % 3 = 1 ∨ j % 3 = 2 := by omega
    rcases hm with hm | hm | hm
    · rw [show j / 3 * 3 = j by omega] at h0
      rw [h0]; simp [madeCells, hj, hm, Value.cells, El.zero]
    · rw [show j / 3 * 3 + 1 = j by omega] at h1
      rw [h1]; simp [madeCells, hj, hm, Value.cells, El.zero]
    · rw [show j / 3 * 3 + 2 = j by omega] at h2
      rw [h2]; simp [madeCells, hj, hm, Value.cells, El.zero]
  · rw [List.getElem?_eq_none (by simp [madeCells]; omega), List.getElem?_eq_none (by rw [flat_length]; simp; omega)]

theorem pairwise_set {R : El → El → Prop} : ∀ {L : List El} (i : Nat) {e : El}, L.Pairwise R → (∀ x ∈ L, R x e ∧ R e x) → (L.set i e).Pairwise R
  | [], _, _, _, _ => by simp
  | x :: L, 0, e, h, he => by
    rw [List.set_cons_zero, List.pairwise_cons]
    rw [List.pairwise_cons] at h
    exact ⟨fun y hy => (he y (by simp [hy])).2, h.2⟩
  | x :: L, i + 1, e, h, he => by
    rw [List.set_cons_succ, List.pairwise_cons]
    rw [List.pairwise_cons] at h
    refine ⟨fun y hy => ?_, pairwise_set i h.2 fun y hy => he y (by simp [hy])⟩
    rcases List.mem_or_eq_of_mem_set hy with hy | rfl
    · exact h.1 y hy
    · exact (he x (by simp)).1

section
variable {w w' : World} {base : Nat} {V : Value} {n : Nat} {L : List El}
theorem El.own.dep {e : El} (h : e.own w base) (hb : ∀ k, e.foot k → w'.heap[k]? = w.heap[k]?) : e.own w' base :=
  ⟨own_dep h.1 fun k hk => hb k (.inl hk), own_dep h.2.1 fun k hk => hb k (.inr hk), h.2.2⟩
theorem El.own.lt {e : El} (h : e.own w base) (k : Nat) (hk : e.foot k) : base ≤ k ∧ k < w.heap.size := by
  rcases hk with hk | hk
  · exact h.1.lt k hk
  · exact h.2.1.lt k hk
theorem El.own.lower {e : El} {b : Nat} (h : e.own w base) (hb : b ≤ base) : e.own w b := ⟨own_base h.1 hb, own_base h.2.1 hb, h.2.2⟩
theorem El.own_zero (w : World) (base : Nat) : El.zero.own w base := ⟨World.ownsRow_nil _ _ _ _, World.ownsRow_nil _ _ _ _, fun k hk => by simp [El.zero, Value.ownBlock] at hk⟩
theorem El.foot_zero (k : Nat) : ¬ El.zero.foot k := by simp [El.foot, El.zero, Value.ownBlock]
/-- The block of the list is none of its elements'. -/
theorem own_other {E E' : TypeId} {s s' m : Nat} {b b' : Nat} {v u : Value} {xs ys : List Value} (h : w.ownsRow b E s v n xs) (k : w.ownsRow b' E' s' u m ys) (hne : E ≠ E') : Apart v u := fun j hj hu => by
  rcases h.2 with ⟨rfl, _⟩ | ⟨g, cap, cur, rfl, _, hg, _⟩
  · simp [Value.ownBlock] at hj
  · rcases k.2 with ⟨rfl, _⟩ | ⟨g', cap', cur', rfl, _, hg', _⟩
    · simp [Value.ownBlock] at hu
    · simp [Value.ownBlock] at hj hu
      subst hj hu
      rw [hg] at hg'
      injection hg' with hg'
      injection hg' with _ ht
      exact hne ht
theorem el_other {e : El} {E : TypeId} {s b m : Nat} {v : Value} {xs : List Value} (he : e.own w base) (h : w.ownsRow b E s v m xs) (hne : E ≠ 3) : ∀ k, e.foot k → v.ownBlock ≠ some k := fun k hk hv => by
  rcases hk with hk | hk
  · exact own_other h he.1 hne k hv hk
  · exact own_other h he.2.1 hne k hv hk
theorem OwnV.dep (h : OwnV w base V n L) (hb : ∀ k, footV V L k → w'.heap[k]? = w.heap[k]?) : OwnV w' base V n L :=
  ⟨h.1, own_dep h.2.1 fun k hk => hb k (.inl hk), fun e he => (h.2.2.1 e he).dep fun k hk => hb k (.inr ⟨e, he, hk⟩), h.2.2.2⟩
theorem OwnV.lt (h : OwnV w base V n L) (k : Nat) (hk : footV V L k) : base ≤ k ∧ k < w.heap.size := by
  rcases hk with hk | ⟨e, he, hk⟩
  · exact h.2.1.lt k hk
  · exact (h.2.2.1 e he).lt k hk
theorem OwnV.holds (h : OwnV w base V n L) : Holds w (footV V L) fun w => OwnV w base V n L := ⟨fun k hk => (h.lt k hk).2, h, fun _ hb => h.dep hb⟩
theorem OwnV.below (h : OwnV w base V n L) (hb : Below w.heap.size w w') : OwnV w' base V n L := h.dep fun k hk => hb.block k (h.lt k hk).2
theorem OwnV.alloc (h : OwnV w base V n L) (o : Obj) : OwnV (w.alloc o) base V n L := h.dep fun k hk => Below.heap_alloc w o k (h.lt k hk).2
theorem OwnV.lower {b : Nat} (h : OwnV w base V n L) (hb : b ≤ base) : OwnV w b V n L := ⟨h.1, own_base h.2.1 hb, fun e he => (h.2.2.1 e he).lower hb, h.2.2.2⟩
theorem OwnV.slice (h : OwnV w base V n L) : ∃ A c, V = .slice A n c := own_slice h.2.1
theorem OwnV.made (h : w.ownsRow base 34 3 V n (madeCells (Value.agg #[.bool false, .slice none 0 0, .slice none 0 0]).cells (n * 3)).toList) : OwnV w base V n (List.replicate n El.zero) := by
  refine ⟨by simp, by rw [flat_zero] at h; exact h, fun e he => ?_, ?_⟩
  · obtain rfl := (List.mem_replicate.1 he).2
    exact El.own_zero _ _
  · rw [List.pairwise_replicate]
    exact .inr fun k hk => absurd hk (El.foot_zero k)
/-- A new element behind the others. -/
theorem OwnV.append {V' : Value} {e : El} (h : OwnV w base V n L) (ho : w'.ownsRow base 34 3 V' (n + 1) (flat L ++ [.bool e.g, e.v, e.u])) (hg : w.grownBy w' V.ownBlock) (he : e.own w base) (hf : ∀ x ∈ L, Far x e) : OwnV w' base V' (n + 1) (L ++ [e]) := by
  refine ⟨by simp [h.1], by rw [flat_append, flat_one]; exact ho, fun x hx => ?_, ?_⟩
  · rcases List.mem_append.1 hx with hx | hx
    · exact (h.2.2.1 x hx).dep fun k hk => hg.block k ((h.2.2.1 x hx).lt k hk).2 fun e => el_other (h.2.2.1 x hx) h.2.1 (by decide) k hk e.symm
    · obtain rfl := List.mem_singleton.1 hx
      exact he.dep fun k hk => hg.block k (he.lt k hk).2 fun e => el_other he h.2.1 (by decide) k hk e.symm
  · rw [List.pairwise_append]
    refine ⟨h.2.2.2, by simp, fun x hx y hy => ?_⟩
    obtain rfl := List.mem_singleton.1 hy
    exact hf x hx
/-- An element stored in its place. -/
theorem OwnV.store {g c i : Nat} {e : El} (h : OwnV w base (.slice (some ⟨g, 0, none⟩) n c) n L) (hi : i < n) (he : e.own w base) (hf : ∀ x ∈ L, Far x e) :
    OwnV (((w.setCell ⟨g, i * 3, none⟩ (.bool e.g)).setCell ⟨g, i * 3 + 1, none⟩ e.v).setCell ⟨g, i * 3 + 2, none⟩ e.u) base (.slice (some ⟨g, 0, none⟩) n c) n (L.set i e) ∧
      Wrote (blk (.slice (some ⟨g, 0, none⟩) n c)) w (((w.setCell ⟨g, i * 3, none⟩ (.bool e.g)).setCell ⟨g, i * 3 + 1, none⟩ e.v).setCell ⟨g, i * 3 + 2, none⟩ e.u) := by
  have hgb : blk (.slice (some ⟨g, 0, none⟩) n c) g := rfl
  have hW : Wrote (blk (.slice (some ⟨g, 0, none⟩) n c)) w (((w.setCell ⟨g, i * 3, none⟩ (.bool e.g)).setCell ⟨g, i * 3 + 1, none⟩ e.v).setCell ⟨g, i * 3 + 2, none⟩ e.u) :=
    Wrote.setCell (p := ⟨g, i * 3 + 2, none⟩) (Wrote.setCell (p := ⟨g, i * 3 + 1, none⟩) (Wrote.setCell (p := ⟨g, i * 3, none⟩) (Wrote.refl _ w) hgb _) hgb _) hgb _
  refine ⟨⟨by simp [h.1], ?_, fun x hx => ?_, ?_⟩, hW⟩
  · rw [flat_set _ _ _ (by rw [h.1]; exact hi)]
    exact (((h.2.1.stored _ _).1.stored _ _).1.stored _ _).1
  · have key : ∀ x : El, x.own w base → x.own (((w.setCell ⟨g, i * 3, none⟩ (.bool e.g)).setCell ⟨g, i * 3 + 1, none⟩ e.v).setCell ⟨g, i * 3 + 2, none⟩ e.u) base := fun x hx =>
      hx.dep fun k hk => hW.block k (hx.lt k hk).2 fun hb => el_other hx h.2.1 (by decide) k hk hb
    rcases List.mem_or_eq_of_mem_set hx with hx | rfl
    · exact key x (h.2.2.1 x hx)
    · exact key x he
  · exact pairwise_set i h.2.2.2 fun x hx => ⟨hf x hx, (hf x hx).symm⟩
theorem OwnV.cells {g c i : Nat} (h : OwnV w base (.slice (some ⟨g, 0, none⟩) n c) n L) (hi : i < L.length) :
    w.cell? ⟨g, i * 3, none⟩ = some (.bool L[i].g) ∧ w.cell? ⟨g, i * 3 + 1, none⟩ = some L[i].v ∧ w.cell? ⟨g, i * 3 + 2, none⟩ = some L[i].u := by
  obtain ⟨h0, h1, h2⟩ := flat_at L i hi
  have hn := h.1
  exact ⟨(h.2.1.cellAt _ (by omega)).trans h0, (h.2.1.cellAt _ (by omega)).trans h1, (h.2.1.cellAt _ (by omega)).trans h2⟩
theorem OwnV.frozen {g c : Nat} (h : OwnV w base (.slice (some ⟨g, 0, none⟩) n c) n L) (j : Nat) : w.frozen? ⟨g, j, none⟩ = false := h.2.1.frozenAt j
/-- What the walk asks ahead of a store of a whole element. -/
theorem OwnV.room {g c i : Nat} (h : OwnV w base (.slice (some ⟨g, 0, none⟩) n c) n L) (hi : i < n) :
    ∃ x0 x1 x2, w.cell? ⟨g, i * 3, none⟩ = some x0 ∧ w.cell? ⟨g, i * 3 + 1, none⟩ = some x1 ∧ w.cell? ⟨g, i * 3 + 2, none⟩ = some x2 ∧ w.frozen? ⟨g, i * 3, none⟩ = false ∧ w.frozen? ⟨g, i * 3 + 1, none⟩ = false ∧ w.frozen? ⟨g, i * 3 + 2, none⟩ = false := by
  obtain ⟨h0, h1, h2⟩ := h.cells (i := i) (by rw [h.1]; exact hi)
  exact ⟨_, _, _, h0, h1, h2, h.frozen _, h.frozen _, h.frozen _⟩
theorem OwnV.far_new {e : El} {b : Nat} (h : OwnV w base V n L) (he : e.own w' b) (hb : w.heap.size ≤ b) : ∀ x ∈ L, Far x e := fun x hx k hk hk' => by
  have h1 := ((h.2.2.1 x hx).lt k hk).2
  have h2 := (he.lt k hk').1
  omega
end

/-- A fraction that lies at place o of block b. -/
def RatAt (w : World) (b o : Nat) (r : RD) : Prop :=
  ∃ A n c B m d, w.cell? ⟨b, o, none⟩ = some (.bool r.g) ∧ w.cell? ⟨b, o + 1, none⟩ = some (.slice A n c) ∧ w.cell? ⟨b, o + 2, none⟩ = some (.slice B m d) ∧ InI w A n r.xs ∧ Room A n c ∧ InI w B m r.ds ∧ Room B m d
/-- A list of fractions that is handed to a function. -/
def InV (w : World) (A : Option Addr) (n : Nat) (rs : List RD) : Prop :=
  rs.length = n ∧ n ≤ 1048576 ∧ (n = 0 ∨ ∃ b o, A = some ⟨b, o, none⟩ ∧ b < w.heap.size ∧ ∀ j (h : j < rs.length), RatAt w b (o + j * 3) rs[j])
theorem RatAt.below {w w' : World} {b o : Nat} {r : RD} (h : RatAt w b o r) (hlt : b < w.heap.size) (hb : Below w.heap.size w w') : RatAt w' b o r := by
  obtain ⟨A, n, c, B, m, d, h0, h1, h2, h3, h4, h5, h6⟩ := h
  exact ⟨A, n, c, B, m, d, (hb.cell (p := ⟨b, o, none⟩) hlt).trans h0, (hb.cell (p := ⟨b, o + 1, none⟩) hlt).trans h1, (hb.cell (p := ⟨b, o + 2, none⟩) hlt).trans h2, h3.below hb, h4, h5.below hb, h6⟩
theorem InV.below {w w' : World} {A : Option Addr} {n : Nat} {rs : List RD} (h : InV w A n rs) (hb : Below w.heap.size w w') : InV w' A n rs := by
  refine ⟨h.1, h.2.1, ?_⟩
  rcases h.2.2 with h0 | ⟨b, o, hA, hlt, hat⟩
  · exact .inl h0
  · exact .inr ⟨b, o, hA, Nat.lt_of_lt_of_le hlt hb.size, fun j hj => (hat j hj).below hlt hb⟩
/-- Limbs that a machine's int holds. -/
def RD.fits (r : RD) : Prop := (r.xs.length ≤ 1048576 ∧ r.ds.length ≤ 1048576) ∧ (∀ z ∈ r.xs, -9223372036854775808 ≤ z ∧ z ≤ 9223372036854775807) ∧ ∀ z ∈ r.ds, -9223372036854775808 ≤ z ∧ z ≤ 9223372036854775807
theorem OwnV.in_ {w : World} {base n c : Nat} {A : Option Addr} {L : List El} {rs : List RD} (h : OwnV w base (.slice A n c) n L) (hh : Has L rs) (hn : n ≤ 1048576) (hf : ∀ r ∈ rs, r.fits) : InV w A n rs := by
  have hl := hh.length
  have hl' := h.1
  refine ⟨by omega, hn, ?_⟩
  by_cases h0 : n = 0
  · exact .inl h0
  right
  rcases h.2.1.2 with ⟨_, h1⟩ | ⟨g, cap, cur, hv, _, hg, _⟩
  · exact absurd h1 h0
  · cases hv
    refine ⟨g, 0, rfl, ?_, fun j hj => ?_⟩
    · exact (h.2.1.lt g rfl).2
    · rw [Nat.zero_add]
      obtain ⟨c0, c1, c2⟩ := h.cells (i := j) (by omega)
      obtain ⟨e0, e1, e2, e3, e4⟩ := hh.at_ j (by omega) hj
      obtain ⟨o1, o2, _⟩ := h.2.2.1 L[j] (List.getElem_mem _)
      obtain ⟨⟨f1, f2⟩, f3, f4⟩ := hf rs[j] (List.getElem_mem _)
      obtain ⟨A1, d1, hA1⟩ := own_slice o1
      obtain ⟨A2, d2, hA2⟩ := own_slice o2
      rw [hA1, e1, e2] at o1
      rw [hA2, e3, e4] at o2
      rw [e0] at c0
      rw [hA1, e1] at c1
      rw [hA2, e3] at c2
      exact ⟨A1, _, d1, A2, _, d2, c0, c1, c2, ⟨rfl, f1, Reads.of_own o1, f3⟩, room_own o1, ⟨rfl, f2, Reads.of_own o2, f4⟩, room_own o2⟩

/-- How many values a list of fractions holds. -/
def RD.tot (r : RD) : Nat := r.xs.length + r.ds.length
def tot : List RD → Nat
  | [] => 0
  | r :: rs => r.tot + tot rs
theorem tot_take_succ : ∀ {rs : List RD} {j : Nat} {r : RD}, rs[j]? = some r → tot (rs.take (j + 1)) = tot (rs.take j) + r.tot
  | [], _, _, h => by simp at h
  | x :: rs, 0, r, h => by simp at h; subst h; simp [tot]
  | x :: rs, j + 1, r, h => by
    have := tot_take_succ (rs := rs) (j := j) (r := r) (by simpa using h)
    simp only [List.take_succ_cons, tot, this]; omega
theorem tot_take_le : ∀ (rs : List RD) (j : Nat), tot (rs.take j) ≤ tot rs
  | [], _ => by simp
  | x :: rs, 0 => by simp [tot]
  | x :: rs, j + 1 => by have := tot_take_le rs j; simp only [List.take_succ_cons, tot]; omega
theorem tot_at {rs : List RD} {j : Nat} {r : RD} (h : rs[j]? = some r) : r.tot ≤ tot rs := by
  have h1 := tot_take_succ h
  have h2 := tot_take_le rs (j + 1)
  omega
/-- A list of fractions that a call hands back: in memory of its own. -/
def ResV (w w' : World) (V : Value) (rs : List RD) : Prop := rs.length + tot rs ≤ 1048576 ∧ (∀ r ∈ rs, r.fits) ∧ ∃ L, OwnV w' w.heap.size V rs.length L ∧ Has L rs
end Go.Proofs.YtegclofijaoajaaGreat
namespace Go.Proofs.YtegclofijaoajaaGreat
set_option maxRecDepth 100000
open Go.RowKit

theorem Tryz.infoR : (Tryz.prog.info? 34).map (fun i => (i.zero, i.size, i.bytes)) = some (some (.agg #[.bool false, .slice none 0 0, .slice none 0 0]), 3, 56) := by kernel_rfl
/-- A fraction that came in, at place o of block b. -/
def RatIs (w : World) (b o : Nat) (r : RD) : Prop :=
  ∃ A n c B m d, w.cell? ⟨b, o, none⟩ = some (.bool r.g) ∧ w.cell? ⟨b, o + 1, none⟩ = some (.slice A n c) ∧ w.cell? ⟨b, o + 2, none⟩ = some (.slice B m d) ∧ IsInts w A n r.xs ∧ IsInts w B m r.ds
/-- A list of fractions that came in. -/
def IsV (w : World) (A : Option Addr) (n : Nat) (rs : List RD) : Prop :=
  rs.length = n ∧ n ≤ maxLen ∧ (n = 0 ∨ ∃ b o, A = some ⟨b, o, none⟩ ∧ b < w.heap.size ∧ ∀ j (h : j < rs.length), RatIs w b (o + j * 3) rs[j])
theorem IsInts.below {w w' : World} {A : Option Addr} {n : Nat} {xs : List Int} (h : IsInts w A n xs) (hb : Below w.heap.size w w') : IsInts w' A n xs := ⟨h.1, h.2.1, h.2.2.1.below hb, h.2.2.2⟩
theorem RatIs.below {w w' : World} {b o : Nat} {r : RD} (h : RatIs w b o r) (hlt : b < w.heap.size) (hb : Below w.heap.size w w') : RatIs w' b o r := by
  obtain ⟨A, n, c, B, m, d, h0, h1, h2, h3, h4⟩ := h
  exact ⟨A, n, c, B, m, d, (hb.cell (p := ⟨b, o, none⟩) hlt).trans h0, (hb.cell (p := ⟨b, o + 1, none⟩) hlt).trans h1, (hb.cell (p := ⟨b, o + 2, none⟩) hlt).trans h2, h3.below hb, h4.below hb⟩
theorem IsV.below {w w' : World} {A : Option Addr} {n : Nat} {rs : List RD} (h : IsV w A n rs) (hb : Below w.heap.size w w') : IsV w' A n rs := by
  refine ⟨h.1, h.2.1, ?_⟩
  rcases h.2.2 with h0 | ⟨b, o, hA, hlt, hat⟩
  · exact .inl h0
  · exact .inr ⟨b, o, hA, Nat.lt_of_lt_of_le hlt hb.size, fun j hj => (hat j hj).below hlt hb⟩
theorem IsV.at_ {w : World} {A : Option Addr} {n : Nat} {rs : List RD} (h : IsV w A n rs) (j : Nat) (hj : j < n) : ∃ b o, A = some ⟨b, o, none⟩ ∧ b < w.heap.size ∧ ∃ r, rs[j]? = some r ∧ RatIs w b (o + j * 3) r := by
  rcases h.2.2 with h0 | ⟨b, o, hA, hlt, hat⟩
  · omega
  · exact ⟨b, o, hA, hlt, rs[j]'(by rw [h.1]; exact hj), List.getElem?_eq_getElem _, hat j (by rw [h.1]; exact hj)⟩
def SzEnd (left : Int) (t : Nat) (w w' : World) (e : Ending) : Prop := ∃ r : Int, e = .returned (.int .i64 r) ∧ (r = -1 ∨ (0 ≤ r ∧ r = left - t)) ∧ Below w.heap.size w w'
set_option maxHeartbeats 800000 in
theorem szRatS_any (A : Option Addr) (n c : Nat) (rs : List RD) (left : Int) (w : World) (h : IsV w A n rs) (h0 : 0 ≤ left) (hl : left ≤ 1048576) :
    Calls Tryz.prog 60 #[.slice A n c, .int .i64 left] w fun e w' => SzEnd left (n + tot rs) w w' e := by
  have hm := h.2.1
  have hlen := h.1
  unfold maxLen at hm
  have HV := Lib.hid h
  have HL := Lib.hid hlen
  clear h hlen
  by_cases hneg : left - n < 0
  · go_enter Tryz.func60, Tryz.ntmps60
    go_wp2_with fail
    go_ret
    exact ⟨-1, rfl, .inl rfl, Below.refl _ _⟩
  go_enter Tryz.func60, Tryz.ntmps60
  go_wp2_with fail
  go_loopw [1, 5] (fun x y wr => ∃ i : Nat, i ≤ n ∧ y = .int .i64 i ∧ (∃ z : Int, x = .int .i64 z ∧ 0 ≤ z ∧ z ≤ 1048576 ∧ Hid (z = left - n - tot (rs.take i))) ∧ Hid (Below w.heap.size w wr)) (fun _ y _ => n - (intOf y).toNat)
  case atStart => exact ⟨0, Nat.zero_le _, rfl, ⟨left - n, by first | rfl | go_num, by omega, by omega, by unfold Hid; simp [tot]⟩, Below.refl _ _⟩
  case round =>
    obtain ⟨i, hi, rfl, ⟨z, rfl, hz0, hz1, hz⟩, hb⟩ := hrel
    by_cases hlt : i < n
    · obtain ⟨b, o, rfl, hbs, r, hr, hat⟩ := (HV.out.below hb.out).at_ i hlt
      obtain ⟨A1, n1, c1, B1, m1, d1, e0, e1, e2, i1, i2⟩ := hat
      have hi0 : (0 : Int) ≤ (i : Int) := by omega
      have hi1 : (i : Int) < (n : Int) := by omega
      have l1 := i1.2.1
      have l2 := i2.2.1
      have HT : Hid (r.tot = n1 + m1) := by unfold Hid RD.tot; rw [i1.1, i2.1]
      have HR := Lib.hid hr
      clear hr i1 i2
      have B0 := Lib.hid hb
      go_wp2_with fail
      by_cases hs : z - n1 - m1 < 0
      · refine (szRat_neg r.g A1 n1 c1 B1 m1 d1 z _ hz0 hz1 l1 l2 hs).mono ?_
        rintro e w1 ⟨rfl, hb1⟩
        have HB := Lib.hid (hb.out.trans (hb1.mono hb.out.size))
        clear hb1
        go_wp2_with fail
        go_ret
        exact ⟨-1, rfl, .inl rfl, HB.out⟩
      · refine (szRat_pos r.g A1 n1 c1 B1 m1 d1 z _ hz0 hz1 hs).mono ?_
        rintro e w1 ⟨rfl, hb1⟩
        have HB := Lib.hid (hb.out.trans (hb1.mono hb.out.size))
        have HZ : Hid (z - n1 - m1 = left - n - tot (rs.take (i + 1))) := by
          have h1 := hz.out
          have h2 := HT.out
          have h3 := tot_take_succ HR.out
          unfold Hid; omega
        clear hb1
        go_wp2_with fail
        go_roundw
        case rel => exact ⟨i + 1, by omega, by go_num, ⟨z - n1 - m1, rfl, by omega, by omega, HZ⟩, HB⟩
        case measure => simp [intOf]; omega
    · obtain rfl : i = n := by omega
      have HZ : Hid (z = left - ((i + tot rs : Nat) : Int)) := by
        have h1 := hz.out
        rw [List.take_of_length_le (by rw [HL.out]; omega)] at h1
        unfold Hid; omega
      have HF : Hid (SzEnd left (i + tot rs) w wr (.returned (.int .i64 z))) := ⟨z, rfl, .inr ⟨hz0, HZ.out⟩, hb.out⟩
      go_wp2_with fail
      go_ret
      exact HF.out

/-- The first i are there, the others are zero values. -/
def upTo (rs : List RD) (i n : Nat) : List RD := rs.take i ++ List.replicate (n - i) ⟨false, [], []⟩
theorem upTo_zero (rs : List RD) (n : Nat) : upTo rs 0 n = List.replicate n ⟨false, [], []⟩ := by simp [upTo]
theorem upTo_all {rs : List RD} {n : Nat} (h : rs.length = n) : upTo rs n n = rs := by simp [upTo, ← h]
theorem upTo_succ {rs : List RD} {i n : Nat} {r : RD} (h : rs[i]? = some r) (hi : i < n) : (upTo rs i n).set i r = upTo rs (i + 1) n := by
  obtain ⟨hlt, rfl⟩ := List.getElem?_eq_some_iff.1 h
  have hl : (rs.take i).length = i := by rw [List.length_take]; omega
  unfold upTo
  rw [List.set_append_right _ _ (by omega), hl, Nat.sub_self, show n - i = (n - (i + 1)) + 1 by omega, List.replicate_succ, List.set_cons_zero, List.take_succ_eq_append_getElem hlt, List.append_assoc]
  rfl
theorem has_zeros : ∀ n, Has (List.replicate n El.zero) (List.replicate n ⟨false, [], []⟩)
  | 0 => trivial
  | n + 1 => by rw [List.replicate_succ, List.replicate_succ]; exact ⟨⟨rfl, rfl, rfl, rfl, rfl⟩, has_zeros n⟩
def ToVEnd (n : Nat) (rs : List RD) (w w' : World) (e : Ending) : Prop := ∃ V L, e = .returned V ∧ OwnV w' w.heap.size V n L ∧ Has L rs ∧ Below w.heap.size w w'
set_option maxHeartbeats 1600000 in
theorem toRatS_any (A : Option Addr) (n c : Nat) (rs : List RD) (w : World) (h : IsV w A n rs) (hm : n + tot rs ≤ 1048576) :
    Calls Tryz.prog 63 #[.slice A n c] w fun e w' => ToVEnd n rs w w' e := by
  obtain ⟨i0, hi, hz0, hz1, hz2⟩ := info_parts Tryz.infoR
  have hlen := h.1
  have HV := Lib.hid h
  have HL := Lib.hid hlen
  clear h hlen
  go_enter Tryz.func63, Tryz.ntmps63
  go_wp2_with (refine wpList_make_full _ rfl _ _ 23 rfl w.heap.size 34 i0 (.agg #[.bool false, .slice none 0 0, .slice none 0 0]) 3 Tryz.underlying23 hi hz0 hz1 _ _ _ _ n rfl rfl rfl rfl ?c1 ?c2 ?c3 ?_)
  case c1 => rw [hz2]; omega
  case c2 => unfold maxLen; omega
  case c3 => exact Nat.le_refl _
  intro w1 ho hg
  have B1 := Lib.hid ((Below.refl w.heap.size w).grown hg (Nat.le_refl _) (fun k hk => by cases hk))
  have O1 := Lib.hid (OwnV.made ho)
  clear ho hg
  go_wp2_with fail
  go_loopw [4] (fun y wr => ∃ (i : Nat) (L : List El), i ≤ n ∧ y = .int .i64 i ∧ Hid (OwnV wr w.heap.size (.slice (some ⟨w.heap.size, 0, none⟩) n n) n L) ∧ Hid (Has L (upTo rs i n)) ∧ Hid (Below w.heap.size w wr)) (fun y _ => n - (intOf y).toNat)
  case atStart => exact ⟨0, _, Nat.zero_le _, rfl, O1, by rw [upTo_zero]; exact has_zeros n, B1⟩
  case round =>
    obtain ⟨i, L, hle, rfl, ho, hh, hb⟩ := hrel
    by_cases hlt : i < n
    · obtain ⟨b, o, rfl, hbs, r, hr, hat⟩ := (HV.out.below hb.out).at_ i hlt
      obtain ⟨A1, n1, c1, B1, m1, d1, e0, e1, e2, i1, i2⟩ := hat
      have hi0 : (0 : Int) ≤ (i : Int) := by omega
      have hi1 : (i : Int) < (n : Int) := by omega
      have ht := tot_at hr
      unfold RD.tot at ht
      rw [i1.1, i2.1] at ht
      have l1 : n1 ≤ 1048576 := by omega
      have l2 : m1 ≤ 1048576 := by omega
      have HR := Lib.hid hr
      have I1 := Lib.hid i1
      have I2 := Lib.hid i2
      clear hr i1 i2 ht
      go_wp2_with fail
      refine (toRat_any r.g A1 n1 c1 r.xs B1 m1 d1 r.ds _ I1.out.1 l1 I1.out.2.2.1 I2.out.1 l2 I2.out.2.2.1).mono ?_
      rintro e w2 ⟨v, u, rfl, o1, o2, hap, hb2⟩
      obtain ⟨A2, c2, rfl⟩ := own_slice o1
      obtain ⟨B2, d2, rfl⟩ := own_slice o2
      have ho2 := ho.out.below hb2
      have he : (El.mk r.g (.slice A2 n1 c2) n1 (r.xs.map (.int .i64)) (.slice B2 m1 d2) m1 (r.ds.map (.int .i64))).own w2 w.heap.size := El.own.lower ⟨o1, o2, hap⟩ hb.out.size
      have hf := ho.out.far_new (e := El.mk r.g (.slice A2 n1 c2) n1 (r.xs.map (.int .i64)) (.slice B2 m1 d2) m1 (r.ds.map (.int .i64))) ⟨o1, o2, hap⟩ (Nat.le_refl _)
      have hst := ho2.store hlt he hf
      have HO := Lib.hid hst.1
      have HB := Lib.hid (Wrote.below (hb.out.trans (hb2.mono hb.out.size)) hst.2 (fun k hk => (ho2.2.1.lt k hk).1) (Nat.le_trans hb.out.size hb2.size))
      have HH : Hid (Has (L.set i (El.mk r.g (.slice A2 n1 c2) n1 (r.xs.map (.int .i64)) (.slice B2 m1 d2) m1 (r.ds.map (.int .i64)))) (upTo rs (i + 1) n)) := by
        rw [← upTo_succ HR.out hlt]
        exact hh.out.set i ⟨rfl, I1.out.1.symm, rfl, I2.out.1.symm, rfl⟩
      obtain ⟨x0, x1, x2, g0, g1, g2, f0, f1, f2⟩ := ho2.room hlt
      clear hst ho2 he hf o1 o2 hap hb2
      go_wp2_with fail
      go_roundw
      case rel => exact ⟨i + 1, _, by omega, by go_num, HO, HH, HB⟩
      case measure => simp [intOf]; omega
    · obtain rfl : i = n := by omega
      have HH : Hid (Has L rs) := by rw [← upTo_all HL.out]; exact hh
      go_wp2_with fail
      go_ret
      exact ⟨_, L, rfl, ho.out, HH.out, hb.out⟩

/-- Three cells from place o of block b on. -/
def At3 (w : World) (b o : Nat) (x y z : Value) : Prop := w.cell? ⟨b, o, none⟩ = some x ∧ w.cell? ⟨b, o + 1, none⟩ = some y ∧ w.cell? ⟨b, o + 2, none⟩ = some z
theorem At3.below {w w' : World} {b o : Nat} {x y z : Value} (h : At3 w b o x y z) (hlt : b < w.heap.size) (hb : Below w.heap.size w w') : At3 w' b o x y z :=
  ⟨(hb.cell (p := ⟨b, o, none⟩) hlt).trans h.1, (hb.cell (p := ⟨b, o + 1, none⟩) hlt).trans h.2.1, (hb.cell (p := ⟨b, o + 2, none⟩) hlt).trans h.2.2⟩
theorem At3.drew {w : World} {b o : Nat} {x y z : Value} (h : At3 w b o x y z) : At3 w.drew b o x y z := h
theorem at33 {w : World} {b o b' o' : Nat} {x y z x' y' z' : Value} (h : Hid (At3 w b o x y z)) (k : Hid (At3 w b' o' x' y' z')) :
    w.cell? ⟨b, o, none⟩ = some x ∧ w.cell? ⟨b, o + 1, none⟩ = some y ∧ w.cell? ⟨b, o + 2, none⟩ = some z ∧ w.cell? ⟨b', o', none⟩ = some x' ∧ w.cell? ⟨b', o' + 1, none⟩ = some y' ∧ w.cell? ⟨b', o' + 2, none⟩ = some z' :=
  ⟨h.out.1, h.out.2.1, h.out.2.2, k.out.1, k.out.2.1, k.out.2.2⟩
theorem InV.at_ {w : World} {A : Option Addr} {n : Nat} {rs : List RD} (h : InV w A n rs) (j : Nat) (hj : j < n) :
    ∃ b o, A = some ⟨b, o, none⟩ ∧ b < w.heap.size ∧ ∃ r, rs[j]? = some r ∧ ∃ A1 n1 c1 B1 m1 d1, At3 w b (o + j * 3) (.bool r.g) (.slice A1 n1 c1) (.slice B1 m1 d1) ∧ InI w A1 n1 r.xs ∧ Room A1 n1 c1 ∧ InI w B1 m1 r.ds ∧ Room B1 m1 d1 := by
  rcases h.2.2 with h0 | ⟨b, o, hA, hlt, hat⟩
  · omega
  · obtain ⟨A1, n1, c1, B1, m1, d1, h0, h1, h2, h3, h4, h5, h6⟩ := hat j (by rw [h.1]; exact hj)
    exact ⟨b, o, hA, hlt, rs[j]'(by rw [h.1]; exact hj), List.getElem?_eq_getElem _, A1, n1, c1, B1, m1, d1, ⟨h0, h1, h2⟩, h3, h4, h5, h6⟩
set_option maxHeartbeats 1600000 in
theorem eqRatS_same (A1 A2 : Option Addr) (n c1 c2 : Nat) (rs : List RD) (w : World) (h1 : InV w A1 n rs) (h2 : InV w A2 n rs) :
    Calls Tryz.prog 55 #[.slice A1 n c1, .slice A2 n c2] w fun e w' => e = .returned (.bool true) ∧ Below w.heap.size w w' := by
  have hm := h1.2.1
  have H1 := Lib.hid h1
  have H2 := Lib.hid h2
  clear h1 h2
  go_enter Tryz.func55, Tryz.ntmps55
  go_wp2_with fail
  go_loopw [5] (fun x wr => ∃ i : Nat, i ≤ n ∧ x = .int .i64 i ∧ Hid (Below w.heap.size w wr)) (fun x _ => n - (intOf x).toNat)
  case atStart => exact ⟨0, Nat.zero_le _, rfl, Below.refl _ _⟩
  case round =>
    obtain ⟨i, hle, rfl, hb⟩ := hrel
    by_cases hlt : i < n
    · obtain ⟨b1, o1, rfl, hb1, r, hr, A3, n3, c3, B3, m3, d3, at1, i1, _, j1, _⟩ := (H1.out.below hb.out).at_ i hlt
      obtain ⟨b2, o2, rfl, hb2, r', hr', A4, n4, c4, B4, m4, d4, at2, i2, _, j2, _⟩ := (H2.out.below hb.out).at_ i hlt
      obtain rfl : r = r' := by rw [hr] at hr'; exact Option.some.inj hr'
      obtain rfl : n3 = n4 := i1.1.symm.trans i2.1
      obtain rfl : m3 = m4 := j1.1.symm.trans j2.1
      have hi0 : (0 : Int) ≤ (i : Int) := by omega
      have hi1 : (i : Int) < (n : Int) := by omega
      have P1_0 := Lib.hid at1.drew
      have P2_0 := Lib.hid at2.drew
      have I1 := Lib.hid i1.drew
      have I2 := Lib.hid i2.drew
      have J1 := Lib.hid j1.drew
      have J2 := Lib.hid j2.drew
      have HLT1 := Lib.hid hb1
      have HLT2 := Lib.hid hb2
      clear at1 at2 i1 i2 j1 j2 hr hr'
      go_wp2_with fail
      go_region_held3 (fun w' => w'.cell? ⟨b1, o1 + i * 3, none⟩ = some (.bool r.g) ∧ w'.cell? ⟨b1, o1 + i * 3 + 1, none⟩ = some (.slice A3 n3 c3) ∧ w'.cell? ⟨b1, o1 + i * 3 + 2, none⟩ = some (.slice B3 m3 d3) ∧ w'.cell? ⟨b2, o2 + i * 3, none⟩ = some (.bool r.g) ∧ w'.cell? ⟨b2, o2 + i * 3 + 1, none⟩ = some (.slice A4 n3 c4) ∧ w'.cell? ⟨b2, o2 + i * 3 + 2, none⟩ = some (.slice B4 m3 d4)) (first | with_reducible exact at33 P1_1 P2_1 | with_reducible exact at33 P1_0 P2_0) (first | (go_at_call 111; (with_reducible refine (eqRat_same r.g A3 A4 n3 c3 c4 r.xs B3 B4 m3 d3 d4 r.ds _ I1.out.len (by have := I1.out.le; unfold maxLen; omega) I1.out.rd I2.out.rd J1.out.len (by have := J1.out.le; unfold maxLen; omega) J1.out.rd J2.out.rd).mono ?_); rintro e w1 ⟨rfl, hc1⟩; have P1_1 := Lib.hid (P1_0.out.below HLT1.out hc1); have P2_1 := Lib.hid (P2_0.out.below HLT2.out hc1); have HB := Lib.hid (hb.out.drew.trans (hc1.mono hb.out.size)); clear hc1))
      go_wp2_with fail
      go_roundw
      case rel => exact ⟨i + 1, by omega, by go_num, HB⟩
      case measure => simp [intOf]; omega
    · obtain rfl : i = n := by omega
      go_wp2_with fail
      go_ret
      exact ⟨rfl, hb.out⟩

/-! Marks: each value of a list turned into one that tells its place. -/
def El.marked (K : Nat) (e : El) : El := { e with g := ((K : Int) % 3 == 0), xs := marks markI (K + 1) e.n, ys := marks markI (K + 1 + e.n) e.m }
def mtot : List El → Nat
  | [] => 0
  | e :: L => 1 + e.n + e.m + mtot L
def markL (K : Nat) : List El → List El
  | [] => []
  | e :: L => e.marked K :: markL (K + (1 + e.n + e.m)) L
def markTo (K : Nat) (L : List El) (i : Nat) : List El := markL K (L.take i) ++ L.drop i
section
variable {w w' : World} {base : Nat} {V : Value} {n : Nat} {L : List El}
/-- An element is turned in its own blocks, or in its sign. -/
theorem OwnV.turn (h : OwnV w base V n L) {i : Nat} (hi : i < L.length) {e' : El} (hv : e'.v = L[i].v) (hu : e'.u = L[i].u) (hrow : w'.ownsRow base 34 3 V n (flat (L.set i e'))) (he : e'.own w' base)
    (hW : Wrote (fun k => V.ownBlock = some k ∨ L[i].foot k) w w') : OwnV w' base V n (L.set i e') := by
  have hfoot : ∀ k, e'.foot k ↔ L[i].foot k := fun k => by unfold El.foot; rw [hv, hu]
  refine ⟨by simp [h.1], hrow, fun x hx => ?_, ?_⟩
  · obtain ⟨j, hj, rfl⟩ := List.mem_iff_getElem.1 hx
    have hj' : j < L.length := by simpa using hj
    by_cases e : i = j
    · subst e; simpa using he
    · rw [List.getElem_set_ne e]
      have hx := h.2.2.1 L[j] (List.getElem_mem _)
      refine hx.dep fun k hk => hW.block k (hx.lt k hk).2 ?_
      rintro (hk' | hk')
      · exact el_other hx h.2.1 (by decide) k hk hk'
      · have hp := List.pairwise_iff_getElem.1 h.2.2.2
        rcases Nat.lt_or_gt_of_ne e with hlt | hlt
        · exact hp i j hi hj' hlt k hk' hk
        · exact hp j i hj' hi hlt k hk hk'
  · rw [List.pairwise_iff_getElem]
    have hp := List.pairwise_iff_getElem.1 h.2.2.2
    intro a b ha hb hab k ka kb
    rw [List.length_set] at ha hb
    refine hp a b ha hb hab k ?_ ?_
    · by_cases e : i = a
      · subst e; rw [List.getElem_set_self] at ka; exact (hfoot k).1 ka
      · rwa [List.getElem_set_ne e] at ka
    · by_cases e : i = b
      · subst e; rw [List.getElem_set_self] at kb; exact (hfoot k).1 kb
      · rwa [List.getElem_set_ne e] at kb
end
end Go.Proofs.YtegclofijaoajaaGreat
namespace Go.Proofs.YtegclofijaoajaaGreat
set_option maxRecDepth 100000
open Go.RowKit

section
variable {w w' : World} {base : Nat} {V : Value} {n : Nat} {L : List El}
theorem OwnV.elem (h : OwnV w base V n L) {i : Nat} (hi : i < L.length) : L[i].own w base := h.2.2.1 _ (List.getElem_mem _)
end
def MarkVEnd (base : Nat) (V : Value) (n K : Nat) (L : List El) (w w' : World) (e : Ending) : Prop :=
  e = .returned (.int .i64 ((K + mtot L : Nat) : Int)) ∧ OwnV w' base V n (markL K L) ∧ Wrote (footV V L) w w'
end Go.Proofs.YtegclofijaoajaaGreat
