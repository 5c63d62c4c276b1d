/- Contracts of fractions: valid or not, by the model and by the program. -/
import Derived.Test.YtegclofijaoajaaGreatGB
import Derived.Test.YtegclofijaoajaaGreatGC
import Derived.Test.YtegclofijaoajaaGreatGJ
namespace Go.Proofs.YtegclofijaoajaaGreat
set_option maxRecDepth 100000
open Go.RowKit

def ROkEnd (g : Bool) (xs ds : List Int) (e : Ending) : Prop := ∃ b, e = .returned (.bool b) ∧ RatOkIs g xs ds b
theorem rok_no {g : Bool} {xs ds : List Int} (h : ¬ ROk g xs ds) : ROkEnd g xs ds (.returned (.bool false)) := ⟨false, rfl, by unfold RatOkIs; simp [h]⟩
theorem rok_mk {g : Bool} {xs ds r : List Int} {b : Bool} (k1 : BOk g xs) (k2 : Ok ds) (hd : 0 < val ds) (hx : xs.length ≤ 24) (hy : ds.length ≤ 24) (h : GcdIs (val xs) (val ds) r) (hb : decide (r = [1]) = b) : ROkEnd g xs ds (.returned (.bool b)) := by
  refine ⟨b, rfl, ?_⟩
  unfold RatOkIs
  rw [← hb, decide_eq_true_iff, gcd_one h]
  exact ⟨fun h => ⟨k1, k2, hd, h, hx, hy⟩, fun h => h.2.2.2.1⟩
theorem one_cell {w : World} {A : Option Addr} {xs : List Int} (hn : xs.length = 1) (hr : Reads w A (xs.map (.int .i64))) : ∃ g o x, A = some ⟨g, o, none⟩ ∧ w.cell? ⟨g, o, none⟩ = some (.int .i64 x) ∧ xs = [x] := by
  obtain ⟨x, rfl⟩ : ∃ x, xs = [x] := List.length_eq_one_iff.1 hn
  obtain ⟨g, o, rfl, _, hc⟩ := hr.at_ (by simp)
  refine ⟨g, o, x, rfl, ?_, rfl⟩
  have := hc 0 (by simp)
  simpa using this
set_option maxHeartbeats 400000 in
theorem spec_one (A : Option Addr) (n c : Nat) (xs : List Int) (b : Bool) (w : World) (hq : decide (xs = [1]) = b) (hn : xs.length = n) (hm : n ≤ 4194304) (hr : Reads w A (xs.map (.int .i64))) :
    Calls Tryz.prog 157 #[.slice A n c] w fun e w' => e = .returned (.bool b) ∧ w = w' := by
  by_cases h1 : n = 1
  · subst h1
    obtain ⟨g, o, x, rfl, hcell, rfl⟩ := one_cell hn hr
    have hx : (x == 1) = b := by rw [← hq, Bool.eq_iff_iff]; simp
    clear hn hr hq
    go_enter Tryz.func157, Tryz.ntmps157
    go_wp2_with fail
    go_ret
    exact ⟨rfl, rfl⟩
  · have hf : b = false := by rw [← hq, decide_eq_false_iff_not]; rintro rfl; exact h1 (by rw [← hn]; rfl)
    subst hf
    have ht : ((n : Int) == 1) = false := by simp; omega
    clear hn hr hq
    go_enter Tryz.func157, Tryz.ntmps157
    go_wp2_with fail
    go_ret
    exact ⟨rfl, rfl⟩
set_option maxHeartbeats 400000 in
theorem impl_one (A : Option Addr) (n c : Nat) (xs : List Int) (b : Bool) (w : World) (hq : decide (xs = [1]) = b) (hn : xs.length = n) (hm : n ≤ 4194304) (hr : Reads w A (xs.map (.int .i64))) :
    Calls Tryz.prog 148 #[.slice A n c] w fun e w' => e = .returned (.bool b) ∧ w = w' := by
  by_cases h1 : n = 1
  · subst h1
    obtain ⟨g, o, x, rfl, hcell, rfl⟩ := one_cell hn hr
    have hx : (x == 1) = b := by rw [← hq, Bool.eq_iff_iff]; simp
    clear hn hr hq
    go_enter Tryz.func148, Tryz.ntmps148
    go_wp2_with fail
    go_ret
    exact ⟨rfl, rfl⟩
  · have hf : b = false := by rw [← hq, decide_eq_false_iff_not]; rintro rfl; exact h1 (by rw [← hn]; rfl)
    subst hf
    have ht : ((n : Int) == 1) = false := by simp; omega
    clear hn hr hq
    go_enter Tryz.func148, Tryz.ntmps148
    go_wp2_with fail
    go_ret
    exact ⟨rfl, rfl⟩
set_option maxHeartbeats 1600000 in
theorem spec_ratOk' (g : Bool) (A : Option Addr) (n c : Nat) (xs : List Int) (B : Option Addr) (m d : Nat) (ds : List Int) (w : World) (h : InI w A n xs) (k : InI w B m ds) :
    Calls Tryz.prog 193 #[.agg #[.bool g, .slice A n c, .slice B m d]] w fun e w' => ROkEnd g xs ds e ∧ Below w.heap.size w w' := by
  have hn := h.2.1
  have hm := k.2.1
  have hy0_0 := Lib.hid (by have := Box.new w 34 #[.bool g, .slice A n c, .slice B m d]; simpa using this : Box (w.alloc (.cells #[.bool g, .slice A n c, .slice B m d] 34)) (w.heap.size) 34 #[.bool g, .slice A n c, .slice B m d])
  have BW_0 := Lib.hid ((Below.refl w.heap.size w).alloc (by simp) (.cells #[.bool g, .slice A n c, .slice B m d] 34))
  have HI := Lib.hid (h.below BW_0.out)
  have HK := Lib.hid (k.below BW_0.out)
  clear h k
  go_enter Tryz.func193, Tryz.ntmps193
  go_wp2_with fail
  refine (spec_bigOk' g A n c xs _ HI.out).mono ?_
  rintro e w1 ⟨⟨b, rfl, hi⟩, hb⟩
  have hy0_1 := Lib.hid (hy0_0.out.below hb hy0_0.out.lt)
  have BW_1 := Lib.hid (BW_0.out.trans (hb.mono BW_0.out.size))
  replace HI := Lib.hid (HI.out.below hb)
  replace HK := Lib.hid (HK.out.below hb)
  clear hb
  have ehy00 := hy0_1.out.cell 0
  have ehy01 := hy0_1.out.cell 1
  have ehy02 := hy0_1.out.cell 2
  simp at ehy00 ehy01 ehy02
  cases b
  · have HF := Lib.hid (rok_no (g := g) (xs := xs) (ds := ds) (fun h => by have := hi.2 h.1; cases this))
    clear hi
    go_wp2_with fail
    go_ret
    exact ⟨HF.out, BW_1.out⟩
  have K1 := Lib.hid (hi.1 rfl)
  clear hi
  go_wp2_with fail
  refine (spec_natOk' B m d ds _ HK.out).mono ?_
  rintro e w2 ⟨⟨b, rfl, hi⟩, rfl⟩
  cases b
  · have HF := Lib.hid (rok_no (g := g) (xs := xs) (ds := ds) (fun h => by have := hi.2 h.2.1; cases this))
    clear hi
    go_wp2_with fail
    go_ret
    exact ⟨HF.out, BW_1.out⟩
  have K2 := Lib.hid (hi.1 rfl)
  clear hi
  by_cases hz : m = 0
  · have HF := Lib.hid (rok_no (g := g) (xs := xs) (ds := ds) (fun h => by have h3 := h.2.2.1; rw [List.eq_nil_of_length_eq_zero (HK.out.1.trans hz)] at h3; simp [val] at h3))
    have ht : ((m : Int) == 0) = true := by simp [hz]
    clear hz
    go_wp2_with fail
    go_ret
    exact ⟨HF.out, BW_1.out⟩
  have ht : ((m : Int) == 0) = false := by simp [hz]
  have HP := Lib.hid (canon_pos K2.out.1 (by rw [HK.out.1]; omega))
  clear hz
  by_cases h24 : 24 < (m : Int)
  · have HF := Lib.hid (rok_no (g := g) (xs := xs) (ds := ds) (fun h => by have h3 := h.2.2.2.2.2; rw [HK.out.1] at h3; omega))
    go_wp2_with fail
    go_ret
    exact ⟨HF.out, BW_1.out⟩
  by_cases h25 : 24 < (n : Int)
  · have HF := Lib.hid (rok_no (g := g) (xs := xs) (ds := ds) (fun h => by have h3 := h.2.2.2.2.1; rw [HI.out.1] at h3; omega))
    go_wp2_with fail
    go_ret
    exact ⟨HF.out, BW_1.out⟩
  go_wp2_with fail
  refine (spec_gcd A n c xs B m d ds _ ⟨HI.out.1, by omega, HI.out.2.2.1⟩ ⟨HK.out.1, by omega, HK.out.2.2.1⟩ K1.out.1.1 K2.out.1).mono ?_
  rintro e w3 ⟨r, v, rfl, hg, ⟨hl, ho⟩, hb⟩
  have BW_2 := Lib.hid (BW_1.out.trans (hb.mono BW_1.out.size))
  obtain ⟨A1, c1, rfl⟩ := own_slice ho
  obtain ⟨q, hq⟩ : ∃ q, decide (r = [1]) = q := ⟨_, rfl⟩
  have HF := Lib.hid (rok_mk K1.out K2.out HP.out (by rw [HI.out.1]; omega) (by rw [HK.out.1]; omega) hg hq)
  have HQ := Lib.hid hq
  have HO := Lib.hid ho
  clear hg ho hb hq
  clear ehy00 ehy01 ehy02
  go_wp2_with fail
  refine (spec_one A1 r.length c1 r q _ HQ.out rfl hl (Reads.of_own HO.out)).mono ?_
  rintro e w4 ⟨rfl, rfl⟩
  go_wp2_with fail
  go_ret
  exact ⟨HF.out, BW_2.out⟩
set_option maxHeartbeats 1600000 in
theorem impl_ratOk' (g : Bool) (A : Option Addr) (n c : Nat) (xs : List Int) (B : Option Addr) (m d : Nat) (ds : List Int) (w : World) (h : InI w A n xs) (k : InI w B m ds) :
    Calls Tryz.prog 70 #[.agg #[.bool g, .slice A n c, .slice B m d]] w fun e w' => ROkEnd g xs ds e ∧ Below w.heap.size w w' := by
  have hn := h.2.1
  have hm := k.2.1
  have hy0_0 := Lib.hid (by have := Box.new w 34 #[.bool g, .slice A n c, .slice B m d]; simpa using this : Box (w.alloc (.cells #[.bool g, .slice A n c, .slice B m d] 34)) (w.heap.size) 34 #[.bool g, .slice A n c, .slice B m d])
  have BW_0 := Lib.hid ((Below.refl w.heap.size w).alloc (by simp) (.cells #[.bool g, .slice A n c, .slice B m d] 34))
  have HI := Lib.hid (h.below BW_0.out)
  have HK := Lib.hid (k.below BW_0.out)
  clear h k
  go_enter Tryz.func70, Tryz.ntmps70
  go_wp2_with fail
  refine (impl_bigOk' g A n c xs _ HI.out).mono ?_
  rintro e w1 ⟨⟨b, rfl, hi⟩, hb⟩
  have hy0_1 := Lib.hid (hy0_0.out.below hb hy0_0.out.lt)
  have BW_1 := Lib.hid (BW_0.out.trans (hb.mono BW_0.out.size))
  replace HI := Lib.hid (HI.out.below hb)
  replace HK := Lib.hid (HK.out.below hb)
  clear hb
  have ehy00 := hy0_1.out.cell 0
  have ehy01 := hy0_1.out.cell 1
  have ehy02 := hy0_1.out.cell 2
  simp at ehy00 ehy01 ehy02
  cases b
  · have HF := Lib.hid (rok_no (g := g) (xs := xs) (ds := ds) (fun h => by have := hi.2 h.1; cases this))
    clear hi
    go_wp2_with fail
    go_ret
    exact ⟨HF.out, BW_1.out⟩
  have K1 := Lib.hid (hi.1 rfl)
  clear hi
  go_wp2_with fail
  refine (impl_natOk' B m d ds _ HK.out).mono ?_
  rintro e w2 ⟨⟨b, rfl, hi⟩, rfl⟩
  cases b
  · have HF := Lib.hid (rok_no (g := g) (xs := xs) (ds := ds) (fun h => by have := hi.2 h.2.1; cases this))
    clear hi
    go_wp2_with fail
    go_ret
    exact ⟨HF.out, BW_1.out⟩
  have K2 := Lib.hid (hi.1 rfl)
  clear hi
  by_cases h25 : 24 < (n : Int)
  · have HF := Lib.hid (rok_no (g := g) (xs := xs) (ds := ds) (fun h => by have h3 := h.2.2.2.2.1; rw [HI.out.1] at h3; omega))
    go_wp2_with fail
    go_ret
    exact ⟨HF.out, BW_1.out⟩
  by_cases h24 : 24 < (m : Int)
  · have HF := Lib.hid (rok_no (g := g) (xs := xs) (ds := ds) (fun h => by have h3 := h.2.2.2.2.2; rw [HK.out.1] at h3; omega))
    go_wp2_with fail
    go_ret
    exact ⟨HF.out, BW_1.out⟩
  by_cases hz : (m : Int) < 1
  · have HF := Lib.hid (rok_no (g := g) (xs := xs) (ds := ds) (fun h => by have h3 := h.2.2.1; rw [List.eq_nil_of_length_eq_zero (HK.out.1.trans (show m = 0 by omega))] at h3; simp [val] at h3))
    go_wp2_with fail
    go_ret
    exact ⟨HF.out, BW_1.out⟩
  have HP := Lib.hid (canon_pos K2.out.1 (by rw [HK.out.1]; omega))
  go_wp2_with fail
  refine (impl_natGcd A n c xs B m d ds _ HI.out HK.out).mono ?_
  rintro e w3 ⟨r, v, rfl, hg, ⟨hl, ho⟩, hb⟩
  have hg2 : GcdIs (val xs) (val ds) r := by
    rcases hg with ⟨_, _, hg⟩ | ⟨hg, _⟩
    · exact hg
    · exact absurd ⟨K1.out.1, K2.out⟩ hg
  have BW_2 := Lib.hid (BW_1.out.trans (hb.mono BW_1.out.size))
  obtain ⟨A1, c1, rfl⟩ := own_slice ho
  obtain ⟨q, hq⟩ : ∃ q, decide (r = [1]) = q := ⟨_, rfl⟩
  have HF := Lib.hid (rok_mk K1.out K2.out HP.out (by rw [HI.out.1]; omega) (by rw [HK.out.1]; omega) hg2 hq)
  have HQ := Lib.hid hq
  have HO := Lib.hid ho
  clear hg hg2 ho hb hq
  clear ehy00 ehy01 ehy02
  go_wp2_with fail
  refine (impl_one A1 r.length c1 r q _ HQ.out rfl hl (Reads.of_own HO.out)).mono ?_
  rintro e w4 ⟨rfl, rfl⟩
  go_wp2_with fail
  go_ret
  exact ⟨HF.out, BW_2.out⟩
end Go.Proofs.YtegclofijaoajaaGreat
namespace Go.Proofs.YtegclofijaoajaaGreat
set_option maxRecDepth 100000
open Go.RowKit

/-- What a function that hands back a fraction ends in. -/
def RatEnd (Q : Bool → List Int → List Int → Prop) (w w' : World) (e : Ending) : Prop :=
  ∃ g r v d u, e = .returned (.agg #[.bool g, v, u]) ∧ Q g r d ∧ ResI w w' v r ∧ ResI w w' u d ∧ Apart u v ∧ Below w.heap.size w w'
theorem ratEnd_zero {Q : Bool → List Int → List Int → Prop} {w w' : World} (h : Q false [] []) (hb : Below w.heap.size w w') : RatEnd Q w w' (.returned (.agg #[.bool false, .slice none 0 0, .slice none 0 0])) :=
  ⟨false, [], _, [], _, rfl, h, ⟨by simp, World.ownsRow_nil _ _ _ _⟩, ⟨by simp, World.ownsRow_nil _ _ _ _⟩, (fun k hk => by simp [Value.ownBlock] at hk), hb⟩
theorem ratEnd_store {Q : Bool → List Int → List Int → Prop} {w W : World} {gb : Nat} {cs : Array Value} {s : Bool} {r ds : List Int} {A B : Option Addr} {N c M d base1 base2 : Nat}
    (hbx : Box W gb 34 cs) (hg : w.heap.size ≤ gb) (hb : Below w.heap.size w W) (hQ : Q s r ds) (hr : r.length = N) (hd : ds.length = M) (hN : N ≤ 4194304) (hM : M ≤ 4194304)
    (o1 : W.ownsRow base1 3 1 (.slice A N c) N (r.map (.int .i64))) (b1 : w.heap.size ≤ base1) (o2 : W.ownsRow base2 3 1 (.slice B M d) M (ds.map (.int .i64))) (b2 : w.heap.size ≤ base2) (ap : Apart (.slice B M d) (.slice A N c)) :
    RatEnd Q w (((W.setCell ⟨gb, 0, none⟩ (.bool s)).setCell ⟨gb, 1, none⟩ (.slice A N c)).setCell ⟨gb, 2, none⟩ (.slice B M d)) (.returned (.agg #[.bool s, .slice A N c, .slice B M d])) := by
  subst hr hd
  exact ⟨s, r, _, ds, _, rfl, hQ, ⟨hN, own_base (own_store3 o1 hbx (by decide) _ _ _) b1⟩, ⟨hM, own_base (own_store3 o2 hbx (by decide) _ _ _) b2⟩, ap, below_store3 hb hg _ _ _⟩
/-! A literal of no elements, appended to: what it leaves alone. -/
theorem lit_kept {w : World} {base : Nat} {E : TypeId} {size n : Nat} {v : Value} {xs : List Value} {k : Nat} (o : w.ownsRow base E size v n xs) : v.ownBlock = none ∨ v.ownBlock ≠ (Value.slice (some ⟨w.heap.size, 0, none⟩) 0 k).ownBlock := by
  cases hv : v.ownBlock with
  | none => exact .inl rfl
  | some j =>
    refine .inr fun e => ?_
    have := (o.lt j hv).2
    simp [Value.ownBlock] at e
    omega
theorem lit_ne {w : World} {g k : Nat} (h : g < w.heap.size) : some g ≠ (Value.slice (some ⟨w.heap.size, 0, none⟩) 0 k).ownBlock := by
  intro e
  simp [Value.ownBlock] at e
  omega
theorem lit_low {w : World} {b k : Nat} (h : b ≤ w.heap.size) : ∀ j, (Value.slice (some ⟨w.heap.size, 0, none⟩) 0 k).ownBlock = some j → b ≤ j := by
  intro j e
  simp [Value.ownBlock] at e
  omega

theorem trimmed_canon {xs : List Int} {m : Nat} (h : Canon xs) (t : Trimmed xs m) : m = xs.length := by
  obtain ⟨hc, hv⟩ := t.canon h.1
  have e := canon_unique hc h hv
  have : (xs.take m).length = m := by have := t.1; simp; omega
  rw [← this, e]
theorem made_same {q r : List Int} (h : Ok q) (hm : ∃ l, Canon l ∧ val l = val q ∧ r = cap l) : q = r := by
  obtain ⟨l, hc, hv, hr⟩ := hm
  obtain rfl := canon_unique hc h.1 hv
  rw [hr, (hc.ok h.2).2]
theorem lowN_mk {neg : Bool} {xs ys q p : List Int} {G : Int} (hy : 0 < val ys) (hG : G = (Int.gcd (val xs) (val ys) : Int)) (hq : Ok q) (hp : Ok p) (ex : val xs = val q * G) (ey : val ys = val p * G) : RLow (bval neg xs) (val ys) (sgn neg q) q p := by
  have h0 : 0 < G := by rw [hG]; exact gcd_pos_of hy
  have hp0 := val_nonneg hp.1.1
  have hpp : 0 < val p := by
    rcases Int.lt_or_le 0 (val p) with h | h
    · exact h
    · have : val p = 0 := by omega
      rw [this] at ey; omega
  refine ⟨by omega, sgn_bok _ hq, hp, hpp, gcd_reduced hG h0 ex ey, ?_⟩
  rw [sgn_bval _ hq.1]
  have e : val q * val ys = val xs * val p := by rw [ex, ey, Int.mul_assoc, Int.mul_comm G]
  cases neg <;> simp [bval, Int.neg_mul, e]
theorem lowN_one {neg : Bool} {xs ys : List Int} (hx : Ok xs) (hk : Ok ys) (hy : 0 < val ys) (h : Int.gcd (val xs) (val ys) = 1) : RLow (bval neg xs) (val ys) (sgn neg xs) xs ys :=
  lowN_mk hy (G := 1) (by rw [h]; rfl) hx hk (by omega) (by omega)
theorem lowN_div {neg : Bool} {xs ys G q r p s : List Int} (hy : 0 < val ys) (hG : GcdIs (val xs) (val ys) G) (hq : DivIs (val xs) (val G) q r) (hp : DivIs (val ys) (val G) p s) (lq : q.length ≤ 60) (lp : p.length ≤ 60) :
    RLow (bval neg xs) (val ys) (sgn neg q) q p :=
  lowN_mk hy hG.2 ⟨hq.1, lq⟩ ⟨hp.1, lp⟩ (div_exact hq (by rw [hG.2]; exact Int.gcd_dvd_left _ _)) (div_exact hp (by rw [hG.2]; exact Int.gcd_dvd_right _ _))
theorem gcd_len {a : Int} {ys G : List Int} (hy : 0 < val ys) (h : GcdIs a (val ys) G) (k : Ok ys) : G.length ≤ 60 := by
  refine short_of h.1 ?_
  rw [h.2]
  have h1 : (Int.gcd a (val ys) : Int) ≤ val ys := Int.le_of_dvd hy (Int.gcd_dvd_right _ _)
  have h2 := val_lt k.1.1
  have h3 := pw_mono k.2
  omega
theorem gcd_of_one {a : Int} {ys : List Int} (h : ys = [1]) : Int.gcd a (val ys) = 1 := by subst h; simp [val]
set_option maxHeartbeats 3200000 in
theorem spec_low (neg : Bool) (A : Option Addr) (n c : Nat) (xs : List Int) (B : Option Addr) (m d : Nat) (ds : List Int) (w : World) (h : InI w A n xs) (hA : Room A n c) (k : InI w B m ds) (hB : Room B m d) (h1 : Ok xs) (h2 : Ok ds) :
    Calls Tryz.prog 159 #[.bool neg, .slice A n c, .slice B m d] w fun e w' => RatEnd (RIs True (bval neg xs) (val ds)) w w' e := by
  obtain ⟨i0, hi, hz0, hz1, hz2⟩ := info_parts Tryz.infoI
  obtain ⟨W0, hW0⟩ : ∃ W, W = (w.alloc (.cells #[.bool false, .slice none 0 0, .slice none 0 0] 34)) := ⟨_, rfl⟩
  have hs_0 : Hid (Box W0 (w.heap.size) 34 #[.bool false, .slice none 0 0, .slice none 0 0]) := by rw [hW0]; exact (Box.at' (by simp))
  have BW_0 : Hid (Below w.heap.size w W0) := by rw [hW0]; exact ((Below.refl w.heap.size w).alloc (by simp) _)
  have hsz0 : w.heap.size + 1 ≤ W0.heap.size := by rw [hW0]; simp
  have hn60 : n ≤ 60 := by have := h1.2; rwa [h.1] at this
  have hm60 : m ≤ 60 := by have := h2.2; rwa [k.1] at this
  have HI := Lib.hid (h.below BW_0.out)
  have HK := Lib.hid (k.below BW_0.out)
  have RX := Lib.hid hA
  have RB := Lib.hid hB
  have K1 := Lib.hid h1
  have K2 := Lib.hid h2
  clear h k hA hB h1 h2
  go_enter Tryz.func159, Tryz.ntmps159
  go_wp2_with fail
  rw [← hW0]
  clear hW0
  refine (spec_trimR A n c xs _ HI.out.1 (by omega) RX.out HI.out.2.2.1).mono ?_
  rintro e w1 ⟨⟨n', rfl, ht⟩, rfl⟩
  obtain rfl : n = n' := by rw [trimmed_canon K1.out.1 ht, HI.out.1]
  clear ht
  go_wp2_with fail
  refine (spec_trimR B m d ds _ HK.out.1 (by omega) RB.out HK.out.2.2.1).mono ?_
  rintro e w1 ⟨⟨m', rfl, ht⟩, rfl⟩
  obtain rfl : m = m' := by rw [trimmed_canon K2.out.1 ht, HK.out.1]
  clear ht
  by_cases hz : m = 0
  · have HZ0 : Hid (val ds = 0) := by unfold Hid; rw [List.eq_nil_of_length_eq_zero (HK.out.1.trans hz)]; rfl
    have ht : ((m : Int) == 0) = true := by simp [hz]
    clear hz
    have ehs0 := hs_0.out.cell 0
    have ehs1 := hs_0.out.cell 1
    have ehs2 := hs_0.out.cell 2
    have fhs0 := hs_0.out.free 0
    have fhs1 := hs_0.out.free 1
    have fhs2 := hs_0.out.free 2
    simp at ehs0 ehs1 ehs2
    have HZ : Hid (RIs True (bval neg xs) (val ds) false [] []) := rIs_zero HZ0.out
    go_wp2_with fail
    refine bodyPost_ret (v := .agg #[.bool false, .slice none 0 0, .slice none 0 0]) (by simp [results, Tryz.results159, ehs0, ehs1, ehs2, go_sem]) rfl ?_
    exact ratEnd_zero HZ.out (below_store3 BW_0.out (by omega) _ _ _)
  have ht : ((m : Int) == 0) = false := by simp [hz]
  have HP := Lib.hid (canon_pos K2.out.1 (by rw [HK.out.1]; omega))
  clear hz
  obtain ⟨b1, hb1⟩ : ∃ q, decide (ds = [1]) = q := ⟨_, rfl⟩
  have HB1 := Lib.hid hb1
  clear hb1
  go_wp2_with fail
  refine (spec_one B m d ds b1 _ HB1.out HK.out.1 (by omega) HK.out.2.2.1).mono ?_
  rintro e w1 ⟨rfl, rfl⟩
  cases b1
  case true =>
    have HL : Hid (RLow (bval neg xs) (val ds) (sgn neg xs) xs ds) := lowN_one K1.out K2.out HP.out (gcd_of_one (of_decide_eq_true HB1.out))
    by_cases hsh : Short xs ds
    · have HS := Lib.hid hsh
      have hn24 : ((n : Nat) : Int) ≤ 24 := by have := hsh.1; rw [HI.out.1] at this; omega
      have hm24 : ((m : Nat) : Int) ≤ 24 := by have := hsh.2; rw [HK.out.1] at this; omega
      have HQ0 := Lib.hid (rIs_yes trivial HL.out hsh)
      have hcon := spec_make neg A n c xs _ HI.out.1 (by omega) RX.out HI.out.2.2.1 HL.out.2.1.1.1.1
      have Hcon := Lib.hid hcon
      clear hsh hcon
      go_wp2_with fail
      refine Hcon.out.mono ?_
      rintro e wm ⟨r, v, rfl, hm, ⟨hl, ho⟩, hb⟩
      have er : xs = r := made_same HL.out.2.1.1 hm
      subst er
      have hs_1 := Lib.hid (hs_0.out.below hb hs_0.out.lt)
      have BW_1 := Lib.hid (BW_0.out.trans (hb.mono BW_0.out.size))
      have HY2 := Lib.hid (HK.out.below hb)
      obtain ⟨A9, c9, rfl⟩ := own_slice ho
      obtain ⟨N9, hN⟩ : ∃ N, N = xs.length := ⟨_, rfl⟩
      rw [← hN] at hl ho ⊢
      have HO5 := Lib.hid ho
      have HN := Lib.hid hN.symm
      clear hm ho hb hN Hcon
      obtain ⟨s, hs0⟩ : ∃ s, s = sgn neg xs := ⟨_, rfl⟩
      rw [← hs0] at HQ0 ⊢
      have HQ := HQ0
      clear hs0 HQ0
      have HR2 : Hid (Reads (wm.alloc (.cells #[] 3)) B (ds.map (.int .i64))) := HY2.out.2.2.1.below ((Below.refl _ _).alloc (Nat.le_refl _) _)
      have HL2 : Hid ((ds.map (Value.int .i64)).length = m) := by unfold Hid; rw [List.length_map, HY2.out.1]
      have hbs : wm.heap.size ≤ (wm.alloc (.cells #[] 3)).heap.size := by simp
      go_wp2_with (at_builtin; refine wpList_append_reads rfl _ _ 30 rfl wm.heap.size 3 i0 (.int .i64 0) 8 Tryz.underlying30 hi hz0 hz1 hz2 rfl _ _ _ rfl (World.ownsRow_lit wm #[] 0 (Nat.le_refl _) (by simp) (by simp)) B m d (ds.map (.int .i64)) rfl HL2.out HR2.out (by simp [Value.oneCell']) (by unfold maxLen; omega) (by omega) hbs ?_)
      intro u w6 hown hg
      have hs_2 := Lib.hid ((hs_1.out.alloc (.cells #[] 3)).grown hg (lit_ne hs_1.out.lt))
      have HO := Lib.hid ((HO5.out.alloc (.cells #[] 3)).kept hg (lit_kept HO5.out))
      have BW_2 := Lib.hid ((BW_1.out.alloc BW_1.out.size (.cells #[] 3)).grown hg (by have := BW_1.out.size; simp; omega) (lit_low BW_1.out.size))
      have HAP := Lib.hid (apart_older' HO5.out hown)
      have hgs : wm.heap.size ≤ w6.heap.size := Nat.le_trans (by simp) hg.size
      obtain ⟨B9, d9, rfl⟩ := own_slice hown
      have HU := Lib.hid hown
      have HM := HY2.out.1
      replace HM := Lib.hid HM
      have hbz := BW_1.out.size
      have hiz := BW_0.out.size
      clear hown hg
      have ehs0 := hs_2.out.cell 0
      have ehs1 := hs_2.out.cell 1
      have ehs2 := hs_2.out.cell 2
      have fhs0 := hs_2.out.free 0
      have fhs1 := hs_2.out.free 1
      have fhs2 := hs_2.out.free 2
      simp at ehs0 ehs1 ehs2
      go_wp2_with fail
      refine bodyPost_ret (v := .agg #[.bool s, .slice A9 N9 c9, .slice B9 m d9]) (by simp [results, Tryz.results159, ehs0, ehs1, ehs2, go_sem]) rfl ?_
      exact ratEnd_store hs_2.out (by omega) BW_2.out HQ.out HN.out HM.out (by omega) (by omega) HO.out (by omega) HU.out (by omega) HAP.out
    · have HS := Lib.hid hsh
      have hnm : 24 < ((n : Nat) : Int) ∨ (¬ 24 < ((n : Nat) : Int) ∧ 24 < ((m : Nat) : Int)) := by
        by_cases h : n ≤ 24
        · right; refine ⟨by omega, ?_⟩
          by_cases h2 : m ≤ 24
          · exact absurd ⟨by rw [HI.out.1]; exact h, by rw [HK.out.1]; exact h2⟩ hsh
          · omega
        · left; omega
      have HZ0 := Lib.hid (rIs_long (P := True) HL.out hsh)
      clear hsh
      have ehs0 := hs_0.out.cell 0
      have ehs1 := hs_0.out.cell 1
      have ehs2 := hs_0.out.cell 2
      have fhs0 := hs_0.out.free 0
      have fhs1 := hs_0.out.free 1
      have fhs2 := hs_0.out.free 2
      simp at ehs0 ehs1 ehs2
      rcases hnm with hnm | ⟨hnm0, hnm⟩
      · skip
        have HZ : Hid (RIs True (bval neg xs) (val ds) false [] []) := HZ0.out
        go_wp2_with fail
        refine bodyPost_ret (v := .agg #[.bool false, .slice none 0 0, .slice none 0 0]) (by simp [results, Tryz.results159, ehs0, ehs1, ehs2, go_sem]) rfl ?_
        exact ratEnd_zero HZ.out (below_store3 BW_0.out (by omega) _ _ _)
      · skip
        have HZ : Hid (RIs True (bval neg xs) (val ds) false [] []) := HZ0.out
        go_wp2_with fail
        refine bodyPost_ret (v := .agg #[.bool false, .slice none 0 0, .slice none 0 0]) (by simp [results, Tryz.results159, ehs0, ehs1, ehs2, go_sem]) rfl ?_
        exact ratEnd_zero HZ.out (below_store3 BW_0.out (by omega) _ _ _)
  go_wp2_with fail
  refine (spec_gcd A n c xs B m d ds _ ⟨HI.out.1, by omega, HI.out.2.2.1⟩ ⟨HK.out.1, by omega, HK.out.2.2.1⟩ K1.out.1 K2.out.1).mono ?_
  rintro e w1 ⟨gs, v, rfl, hg, ⟨hl, ho⟩, hb⟩
  have hs_1 := Lib.hid (hs_0.out.below hb hs_0.out.lt)
  have BW_1 := Lib.hid (BW_0.out.trans (hb.mono BW_0.out.size))
  replace HI := Lib.hid (HI.out.below hb)
  replace HK := Lib.hid (HK.out.below hb)
  obtain ⟨Ag, cg, rfl⟩ := own_slice ho
  obtain ⟨ng, hng⟩ : ∃ N, N = gs.length := ⟨_, rfl⟩
  rw [← hng] at hl ho ⊢
  have HNG := Lib.hid hng
  have HG := Lib.hid hg
  have HOG := Lib.hid ho
  clear hg ho hb hng
  obtain ⟨b1, hb1⟩ : ∃ q, decide (gs = [1]) = q := ⟨_, rfl⟩
  have HBG := Lib.hid hb1
  clear hb1
  go_wp2_with fail
  refine (spec_one Ag ng cg gs b1 _ HBG.out HNG.out.symm hl (Reads.of_own HOG.out)).mono ?_
  rintro e w1 ⟨rfl, rfl⟩
  cases b1
  case true =>
    have HL : Hid (RLow (bval neg xs) (val ds) (sgn neg xs) xs ds) := lowN_one K1.out K2.out HP.out ((gcd_one HG.out).1 (of_decide_eq_true HBG.out))
    by_cases hsh : Short xs ds
    · have HS := Lib.hid hsh
      have hn24 : ((n : Nat) : Int) ≤ 24 := by have := hsh.1; rw [HI.out.1] at this; omega
      have hm24 : ((m : Nat) : Int) ≤ 24 := by have := hsh.2; rw [HK.out.1] at this; omega
      have HQ0 := Lib.hid (rIs_yes trivial HL.out hsh)
      have hcon := spec_make neg A n c xs _ HI.out.1 (by omega) RX.out HI.out.2.2.1 HL.out.2.1.1.1.1
      have Hcon := Lib.hid hcon
      clear hsh hcon
      go_wp2_with fail
      refine Hcon.out.mono ?_
      rintro e wm ⟨r, v, rfl, hm, ⟨hl, ho⟩, hb⟩
      have er : xs = r := made_same HL.out.2.1.1 hm
      subst er
      have hs_2 := Lib.hid (hs_1.out.below hb hs_1.out.lt)
      have BW_2 := Lib.hid (BW_1.out.trans (hb.mono BW_1.out.size))
      have HY2 := Lib.hid (HK.out.below hb)
      obtain ⟨A9, c9, rfl⟩ := own_slice ho
      obtain ⟨N9, hN⟩ : ∃ N, N = xs.length := ⟨_, rfl⟩
      rw [← hN] at hl ho ⊢
      have HO5 := Lib.hid ho
      have HN := Lib.hid hN.symm
      clear hm ho hb hN Hcon
      obtain ⟨s, hs0⟩ : ∃ s, s = sgn neg xs := ⟨_, rfl⟩
      rw [← hs0] at HQ0 ⊢
      have HQ := HQ0
      clear hs0 HQ0
      have HR2 : Hid (Reads (wm.alloc (.cells #[] 3)) B (ds.map (.int .i64))) := HY2.out.2.2.1.below ((Below.refl _ _).alloc (Nat.le_refl _) _)
      have HL2 : Hid ((ds.map (Value.int .i64)).length = m) := by unfold Hid; rw [List.length_map, HY2.out.1]
      have hbs : wm.heap.size ≤ (wm.alloc (.cells #[] 3)).heap.size := by simp
      go_wp2_with (at_builtin; refine wpList_append_reads rfl _ _ 30 rfl wm.heap.size 3 i0 (.int .i64 0) 8 Tryz.underlying30 hi hz0 hz1 hz2 rfl _ _ _ rfl (World.ownsRow_lit wm #[] 0 (Nat.le_refl _) (by simp) (by simp)) B m d (ds.map (.int .i64)) rfl HL2.out HR2.out (by simp [Value.oneCell']) (by unfold maxLen; omega) (by omega) hbs ?_)
      intro u w6 hown hg
      have hs_3 := Lib.hid ((hs_2.out.alloc (.cells #[] 3)).grown hg (lit_ne hs_2.out.lt))
      have HO := Lib.hid ((HO5.out.alloc (.cells #[] 3)).kept hg (lit_kept HO5.out))
      have BW_3 := Lib.hid ((BW_2.out.alloc BW_2.out.size (.cells #[] 3)).grown hg (by have := BW_2.out.size; simp; omega) (lit_low BW_2.out.size))
      have HAP := Lib.hid (apart_older' HO5.out hown)
      have hgs : wm.heap.size ≤ w6.heap.size := Nat.le_trans (by simp) hg.size
      obtain ⟨B9, d9, rfl⟩ := own_slice hown
      have HU := Lib.hid hown
      have HM := HY2.out.1
      replace HM := Lib.hid HM
      have hbz := BW_2.out.size
      have hiz := BW_1.out.size
      clear hown hg
      have ehs0 := hs_3.out.cell 0
      have ehs1 := hs_3.out.cell 1
      have ehs2 := hs_3.out.cell 2
      have fhs0 := hs_3.out.free 0
      have fhs1 := hs_3.out.free 1
      have fhs2 := hs_3.out.free 2
      simp at ehs0 ehs1 ehs2
      go_wp2_with fail
      refine bodyPost_ret (v := .agg #[.bool s, .slice A9 N9 c9, .slice B9 m d9]) (by simp [results, Tryz.results159, ehs0, ehs1, ehs2, go_sem]) rfl ?_
      exact ratEnd_store hs_3.out (by omega) BW_3.out HQ.out HN.out HM.out (by omega) (by omega) HO.out (by omega) HU.out (by omega) HAP.out
    · have HS := Lib.hid hsh
      have hnm : 24 < ((n : Nat) : Int) ∨ (¬ 24 < ((n : Nat) : Int) ∧ 24 < ((m : Nat) : Int)) := by
        by_cases h : n ≤ 24
        · right; refine ⟨by omega, ?_⟩
          by_cases h2 : m ≤ 24
          · exact absurd ⟨by rw [HI.out.1]; exact h, by rw [HK.out.1]; exact h2⟩ hsh
          · omega
        · left; omega
      have HZ0 := Lib.hid (rIs_long (P := True) HL.out hsh)
      clear hsh
      have ehs0 := hs_1.out.cell 0
      have ehs1 := hs_1.out.cell 1
      have ehs2 := hs_1.out.cell 2
      have fhs0 := hs_1.out.free 0
      have fhs1 := hs_1.out.free 1
      have fhs2 := hs_1.out.free 2
      simp at ehs0 ehs1 ehs2
      rcases hnm with hnm | ⟨hnm0, hnm⟩
      · skip
        have HZ : Hid (RIs True (bval neg xs) (val ds) false [] []) := HZ0.out
        go_wp2_with fail
        refine bodyPost_ret (v := .agg #[.bool false, .slice none 0 0, .slice none 0 0]) (by simp [results, Tryz.results159, ehs0, ehs1, ehs2, go_sem]) rfl ?_
        exact ratEnd_zero HZ.out (below_store3 BW_1.out (by omega) _ _ _)
      · skip
        have HZ : Hid (RIs True (bval neg xs) (val ds) false [] []) := HZ0.out
        go_wp2_with fail
        refine bodyPost_ret (v := .agg #[.bool false, .slice none 0 0, .slice none 0 0]) (by simp [results, Tryz.results159, ehs0, ehs1, ehs2, go_sem]) rfl ?_
        exact ratEnd_zero HZ.out (below_store3 BW_1.out (by omega) _ _ _)
  have HGP := Lib.hid (gcd_pos_list HP.out HG.out)
  have hg60 : ng ≤ 60 := by rw [HNG.out]; exact gcd_len HP.out HG.out K2.out
  go_wp2_with fail
  refine (spec_div A n c xs Ag ng cg gs _ ⟨HI.out.1, by omega, HI.out.2.2.1⟩ ⟨HNG.out.symm, by omega, Reads.of_own HOG.out⟩ K1.out.1 HG.out.1 HGP.out).mono ?_
  rintro e w2 ⟨q, vq, r1, u1, rfl, hd, hlq, hlr, hoq, hor, hap, hb⟩
  have hs_2 := Lib.hid (hs_1.out.below hb hs_1.out.lt)
  have BW_2 := Lib.hid (BW_1.out.trans (hb.mono BW_1.out.size))
  replace HK := Lib.hid (HK.out.below hb)
  replace HOG := Lib.hid (own_below HOG.out hb)
  obtain ⟨Aq, cq, rfl⟩ := own_slice hoq
  obtain ⟨nq, hnq⟩ : ∃ N, N = q.length := ⟨_, rfl⟩
  rw [← hnq] at hlq hoq ⊢
  have HNQ := Lib.hid hnq
  have HD := Lib.hid hd
  have HOQ := Lib.hid hoq
  clear hd hoq hor hap hb hnq hlr
  go_wp2_with fail
  refine (spec_div B m d ds Ag ng cg gs _ ⟨HK.out.1, by omega, HK.out.2.2.1⟩ ⟨HNG.out.symm, by omega, Reads.of_own HOG.out⟩ K2.out.1 HG.out.1 HGP.out).mono ?_
  rintro e w3 ⟨p, vp, r2, u2, rfl, hd, hlp, hlr, hop, hor, hap, hb⟩
  have hs_3 := Lib.hid (hs_2.out.below hb hs_2.out.lt)
  have BW_3 := Lib.hid (BW_2.out.trans (hb.mono BW_2.out.size))
  replace HOQ := Lib.hid (own_below HOQ.out hb)
  obtain ⟨Ap, cp, rfl⟩ := own_slice hop
  obtain ⟨np, hnp⟩ : ∃ N, N = p.length := ⟨_, rfl⟩
  rw [← hnp] at hlp hop ⊢
  have HNP := Lib.hid hnp
  have HL : Hid (RLow (bval neg xs) (val ds) (sgn neg q) q p) := lowN_div HP.out HG.out HD.out hd (by rw [← HNQ.out]; omega) (by rw [← hnp]; omega)
  have HX : Hid (InI w3 Aq nq q) := ⟨HNQ.out.symm, by omega, Reads.of_own HOQ.out, limbs_bd HD.out.1.1⟩
  have HY : Hid (InI w3 Ap np p) := ⟨hnp.symm, by omega, Reads.of_own hop, limbs_bd hd.1.1⟩
  replace RX := Lib.hid (room_own HOQ.out)
  clear hd hop hor hap hb hnp hlr
  by_cases hsh : Short q p
  · have HS := Lib.hid hsh
    have hn24 : ((nq : Nat) : Int) ≤ 24 := by have := hsh.1; rw [HX.out.1] at this; omega
    have hm24 : ((np : Nat) : Int) ≤ 24 := by have := hsh.2; rw [HY.out.1] at this; omega
    have HQ0 := Lib.hid (rIs_yes trivial HL.out hsh)
    have hcon := spec_make neg Aq nq cq q _ HX.out.1 (by omega) RX.out HX.out.2.2.1 HL.out.2.1.1.1.1
    have Hcon := Lib.hid hcon
    clear hsh hcon
    go_wp2_with fail
    refine Hcon.out.mono ?_
    rintro e wm ⟨r, v, rfl, hm, ⟨hl, ho⟩, hb⟩
    have er : q = r := made_same HL.out.2.1.1 hm
    subst er
    have hs_4 := Lib.hid (hs_3.out.below hb hs_3.out.lt)
    have BW_4 := Lib.hid (BW_3.out.trans (hb.mono BW_3.out.size))
    have HY2 := Lib.hid (HY.out.below hb)
    obtain ⟨A9, c9, rfl⟩ := own_slice ho
    obtain ⟨N9, hN⟩ : ∃ N, N = q.length := ⟨_, rfl⟩
    rw [← hN] at hl ho ⊢
    have HO5 := Lib.hid ho
    have HN := Lib.hid hN.symm
    clear hm ho hb hN Hcon
    obtain ⟨s, hs0⟩ : ∃ s, s = sgn neg q := ⟨_, rfl⟩
    rw [← hs0] at HQ0 ⊢
    have HQ := HQ0
    clear hs0 HQ0
    have HR2 : Hid (Reads (wm.alloc (.cells #[] 3)) Ap (p.map (.int .i64))) := HY2.out.2.2.1.below ((Below.refl _ _).alloc (Nat.le_refl _) _)
    have HL2 : Hid ((p.map (Value.int .i64)).length = np) := by unfold Hid; rw [List.length_map, HY2.out.1]
    have hbs : wm.heap.size ≤ (wm.alloc (.cells #[] 3)).heap.size := by simp
    go_wp2_with (at_builtin; refine wpList_append_reads rfl _ _ 30 rfl wm.heap.size 3 i0 (.int .i64 0) 8 Tryz.underlying30 hi hz0 hz1 hz2 rfl _ _ _ rfl (World.ownsRow_lit wm #[] 0 (Nat.le_refl _) (by simp) (by simp)) Ap np cp (p.map (.int .i64)) rfl HL2.out HR2.out (by simp [Value.oneCell']) (by unfold maxLen; omega) (by omega) hbs ?_)
    intro u w6 hown hg
    have hs_5 := Lib.hid ((hs_4.out.alloc (.cells #[] 3)).grown hg (lit_ne hs_4.out.lt))
    have HO := Lib.hid ((HO5.out.alloc (.cells #[] 3)).kept hg (lit_kept HO5.out))
    have BW_5 := Lib.hid ((BW_4.out.alloc BW_4.out.size (.cells #[] 3)).grown hg (by have := BW_4.out.size; simp; omega) (lit_low BW_4.out.size))
    have HAP := Lib.hid (apart_older' HO5.out hown)
    have hgs : wm.heap.size ≤ w6.heap.size := Nat.le_trans (by simp) hg.size
    obtain ⟨B9, d9, rfl⟩ := own_slice hown
    have HU := Lib.hid hown
    have HM := HY2.out.1
    replace HM := Lib.hid HM
    have hbz := BW_4.out.size
    have hiz := BW_3.out.size
    clear hown hg
    have ehs0 := hs_5.out.cell 0
    have ehs1 := hs_5.out.cell 1
    have ehs2 := hs_5.out.cell 2
    have fhs0 := hs_5.out.free 0
    have fhs1 := hs_5.out.free 1
    have fhs2 := hs_5.out.free 2
    simp at ehs0 ehs1 ehs2
    go_wp2_with fail
    refine bodyPost_ret (v := .agg #[.bool s, .slice A9 N9 c9, .slice B9 np d9]) (by simp [results, Tryz.results159, ehs0, ehs1, ehs2, go_sem]) rfl ?_
    exact ratEnd_store hs_5.out (by omega) BW_5.out HQ.out HN.out HM.out (by omega) (by omega) HO.out (by omega) HU.out (by omega) HAP.out
  · have HS := Lib.hid hsh
    have hnm : 24 < ((nq : Nat) : Int) ∨ (¬ 24 < ((nq : Nat) : Int) ∧ 24 < ((np : Nat) : Int)) := by
      by_cases h : nq ≤ 24
      · right; refine ⟨by omega, ?_⟩
        by_cases h2 : np ≤ 24
        · exact absurd ⟨by rw [HX.out.1]; exact h, by rw [HY.out.1]; exact h2⟩ hsh
        · omega
      · left; omega
    have HZ0 := Lib.hid (rIs_long (P := True) HL.out hsh)
    clear hsh
    have ehs0 := hs_3.out.cell 0
    have ehs1 := hs_3.out.cell 1
    have ehs2 := hs_3.out.cell 2
    have fhs0 := hs_3.out.free 0
    have fhs1 := hs_3.out.free 1
    have fhs2 := hs_3.out.free 2
    simp at ehs0 ehs1 ehs2
    rcases hnm with hnm | ⟨hnm0, hnm⟩
    · skip
      have HZ : Hid (RIs True (bval neg xs) (val ds) false [] []) := HZ0.out
      go_wp2_with fail
      refine bodyPost_ret (v := .agg #[.bool false, .slice none 0 0, .slice none 0 0]) (by simp [results, Tryz.results159, ehs0, ehs1, ehs2, go_sem]) rfl ?_
      exact ratEnd_zero HZ.out (below_store3 BW_3.out (by omega) _ _ _)
    · skip
      have HZ : Hid (RIs True (bval neg xs) (val ds) false [] []) := HZ0.out
      go_wp2_with fail
      refine bodyPost_ret (v := .agg #[.bool false, .slice none 0 0, .slice none 0 0]) (by simp [results, Tryz.results159, ehs0, ehs1, ehs2, go_sem]) rfl ?_
      exact ratEnd_zero HZ.out (below_store3 BW_3.out (by omega) _ _ _)
end Go.Proofs.YtegclofijaoajaaGreat
namespace Go.Proofs.YtegclofijaoajaaGreat
set_option maxRecDepth 100000
open Go.RowKit

end Go.Proofs.YtegclofijaoajaaGreat
namespace Go.Proofs.YtegclofijaoajaaGreat
set_option maxRecDepth 100000
open Go.RowKit

section
variable {g : Bool} {l d : List Int}
theorem ROk.nr (h : ROk g l d) : InR l := h.1.1.1.1
theorem ROk.dr (h : ROk g l d) : InR d := h.2.1.1.1
theorem ROk.nb (h : ROk g l d) : 0 ≤ val l ∧ val l < pw 24 := h.bd.1
theorem ROk.db (h : ROk g l d) : 0 ≤ val d ∧ val d < pw 24 := ⟨Int.le_of_lt h.bd.2.1, h.bd.2.2⟩
/-- A valid fraction or the zero value. -/
def GRat (g : Bool) (l d : List Int) : Prop := ROk g l d ∨ (g = false ∧ l = [] ∧ d = [])
theorem GRat.bok (h : GRat g l d) : BOk g l := by
  rcases h with h | ⟨rfl, rfl, rfl⟩
  · exact h.1
  · exact ⟨⟨⟨fun z hz => (by cases hz), (by decide)⟩, (by decide)⟩, fun e => by cases e⟩
theorem GRat.dok (h : GRat g l d) : Ok d := by
  rcases h with h | ⟨rfl, rfl, rfl⟩
  · exact h.2.1
  · exact ⟨⟨fun z hz => (by cases hz), (by decide)⟩, (by decide)⟩
theorem GRat.short (h : GRat g l d) : Short l d := by
  rcases h with h | ⟨rfl, rfl, rfl⟩
  · exact h.2.2.2.2
  · exact ⟨by decide, by decide⟩
theorem GRat.nr (h : GRat g l d) : InR l := h.bok.1.1.1
theorem GRat.dr (h : GRat g l d) : InR d := h.dok.1.1
theorem GRat.nb (h : GRat g l d) : 0 ≤ val l ∧ val l < pw 24 := by
  rcases h with h | ⟨rfl, rfl, rfl⟩
  · exact h.nb
  · exact ⟨by simp [val], by simp only [val]; exact pw_pos 24⟩
theorem GRat.db (h : GRat g l d) : 0 ≤ val d ∧ val d < pw 24 := by
  rcases h with h | ⟨rfl, rfl, rfl⟩
  · exact h.db
  · exact ⟨by simp [val], by simp only [val]; exact pw_pos 24⟩
theorem GRat.nbd (h : GRat g l d) : -pw 24 < bval g l ∧ bval g l < pw 24 := bval_bd h.nb.1 h.nb.2
end
theorem GRat.two {g1 g2 : Bool} {l1 d1 l2 d2 : List Int} (k1 : GRat g1 l1 d1) (k2 : GRat g2 l2 d2) : (ROk g1 l1 d1 ∧ ROk g2 l2 d2) ∨ val d1 * val d2 = 0 := by
  rcases k1 with k1 | ⟨rfl, rfl, rfl⟩
  · rcases k2 with k2 | ⟨rfl, rfl, rfl⟩
    · exact .inl ⟨k1, k2⟩
    · exact .inr (by simp [val])
  · exact .inr (by simp [val])
theorem gr_fin {P : Prop} {N D : Int} {g : Bool} {l d : List Int} (h : RIs True N D g l d) (hp : P ∨ D = 0) : RIs P N D g l d := by
  rcases hp with hp | hD
  · exact rIs_prop h trivial hp
  · rcases h with ⟨_, ⟨h0, _⟩, _⟩ | ⟨_, z⟩
    · exact absurd hD h0
    · exact .inr ⟨fun ⟨_, _, _, _, k, _⟩ => k.1 hD, z⟩
theorem prod_ok {a b : Int} {l : List Int} (hc : Canon l) (hv : val l = a * b) (ha : 0 ≤ a ∧ a < pw 24) (hb : 0 ≤ b ∧ b < pw 24) : Ok l ∧ val l = a * b := by
  have p24 := pw_pos 24
  obtain ⟨m0, m1⟩ := mul_bd24 (show -pw 24 < a by omega) ha.2 (show -pw 24 < b by omega) hb.2
  have hl : l.length ≤ 48 := short_of hc (by rw [hv]; exact m1)
  exact ⟨⟨hc, by omega⟩, hv⟩
theorem low_mul_fin {g1 g2 t : Bool} {xs es ys fs la lb : List Int} {g : Bool} {l d : List Int} (k1 : GRat g1 xs es) (k2 : GRat g2 ys fs) (ht : (g1 != g2) = !t) (ha : Ok la ∧ val la = val xs * val ys) (hb : Ok lb ∧ val lb = val es * val fs) (h : RIs True (bval (!t) la) (val lb) g l d) : RatMulIs g1 xs es g2 ys fs g l d := by
  rw [← ht, hb.2] at h
  have e : bval (g1 != g2) la = bval g1 xs * bval g2 ys := by cases g1 <;> cases g2 <;> simp [bval, ha.2, Int.neg_mul, Int.mul_neg]
  rw [e] at h
  exact gr_fin h (k1.two k2)
set_option maxHeartbeats 3200000 in
theorem spec_l04MulG (g1 : Bool) (A1 : Option Addr) (n1 c1 : Nat) (xs : List Int) (B1 : Option Addr) (m1 d1 : Nat) (es : List Int) (g2 : Bool) (A2 : Option Addr) (n2 c2 : Nat) (ys : List Int) (B2 : Option Addr) (m2 d2 : Nat) (fs : List Int) (w : World) (h1 : InI w A1 n1 xs) (r1 : Room A1 n1 c1) (k1 : InI w B1 m1 es) (s1 : Room B1 m1 d1) (h2 : InI w A2 n2 ys) (r2 : Room A2 n2 c2) (k2 : InI w B2 m2 fs) (s2 : Room B2 m2 d2)(q1 : GRat g1 xs es) (q2 : GRat g2 ys fs) :
    Calls Tryz.prog 215 #[.agg #[.bool g1, .slice A1 n1 c1, .slice B1 m1 d1], .agg #[.bool g2, .slice A2 n2 c2, .slice B2 m2 d2]] w fun e w' => RatEnd (RatMulIs g1 xs es g2 ys fs) w w' e := by
  have hn1 := h1.2.1
  have hn2 := h2.2.1
  have hm1 := k1.2.1
  have hm2 := k2.2.1
  obtain ⟨W0, hW0⟩ : ∃ W, W = (((w.alloc (.cells #[.bool g1, .slice A1 n1 c1, .slice B1 m1 d1] 34)).alloc (.cells #[.bool g2, .slice A2 n2 c2, .slice B2 m2 d2] 34)).alloc (.cells #[.bool false, .slice none 0 0, .slice none 0 0] 34)) := ⟨_, rfl⟩
  have hy0_0 : Hid (Box W0 (w.heap.size) 34 #[.bool g1, .slice A1 n1 c1, .slice B1 m1 d1]) := by rw [hW0]; exact (((Box.at' (by simp)).alloc _).alloc _)
  have hy1_0 : Hid (Box W0 (w.heap.size + 1) 34 #[.bool g2, .slice A2 n2 c2, .slice B2 m2 d2]) := by rw [hW0]; exact ((Box.at' (by simp)).alloc _)
  have hs_0 : Hid (Box W0 (w.heap.size + 1 + 1) 34 #[.bool false, .slice none 0 0, .slice none 0 0]) := by rw [hW0]; exact (Box.at' (by simp))
  have BW_0 : Hid (Below w.heap.size w W0) := by rw [hW0]; exact ((((Below.refl w.heap.size w).alloc (by simp) _).alloc (by simp) _).alloc (by simp; omega) _)
  have hsz0 : w.heap.size + 1 + 1 + 1 ≤ W0.heap.size := by rw [hW0]; simp
  have HI1 := Lib.hid (h1.below BW_0.out)
  have HI2 := Lib.hid (h2.below BW_0.out)
  have HJ1 := Lib.hid (k1.below BW_0.out)
  have HJ2 := Lib.hid (k2.below BW_0.out)
  have R1 := Lib.hid r1
  have R2 := Lib.hid r2
  have S1 := Lib.hid s1
  have S2 := Lib.hid s2
  clear h1 h2 k1 k2 r1 r2 s1 s2
  go_enter Tryz.func215, Tryz.ntmps215
  go_wp2_with fail
  rw [← hW0]
  clear hW0
  have K1 := Lib.hid q1
  have K2 := Lib.hid q2
  clear q1 q2
  obtain ⟨t, ht⟩ : ∃ t, (g1 == g2) = t := ⟨_, rfl⟩
  have HT : Hid ((g1 != g2) = !t) := by rw [← ht]; rfl
  have hy0_1 := Lib.hid hy0_0.out.drew
  have hy1_1 := Lib.hid hy1_0.out.drew
  have hs_1 := Lib.hid hs_0.out.drew
  have BW_1 := Lib.hid BW_0.out.drew
  replace HI1 := Lib.hid HI1.out.drew
  replace HI2 := Lib.hid HI2.out.drew
  replace HJ1 := Lib.hid HJ1.out.drew
  replace HJ2 := Lib.hid HJ2.out.drew
  have cvhy00 : Hid ((#[.bool g1, .slice A1 n1 c1, .slice B1 m1 d1] : Array Value)[0]? = some (.bool g1)) := rfl
  have cvhy01 : Hid ((#[.bool g1, .slice A1 n1 c1, .slice B1 m1 d1] : Array Value)[1]? = some (.slice A1 n1 c1)) := rfl
  have cvhy02 : Hid ((#[.bool g1, .slice A1 n1 c1, .slice B1 m1 d1] : Array Value)[2]? = some (.slice B1 m1 d1)) := rfl
  have cvhy10 : Hid ((#[.bool g2, .slice A2 n2 c2, .slice B2 m2 d2] : Array Value)[0]? = some (.bool g2)) := rfl
  have cvhy11 : Hid ((#[.bool g2, .slice A2 n2 c2, .slice B2 m2 d2] : Array Value)[1]? = some (.slice A2 n2 c2)) := rfl
  have cvhy12 : Hid ((#[.bool g2, .slice A2 n2 c2, .slice B2 m2 d2] : Array Value)[2]? = some (.slice B2 m2 d2)) := rfl
  go_region_held3 (fun w' => w'.cell? ⟨w.heap.size, 0, none⟩ = some (.bool g1) ∧ w'.cell? ⟨w.heap.size, 1, none⟩ = some (.slice A1 n1 c1) ∧ w'.cell? ⟨w.heap.size, 2, none⟩ = some (.slice B1 m1 d1) ∧ w'.cell? ⟨w.heap.size + 1, 0, none⟩ = some (.bool g2) ∧ w'.cell? ⟨w.heap.size + 1, 1, none⟩ = some (.slice A2 n2 c2) ∧ w'.cell? ⟨w.heap.size + 1, 2, none⟩ = some (.slice B2 m2 d2)) (first | with_reducible exact ⟨cellS hy0_4 cvhy00, cellS hy0_4 cvhy01, cellS hy0_4 cvhy02, cellS hy1_4 cvhy10, cellS hy1_4 cvhy11, cellS hy1_4 cvhy12⟩ | with_reducible exact ⟨cellS (hFar (hFar (hFar hy0_4 (by dsimp only; omega) _) (by dsimp only; omega) _) (by dsimp only; omega) _) cvhy00, cellS (hFar (hFar (hFar hy0_4 (by dsimp only; omega) _) (by dsimp only; omega) _) (by dsimp only; omega) _) cvhy01, cellS (hFar (hFar (hFar hy0_4 (by dsimp only; omega) _) (by dsimp only; omega) _) (by dsimp only; omega) _) cvhy02, cellS (hFar (hFar (hFar hy1_4 (by dsimp only; omega) _) (by dsimp only; omega) _) (by dsimp only; omega) _) cvhy10, cellS (hFar (hFar (hFar hy1_4 (by dsimp only; omega) _) (by dsimp only; omega) _) (by dsimp only; omega) _) cvhy11, cellS (hFar (hFar (hFar hy1_4 (by dsimp only; omega) _) (by dsimp only; omega) _) (by dsimp only; omega) _) cvhy12⟩ | with_reducible exact ⟨cellS hy0_3 cvhy00, cellS hy0_3 cvhy01, cellS hy0_3 cvhy02, cellS hy1_3 cvhy10, cellS hy1_3 cvhy11, cellS hy1_3 cvhy12⟩ | with_reducible exact ⟨cellS hy0_2 cvhy00, cellS hy0_2 cvhy01, cellS hy0_2 cvhy02, cellS hy1_2 cvhy10, cellS hy1_2 cvhy11, cellS hy1_2 cvhy12⟩ | with_reducible exact ⟨cellS hy0_1 cvhy00, cellS hy0_1 cvhy01, cellS hy0_1 cvhy02, cellS hy1_1 cvhy10, cellS hy1_1 cvhy11, cellS hy1_1 cvhy12⟩) (first | (go_at_call 159; refine (spec_low (!t) Aa na ca la Ab nb cb lb _ ⟨HNa.out.symm, (by omega), Reads.of_own HOa.out, limbs_bd HCa.out.1.1.1⟩ (room_own HOa.out) ⟨HNb.out.symm, (by omega), Reads.of_own HOb.out, limbs_bd HCb.out.1.1.1⟩ (room_own HOb.out) HCa.out.1 HCb.out.1).mono ?_; rintro e wz ⟨s, r, v, dd, u, rfl, hq, ⟨hl1, ho1⟩, ⟨hl2, ho2⟩, hap, hb⟩; have HQ := Lib.hid (low_mul_fin K1.out K2.out HT.out HCa.out HCb.out hq); have HAP := Lib.hid hap; have hszl := BW_3.out.size; have hy0_4 := Lib.hid (hy0_3.out.below hb hy0_3.out.lt); have hy1_4 := Lib.hid (hy1_3.out.below hb hy1_3.out.lt); have hs_4 := Lib.hid (hs_3.out.below hb hs_3.out.lt); have BW_4 := Lib.hid (BW_3.out.trans (hb.mono BW_3.out.size)); clear hb; clear hq hap; obtain ⟨A9, c9, rfl⟩ := own_slice ho1; obtain ⟨B9, d9, rfl⟩ := own_slice ho2; obtain ⟨N9, hN9⟩ : ∃ N, N = r.length := ⟨_, rfl⟩; obtain ⟨M9, hM9⟩ : ∃ N, N = dd.length := ⟨_, rfl⟩; rw [← hN9] at hl1 ho1 HAP ⊢; rw [← hM9] at hl2 ho2 HAP ⊢; have HN := Lib.hid hN9.symm; have HM := Lib.hid hM9.symm; have HO := Lib.hid ho1; have HU := Lib.hid ho2; clear ho1 ho2 hN9 hM9; have ehs0 := hs_4.out.cell 0; have ehs1 := hs_4.out.cell 1; have ehs2 := hs_4.out.cell 2; have fhs0 := hs_4.out.free 0; have fhs1 := hs_4.out.free 1; have fhs2 := hs_4.out.free 2; simp at ehs0 ehs1 ehs2) | (go_at_call 161; (with_reducible refine (spec_mul B1 m1 d1 es B2 m2 d2 fs _ HJ1.out.canon HJ2.out.canon K1.out.dr K2.out.dr).mono ?_); rintro e w3 ⟨lb, Ab, cb, rfl, hcan, hv, hlb, ho, hb⟩; have HCb := Lib.hid (prod_ok hcan hv K1.out.db K2.out.db); have hy0_3 := Lib.hid (hy0_2.out.below hb hy0_2.out.lt); have hy1_3 := Lib.hid (hy1_2.out.below hb hy1_2.out.lt); have hs_3 := Lib.hid (hs_2.out.below hb hs_2.out.lt); have BW_3 := Lib.hid (BW_2.out.trans (hb.mono BW_2.out.size)); replace HI1 := Lib.hid (HI1.out.below hb); replace HI2 := Lib.hid (HI2.out.below hb); replace HJ1 := Lib.hid (HJ1.out.below hb); replace HJ2 := Lib.hid (HJ2.out.below hb); replace HOa := Lib.hid (own_below HOa.out hb); clear hb; obtain ⟨nb, hN⟩ : ∃ N, N = lb.length := ⟨_, rfl⟩; rw [← hN] at hlb ho ⊢; have HNb := Lib.hid hN; have HOb := Lib.hid ho; have hsb : nb ≤ 60 := (by have := HCb.out.1.2; rwa [← hN] at this); clear hcan hv ho hN) | (go_at_call 161; (with_reducible refine (spec_mul A1 n1 c1 xs A2 n2 c2 ys _ HI1.out.canon HI2.out.canon K1.out.nr K2.out.nr).mono ?_); rintro e w2 ⟨la, Aa, ca, rfl, hcan, hv, hla, ho, hb⟩; have HCa := Lib.hid (prod_ok hcan hv K1.out.nb K2.out.nb); have hy0_2 := Lib.hid (hy0_1.out.below hb hy0_1.out.lt); have hy1_2 := Lib.hid (hy1_1.out.below hb hy1_1.out.lt); have hs_2 := Lib.hid (hs_1.out.below hb hs_1.out.lt); have BW_2 := Lib.hid (BW_1.out.trans (hb.mono BW_1.out.size)); replace HI1 := Lib.hid (HI1.out.below hb); replace HI2 := Lib.hid (HI2.out.below hb); replace HJ1 := Lib.hid (HJ1.out.below hb); replace HJ2 := Lib.hid (HJ2.out.below hb); clear hb; obtain ⟨na, hN⟩ : ∃ N, N = la.length := ⟨_, rfl⟩; rw [← hN] at hla ho ⊢; have HNa := Lib.hid hN; have HOa := Lib.hid ho; have hsa : na ≤ 60 := (by have := HCa.out.1.2; rwa [← hN] at this); clear hcan hv ho hN))
  go_wp2_with fail
  refine bodyPost_ret (v := .agg #[.bool s, .slice A9 N9 c9, .slice B9 M9 d9]) (by simp [results, Tryz.results215, ehs0, ehs1, ehs2, go_sem]) rfl ?_
  exact ratEnd_store hs_4.out (by omega) BW_4.out HQ.out HN.out HM.out (by omega) (by omega) HO.out (by omega) HU.out (by omega) HAP.out
theorem spec_l04Mul (g1 : Bool) (A1 : Option Addr) (n1 c1 : Nat) (xs : List Int) (B1 : Option Addr) (m1 d1 : Nat) (es : List Int) (g2 : Bool) (A2 : Option Addr) (n2 c2 : Nat) (ys : List Int) (B2 : Option Addr) (m2 d2 : Nat) (fs : List Int) (w : World)
    (h1 : InI w A1 n1 xs) (r1 : Room A1 n1 c1) (k1 : InI w B1 m1 es) (s1 : Room B1 m1 d1) (h2 : InI w A2 n2 ys) (r2 : Room A2 n2 c2) (k2 : InI w B2 m2 fs) (s2 : Room B2 m2 d2) (q1 : ROk g1 xs es) (q2 : ROk g2 ys fs) :
    Calls Tryz.prog 215 #[.agg #[.bool g1, .slice A1 n1 c1, .slice B1 m1 d1], .agg #[.bool g2, .slice A2 n2 c2, .slice B2 m2 d2]] w fun e w' => RatEnd (RatMulIs g1 xs es g2 ys fs) w w' e :=
  spec_l04MulG g1 A1 n1 c1 xs B1 m1 d1 es g2 A2 n2 c2 ys B2 m2 d2 fs w h1 r1 k1 s1 h2 r2 k2 s2 (.inl q1) (.inl q2)
set_option maxHeartbeats 3200000 in
theorem spec_ratMul0 (g1 : Bool) (A1 : Option Addr) (n1 c1 : Nat) (xs : List Int) (B1 : Option Addr) (m1 d1 : Nat) (es : List Int) (g2 : Bool) (A2 : Option Addr) (n2 c2 : Nat) (ys : List Int) (B2 : Option Addr) (m2 d2 : Nat) (fs : List Int) (w : World) (h1 : InI w A1 n1 xs) (r1 : Room A1 n1 c1) (k1 : InI w B1 m1 es) (s1 : Room B1 m1 d1) (h2 : InI w A2 n2 ys) (r2 : Room A2 n2 c2) (k2 : InI w B2 m2 fs) (s2 : Room B2 m2 d2) :
    Calls Tryz.prog 244 #[.agg #[.bool g1, .slice A1 n1 c1, .slice B1 m1 d1], .agg #[.bool g2, .slice A2 n2 c2, .slice B2 m2 d2]] w fun e w' => RatEnd (RatMulIs g1 xs es g2 ys fs) w w' e := by
  have hn1 := h1.2.1
  have hn2 := h2.2.1
  have hm1 := k1.2.1
  have hm2 := k2.2.1
  obtain ⟨W0, hW0⟩ : ∃ W, W = (((w.alloc (.cells #[.bool g1, .slice A1 n1 c1, .slice B1 m1 d1] 34)).alloc (.cells #[.bool g2, .slice A2 n2 c2, .slice B2 m2 d2] 34)).alloc (.cells #[.bool false, .slice none 0 0, .slice none 0 0] 34)) := ⟨_, rfl⟩
  have hy0_0 : Hid (Box W0 (w.heap.size) 34 #[.bool g1, .slice A1 n1 c1, .slice B1 m1 d1]) := by rw [hW0]; exact (((Box.at' (by simp)).alloc _).alloc _)
  have hy1_0 : Hid (Box W0 (w.heap.size + 1) 34 #[.bool g2, .slice A2 n2 c2, .slice B2 m2 d2]) := by rw [hW0]; exact ((Box.at' (by simp)).alloc _)
  have hs_0 : Hid (Box W0 (w.heap.size + 1 + 1) 34 #[.bool false, .slice none 0 0, .slice none 0 0]) := by rw [hW0]; exact (Box.at' (by simp))
  have BW_0 : Hid (Below w.heap.size w W0) := by rw [hW0]; exact ((((Below.refl w.heap.size w).alloc (by simp) _).alloc (by simp) _).alloc (by simp; omega) _)
  have hsz0 : w.heap.size + 1 + 1 + 1 ≤ W0.heap.size := by rw [hW0]; simp
  have HI1 := Lib.hid (h1.below BW_0.out)
  have HI2 := Lib.hid (h2.below BW_0.out)
  have HJ1 := Lib.hid (k1.below BW_0.out)
  have HJ2 := Lib.hid (k2.below BW_0.out)
  have R1 := Lib.hid r1
  have R2 := Lib.hid r2
  have S1 := Lib.hid s1
  have S2 := Lib.hid s2
  clear h1 h2 k1 k2 r1 r2 s1 s2
  go_enter Tryz.func244, Tryz.ntmps244
  go_wp2_with fail
  rw [← hW0]
  clear hW0
  refine (spec_ratOk' g1 A1 n1 c1 xs B1 m1 d1 es _ HI1.out HJ1.out).mono ?_
  rintro e wa ⟨⟨b, rfl, hi⟩, hb⟩
  have hy0_1 := Lib.hid (hy0_0.out.below hb hy0_0.out.lt)
  have hy1_1 := Lib.hid (hy1_0.out.below hb hy1_0.out.lt)
  have hs_1 := Lib.hid (hs_0.out.below hb hs_0.out.lt)
  have BW_1 := Lib.hid (BW_0.out.trans (hb.mono BW_0.out.size))
  replace HI1 := Lib.hid (HI1.out.below hb)
  replace HI2 := Lib.hid (HI2.out.below hb)
  replace HJ1 := Lib.hid (HJ1.out.below hb)
  replace HJ2 := Lib.hid (HJ2.out.below hb)
  clear hb
  have ehy00 := hy0_1.out.cell 0
  have ehy01 := hy0_1.out.cell 1
  have ehy02 := hy0_1.out.cell 2
  have ehy10 := hy1_1.out.cell 0
  have ehy11 := hy1_1.out.cell 1
  have ehy12 := hy1_1.out.cell 2
  have ehs0 := hs_1.out.cell 0
  have ehs1 := hs_1.out.cell 1
  have ehs2 := hs_1.out.cell 2
  have fhs0 := hs_1.out.free 0
  have fhs1 := hs_1.out.free 1
  have fhs2 := hs_1.out.free 2
  simp at ehy00 ehy01 ehy02 ehy10 ehy11 ehy12 ehs0 ehs1 ehs2
  cases b
  · have hno : ¬ (ROk g1 xs es ∧ ROk g2 ys fs) := fun h => by have := hi.2 h.1; cases this
    clear hi
    have HZ : Hid (RatMulIs g1 xs es g2 ys fs false [] []) := rIs_no hno
    go_wp2_with fail
    refine bodyPost_ret (v := .agg #[.bool false, .slice none 0 0, .slice none 0 0]) (by simp [results, Tryz.results244, ehs0, ehs1, ehs2, go_sem]) rfl ?_
    exact ratEnd_zero HZ.out (below_store3 BW_1.out (by omega) _ _ _)
  have K1 := Lib.hid (hi.1 rfl)
  clear hi
  go_wp2_with fail
  refine (spec_ratOk' g2 A2 n2 c2 ys B2 m2 d2 fs _ HI2.out HJ2.out).mono ?_
  rintro e wb ⟨⟨b, rfl, hi⟩, hb⟩
  have hy0_2 := Lib.hid (hy0_1.out.below hb hy0_1.out.lt)
  have hy1_2 := Lib.hid (hy1_1.out.below hb hy1_1.out.lt)
  have hs_2 := Lib.hid (hs_1.out.below hb hs_1.out.lt)
  have BW_2 := Lib.hid (BW_1.out.trans (hb.mono BW_1.out.size))
  replace HI1 := Lib.hid (HI1.out.below hb)
  replace HI2 := Lib.hid (HI2.out.below hb)
  replace HJ1 := Lib.hid (HJ1.out.below hb)
  replace HJ2 := Lib.hid (HJ2.out.below hb)
  clear hb
  clear ehy00 ehy01 ehy02 ehy10 ehy11 ehy12 ehs0 fhs0 ehs1 fhs1 ehs2 fhs2
  have ehy00 := hy0_2.out.cell 0
  have ehy01 := hy0_2.out.cell 1
  have ehy02 := hy0_2.out.cell 2
  have ehy10 := hy1_2.out.cell 0
  have ehy11 := hy1_2.out.cell 1
  have ehy12 := hy1_2.out.cell 2
  have ehs0 := hs_2.out.cell 0
  have ehs1 := hs_2.out.cell 1
  have ehs2 := hs_2.out.cell 2
  have fhs0 := hs_2.out.free 0
  have fhs1 := hs_2.out.free 1
  have fhs2 := hs_2.out.free 2
  simp at ehy00 ehy01 ehy02 ehy10 ehy11 ehy12 ehs0 ehs1 ehs2
  cases b
  · have hno : ¬ (ROk g1 xs es ∧ ROk g2 ys fs) := fun h => by have := hi.2 h.2; cases this
    clear hi
    have HZ : Hid (RatMulIs g1 xs es g2 ys fs false [] []) := rIs_no hno
    go_wp2_with fail
    refine bodyPost_ret (v := .agg #[.bool false, .slice none 0 0, .slice none 0 0]) (by simp [results, Tryz.results244, ehs0, ehs1, ehs2, go_sem]) rfl ?_
    exact ratEnd_zero HZ.out (below_store3 BW_2.out (by omega) _ _ _)
  have K2 := Lib.hid (hi.1 rfl)
  clear hi
  have hn1 : n1 ≤ 24 := by have := K1.out.2.2.2.2.1; rwa [HI1.out.1] at this
  have hn2 : n2 ≤ 24 := by have := K2.out.2.2.2.2.1; rwa [HI2.out.1] at this
  have hm1 : m1 ≤ 24 := by have := K1.out.2.2.2.2.2; rwa [HJ1.out.1] at this
  have hm2 : m2 ≤ 24 := by have := K2.out.2.2.2.2.2; rwa [HJ2.out.1] at this
  go_wp2_with fail
  clear ehy00 ehy01 ehy02 ehy10 ehy11 ehy12 ehs0 fhs0 ehs1 fhs1 ehs2 fhs2
  refine (spec_l04Mul g1 A1 n1 c1 xs B1 m1 d1 es g2 A2 n2 c2 ys B2 m2 d2 fs _ HI1.out R1.out HJ1.out S1.out HI2.out R2.out HJ2.out S2.out K1.out K2.out).mono ?_
  rintro e wz ⟨s, r, v, dd, u, rfl, hq, ⟨hl1, ho1⟩, ⟨hl2, ho2⟩, hap, hb⟩
  have HQ := Lib.hid (hq)
  have HAP := Lib.hid hap
  have hszl := BW_2.out.size
  have hs_3 := Lib.hid (hs_2.out.below hb hs_2.out.lt)
  have BW_3 := Lib.hid (BW_2.out.trans (hb.mono BW_2.out.size))
  clear hb
  clear hq hap
  obtain ⟨A9, c9, rfl⟩ := own_slice ho1
  obtain ⟨B9, d9, rfl⟩ := own_slice ho2
  obtain ⟨N9, hN9⟩ : ∃ N, N = r.length := ⟨_, rfl⟩
  obtain ⟨M9, hM9⟩ : ∃ N, N = dd.length := ⟨_, rfl⟩
  rw [← hN9] at hl1 ho1 HAP ⊢
  rw [← hM9] at hl2 ho2 HAP ⊢
  have HN := Lib.hid hN9.symm
  have HM := Lib.hid hM9.symm
  have HO := Lib.hid ho1
  have HU := Lib.hid ho2
  clear ho1 ho2 hN9 hM9
  have ehs0 := hs_3.out.cell 0
  have ehs1 := hs_3.out.cell 1
  have ehs2 := hs_3.out.cell 2
  have fhs0 := hs_3.out.free 0
  have fhs1 := hs_3.out.free 1
  have fhs2 := hs_3.out.free 2
  simp at ehs0 ehs1 ehs2
  go_wp2_with fail
  refine bodyPost_ret (v := .agg #[.bool s, .slice A9 N9 c9, .slice B9 M9 d9]) (by simp [results, Tryz.results244, ehs0, ehs1, ehs2, go_sem]) rfl ?_
  exact ratEnd_store hs_3.out (by omega) BW_3.out HQ.out HN.out HM.out (by omega) (by omega) HO.out (by omega) HU.out (by omega) HAP.out
end Go.Proofs.YtegclofijaoajaaGreat
