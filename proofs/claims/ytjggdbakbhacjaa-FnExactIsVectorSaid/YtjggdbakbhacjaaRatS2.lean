/- Contracts of fractions: made of a numerator and a denominator, by the model. -/
import Derived.Test.YtjggdbakbhacjaaRatS
namespace Go.Proofs.Ytjggdbakbhacjaa
set_option maxRecDepth 100000
open Go.RowKit

/-- What a function that hands back a fraction ends in. -/
def RatEnd (Q : Bool → List Int → List Int → Prop) (w w' : World) (e : Ending) : Prop :=
  ∃ g r v d u, e = .returned (.agg #[.bool g, v, u]) ∧ Q g r d ∧ ResI w w' v r ∧ ResI w w' u d ∧ Apart u v ∧ Below w.heap.size w w'
theorem ratEnd_zero {Q : Bool → List Int → List Int → Prop} {w w' : World} (h : Q false [] []) (hb : Below w.heap.size w w') : RatEnd Q w w' (.returned (.agg #[.bool false, .slice none 0 0, .slice none 0 0])) :=
  ⟨false, [], _, [], _, rfl, h, ⟨by simp, World.ownsRow_nil _ _ _ _⟩, ⟨by simp, World.ownsRow_nil _ _ _ _⟩, (fun k hk => by simp [Value.ownBlock] at hk), hb⟩
theorem ratEnd_store {Q : Bool → List Int → List Int → Prop} {w W : World} {gb : Nat} {cs : Array Value} {s : Bool} {r ds : List Int} {A B : Option Addr} {N c M d base1 base2 : Nat}
    (hbx : Box W gb 26 cs) (hg : w.heap.size ≤ gb) (hb : Below w.heap.size w W) (hQ : Q s r ds) (hr : r.length = N) (hd : ds.length = M) (hN : N ≤ 4194304) (hM : M ≤ 4194304)
    (o1 : W.ownsRow base1 3 1 (.slice A N c) N (r.map (.int .i64))) (b1 : w.heap.size ≤ base1) (o2 : W.ownsRow base2 3 1 (.slice B M d) M (ds.map (.int .i64))) (b2 : w.heap.size ≤ base2) (ap : Apart (.slice B M d) (.slice A N c)) :
    RatEnd Q w (((W.setCell ⟨gb, 0, none⟩ (.bool s)).setCell ⟨gb, 1, none⟩ (.slice A N c)).setCell ⟨gb, 2, none⟩ (.slice B M d)) (.returned (.agg #[.bool s, .slice A N c, .slice B M d])) := by
  subst hr hd
  exact ⟨s, r, _, ds, _, rfl, hQ, ⟨hN, own_base (own_store3 o1 hbx (by decide) _ _ _) b1⟩, ⟨hM, own_base (own_store3 o2 hbx (by decide) _ _ _) b2⟩, ap, below_store3 hb hg _ _ _⟩
theorem RatEnd.imp {Q Q' : Bool → List Int → List Int → Prop} {w w' : World} {e : Ending} (h : RatEnd Q w w' e) (hq : ∀ g r d, Q g r d → Q' g r d) : RatEnd Q' w w' e := by
  obtain ⟨g, r, v, d, u, he, hQ, h⟩ := h
  exact ⟨g, r, v, d, u, he, hq _ _ _ hQ, h⟩
/-! A literal of no elements, appended to: what it leaves alone. -/
theorem lit_kept {w : World} {base : Nat} {E : TypeId} {size n : Nat} {v : Value} {xs : List Value} {k : Nat} (o : w.ownsRow base E size v n xs) : v.ownBlock = none ∨ v.ownBlock ≠ (Value.slice (some ⟨w.heap.size, 0, none⟩) 0 k).ownBlock := by
  cases hv : v.ownBlock with
  | none => exact .inl rfl
  | some j =>
    refine .inr fun e => ?_
    have := (o.lt j hv).2
    simp [Value.ownBlock] at e
    omega
theorem lit_ne {w : World} {g k : Nat} (h : g < w.heap.size) : some g ≠ (Value.slice (some ⟨w.heap.size, 0, none⟩) 0 k).ownBlock := by
  intro e
  simp [Value.ownBlock] at e
  omega
theorem lit_low {w : World} {b k : Nat} (h : b ≤ w.heap.size) : ∀ j, (Value.slice (some ⟨w.heap.size, 0, none⟩) 0 k).ownBlock = some j → b ≤ j := by
  intro j e
  simp [Value.ownBlock] at e
  omega

theorem trimmed_canon {xs : List Int} {m : Nat} (h : Canon xs) (t : Trimmed xs m) : m = xs.length := by
  obtain ⟨hc, hv⟩ := t.canon h.1
  have e := canon_unique hc h hv
  have : (xs.take m).length = m := by have := t.1; simp; omega
  rw [← this, e]
theorem made_same {q r : List Int} (h : Ok q) (hm : ∃ l, Canon l ∧ val l = val q ∧ r = cap l) : q = r := by
  obtain ⟨l, hc, hv, hr⟩ := hm
  obtain rfl := canon_unique hc h.1 hv
  rw [hr, (hc.ok h.2).2]
theorem lowN_mk {neg : Bool} {xs ys q p : List Int} {G : Int} (hy : 0 < val ys) (hG : G = (Int.gcd (val xs) (val ys) : Int)) (hq : Ok q) (hp : Ok p) (ex : val xs = val q * G) (ey : val ys = val p * G) : RLow (bval neg xs) (val ys) (sgn neg q) q p := by
  have h0 : 0 < G := by rw [hG]; exact gcd_pos_of hy
  have hp0 := val_nonneg hp.1.1
  have hpp : 0 < val p := by
    rcases Int.lt_or_le 0 (val p) with h | h
    · exact h
    · have : val p = 0 := by omega
      rw [this] at ey; omega
  refine ⟨by omega, sgn_bok _ hq, hp, hpp, gcd_reduced hG h0 ex ey, ?_⟩
  rw [sgn_bval _ hq.1]
  have e : val q * val ys = val xs * val p := by rw [ex, ey, Int.mul_assoc, Int.mul_comm G]
  cases neg <;> simp [bval, Int.neg_mul, e]
theorem lowN_one {neg : Bool} {xs ys : List Int} (hx : Ok xs) (hk : Ok ys) (hy : 0 < val ys) (h : Int.gcd (val xs) (val ys) = 1) : RLow (bval neg xs) (val ys) (sgn neg xs) xs ys :=
  lowN_mk hy (G := 1) (by rw [h]; rfl) hx hk (by omega) (by omega)
theorem lowN_div {neg : Bool} {xs ys G q r p s : List Int} (hy : 0 < val ys) (hG : GcdIs (val xs) (val ys) G) (hq : DivIs (val xs) (val G) q r) (hp : DivIs (val ys) (val G) p s) (lq : q.length ≤ 60) (lp : p.length ≤ 60) :
    RLow (bval neg xs) (val ys) (sgn neg q) q p :=
  lowN_mk hy hG.2 ⟨hq.1, lq⟩ ⟨hp.1, lp⟩ (div_exact hq (by rw [hG.2]; exact Int.gcd_dvd_left _ _)) (div_exact hp (by rw [hG.2]; exact Int.gcd_dvd_right _ _))
theorem gcd_len {a : Int} {ys G : List Int} (hy : 0 < val ys) (h : GcdIs a (val ys) G) (k : Ok ys) : G.length ≤ 60 := by
  refine short_of h.1 ?_
  rw [h.2]
  have h1 : (Int.gcd a (val ys) : Int) ≤ val ys := Int.le_of_dvd hy (Int.gcd_dvd_right _ _)
  have h2 := val_lt k.1.1
  have h3 := pw_mono k.2
  omega
theorem gcd_of_one {a : Int} {ys : List Int} (h : ys = [1]) : Int.gcd a (val ys) = 1 := by subst h; simp [val]
set_option maxHeartbeats 3200000 in
theorem spec_low (neg : Bool) (A : Option Addr) (n c : Nat) (xs : List Int) (B : Option Addr) (m d : Nat) (ds : List Int) (w : World) (h : InI w A n xs) (hA : Room A n c) (k : InI w B m ds) (hB : Room B m d) (h1 : Ok xs) (h2 : Ok ds) :
    Calls Try.prog 110 #[.bool neg, .slice A n c, .slice B m d] w fun e w' => RatEnd (RIs True (bval neg xs) (val ds)) w w' e := by
  obtain ⟨i0, hi, hz0, hz1, hz2⟩ := info_parts Try.infoI
  obtain ⟨W0, hW0⟩ : ∃ W, W = (w.alloc (.cells #[.bool false, .slice none 0 0, .slice none 0 0] 26)) := ⟨_, rfl⟩
  have hs_0 : Hid (Box W0 (w.heap.size) 26 #[.bool false, .slice none 0 0, .slice none 0 0]) := by rw [hW0]; exact (Box.at' (by simp))
  have BW_0 : Hid (Below w.heap.size w W0) := by rw [hW0]; exact ((Below.refl w.heap.size w).alloc (by simp) _)
  have hsz0 : w.heap.size + 1 ≤ W0.heap.size := by rw [hW0]; simp
  have hn60 : n ≤ 60 := by have := h1.2; rwa [h.1] at this
  have hm60 : m ≤ 60 := by have := h2.2; rwa [k.1] at this
  have HI := Lib.hid (h.below BW_0.out)
  have HK := Lib.hid (k.below BW_0.out)
  have RX := Lib.hid hA
  have RB := Lib.hid hB
  have K1 := Lib.hid h1
  have K2 := Lib.hid h2
  clear h k hA hB h1 h2
  go_enter Try.func110, Try.ntmps110
  go_wp2_with fail
  rw [← hW0]
  clear hW0
  refine (spec_trimR A n c xs _ HI.out.1 (by omega) RX.out HI.out.2.2.1).mono ?_
  rintro e w1 ⟨⟨n', rfl, ht⟩, rfl⟩
  obtain rfl : n = n' := by rw [trimmed_canon K1.out.1 ht, HI.out.1]
  clear ht
  go_wp2_with fail
  refine (spec_trimR B m d ds _ HK.out.1 (by omega) RB.out HK.out.2.2.1).mono ?_
  rintro e w1 ⟨⟨m', rfl, ht⟩, rfl⟩
  obtain rfl : m = m' := by rw [trimmed_canon K2.out.1 ht, HK.out.1]
  clear ht
  by_cases hz : m = 0
  · have HZ0 : Hid (val ds = 0) := by unfold Hid; rw [List.eq_nil_of_length_eq_zero (HK.out.1.trans hz)]; rfl
    have ht : ((m : Int) == 0) = true := by simp [hz]
    clear hz
    have ehs0 := hs_0.out.cell 0
    have ehs1 := hs_0.out.cell 1
    have ehs2 := hs_0.out.cell 2
    have fhs0 := hs_0.out.free 0
    have fhs1 := hs_0.out.free 1
    have fhs2 := hs_0.out.free 2
    simp at ehs0 ehs1 ehs2
    have HZ : Hid (RIs True (bval neg xs) (val ds) false [] []) := rIs_zero HZ0.out
    go_wp2_with fail
    refine bodyPost_ret (v := .agg #[.bool false, .slice none 0 0, .slice none 0 0]) (by simp [results, Try.results110, ehs0, ehs1, ehs2, go_sem]) rfl ?_
    exact ratEnd_zero HZ.out (below_store3 BW_0.out (by omega) _ _ _)
  have ht : ((m : Int) == 0) = false := by simp [hz]
  have HP := Lib.hid (canon_pos K2.out.1 (by rw [HK.out.1]; omega))
  clear hz
  obtain ⟨b1, hb1⟩ : ∃ q, decide (ds = [1]) = q := ⟨_, rfl⟩
  have HB1 := Lib.hid hb1
  clear hb1
  go_wp2_with fail
  refine (spec_one B m d ds b1 _ HB1.out HK.out.1 (by omega) HK.out.2.2.1).mono ?_
  rintro e w1 ⟨rfl, rfl⟩
  cases b1
  case true =>
    have HL : Hid (RLow (bval neg xs) (val ds) (sgn neg xs) xs ds) := lowN_one K1.out K2.out HP.out (gcd_of_one (of_decide_eq_true HB1.out))
    by_cases hsh : Short xs ds
    · have HS := Lib.hid hsh
      have hn24 : ((n : Nat) : Int) ≤ 24 := by have := hsh.1; rw [HI.out.1] at this; omega
      have hm24 : ((m : Nat) : Int) ≤ 24 := by have := hsh.2; rw [HK.out.1] at this; omega
      have HQ0 := Lib.hid (rIs_yes trivial HL.out hsh)
      have hcon := spec_make neg A n c xs _ HI.out.1 (by omega) RX.out HI.out.2.2.1 HL.out.2.1.1.1.1
      have Hcon := Lib.hid hcon
      clear hsh hcon
      go_wp2_with fail
      refine Hcon.out.mono ?_
      rintro e wm ⟨r, v, rfl, hm, ⟨hl, ho⟩, hb⟩
      have er : xs = r := made_same HL.out.2.1.1 hm
      subst er
      have hs_1 := Lib.hid (hs_0.out.below hb hs_0.out.lt)
      have BW_1 := Lib.hid (BW_0.out.trans (hb.mono BW_0.out.size))
      have HY2 := Lib.hid (HK.out.below hb)
      obtain ⟨A9, c9, rfl⟩ := own_slice ho
      obtain ⟨N9, hN⟩ : ∃ N, N = xs.length := ⟨_, rfl⟩
      rw [← hN] at hl ho ⊢
      have HO5 := Lib.hid ho
      have HN := Lib.hid hN.symm
      clear hm ho hb hN Hcon
      obtain ⟨s, hs0⟩ : ∃ s, s = sgn neg xs := ⟨_, rfl⟩
      rw [← hs0] at HQ0 ⊢
      have HQ := HQ0
      clear hs0 HQ0
      have HR2 : Hid (Reads (wm.alloc (.cells #[] 3)) B (ds.map (.int .i64))) := HY2.out.2.2.1.below ((Below.refl _ _).alloc (Nat.le_refl _) _)
      have HL2 : Hid ((ds.map (Value.int .i64)).length = m) := by unfold Hid; rw [List.length_map, HY2.out.1]
      have hbs : wm.heap.size ≤ (wm.alloc (.cells #[] 3)).heap.size := by simp
      go_wp2_with (at_builtin; refine wpList_append_reads rfl _ _ 22 rfl wm.heap.size 3 i0 (.int .i64 0) 8 Try.underlying22 hi hz0 hz1 hz2 rfl _ _ _ rfl (World.ownsRow_lit wm #[] 0 (Nat.le_refl _) (by simp) (by simp)) B m d (ds.map (.int .i64)) rfl HL2.out HR2.out (by simp [Value.oneCell']) (by unfold maxLen; omega) (by omega) hbs ?_)
      intro u w6 hown hg
      have hs_2 := Lib.hid ((hs_1.out.alloc (.cells #[] 3)).grown hg (lit_ne hs_1.out.lt))
      have HO := Lib.hid ((HO5.out.alloc (.cells #[] 3)).kept hg (lit_kept HO5.out))
      have BW_2 := Lib.hid ((BW_1.out.alloc BW_1.out.size (.cells #[] 3)).grown hg (by have := BW_1.out.size; simp; omega) (lit_low BW_1.out.size))
      have HAP := Lib.hid (apart_older' HO5.out hown)
      have hgs : wm.heap.size ≤ w6.heap.size := Nat.le_trans (by simp) hg.size
      obtain ⟨B9, d9, rfl⟩ := own_slice hown
      have HU := Lib.hid hown
      have HM := HY2.out.1
      replace HM := Lib.hid HM
      have hbz := BW_1.out.size
      have hiz := BW_0.out.size
      clear hown hg
      have ehs0 := hs_2.out.cell 0
      have ehs1 := hs_2.out.cell 1
      have ehs2 := hs_2.out.cell 2
      have fhs0 := hs_2.out.free 0
      have fhs1 := hs_2.out.free 1
      have fhs2 := hs_2.out.free 2
      simp at ehs0 ehs1 ehs2
      go_wp2_with fail
      refine bodyPost_ret (v := .agg #[.bool s, .slice A9 N9 c9, .slice B9 m d9]) (by simp [results, Try.results110, ehs0, ehs1, ehs2, go_sem]) rfl ?_
      exact ratEnd_store hs_2.out (by omega) BW_2.out HQ.out HN.out HM.out (by omega) (by omega) HO.out (by omega) HU.out (by omega) HAP.out
    · have HS := Lib.hid hsh
      have hnm : 24 < ((n : Nat) : Int) ∨ (¬ 24 < ((n : Nat) : Int) ∧ 24 < ((m : Nat) : Int)) := by
        by_cases h : n ≤ 24
        · right; refine ⟨by omega, ?_⟩
          by_cases h2 : m ≤ 24
          · exact absurd ⟨by rw [HI.out.1]; exact h, by rw [HK.out.1]; exact h2⟩ hsh
          · omega
        · left; omega
      have HZ0 := Lib.hid (rIs_long (P := True) HL.out hsh)
      clear hsh
      have ehs0 := hs_0.out.cell 0
      have ehs1 := hs_0.out.cell 1
      have ehs2 := hs_0.out.cell 2
      have fhs0 := hs_0.out.free 0
      have fhs1 := hs_0.out.free 1
      have fhs2 := hs_0.out.free 2
      simp at ehs0 ehs1 ehs2
      rcases hnm with hnm | ⟨hnm0, hnm⟩
      · skip
        have HZ : Hid (RIs True (bval neg xs) (val ds) false [] []) := HZ0.out
        go_wp2_with fail
        refine bodyPost_ret (v := .agg #[.bool false, .slice none 0 0, .slice none 0 0]) (by simp [results, Try.results110, ehs0, ehs1, ehs2, go_sem]) rfl ?_
        exact ratEnd_zero HZ.out (below_store3 BW_0.out (by omega) _ _ _)
      · skip
        have HZ : Hid (RIs True (bval neg xs) (val ds) false [] []) := HZ0.out
        go_wp2_with fail
        refine bodyPost_ret (v := .agg #[.bool false, .slice none 0 0, .slice none 0 0]) (by simp [results, Try.results110, ehs0, ehs1, ehs2, go_sem]) rfl ?_
        exact ratEnd_zero HZ.out (below_store3 BW_0.out (by omega) _ _ _)
  go_wp2_with fail
  refine (spec_gcd A n c xs B m d ds _ ⟨HI.out.1, by omega, HI.out.2.2.1⟩ ⟨HK.out.1, by omega, HK.out.2.2.1⟩ K1.out.1 K2.out.1).mono ?_
  rintro e w1 ⟨gs, v, rfl, hg, ⟨hl, ho⟩, hb⟩
  have hs_1 := Lib.hid (hs_0.out.below hb hs_0.out.lt)
  have BW_1 := Lib.hid (BW_0.out.trans (hb.mono BW_0.out.size))
  replace HI := Lib.hid (HI.out.below hb)
  replace HK := Lib.hid (HK.out.below hb)
  obtain ⟨Ag, cg, rfl⟩ := own_slice ho
  obtain ⟨ng, hng⟩ : ∃ N, N = gs.length := ⟨_, rfl⟩
  rw [← hng] at hl ho ⊢
  have HNG := Lib.hid hng
  have HG := Lib.hid hg
  have HOG := Lib.hid ho
  clear hg ho hb hng
  obtain ⟨b1, hb1⟩ : ∃ q, decide (gs = [1]) = q := ⟨_, rfl⟩
  have HBG := Lib.hid hb1
  clear hb1
  go_wp2_with fail
  refine (spec_one Ag ng cg gs b1 _ HBG.out HNG.out.symm hl (Reads.of_own HOG.out)).mono ?_
  rintro e w1 ⟨rfl, rfl⟩
  cases b1
  case true =>
    have HL : Hid (RLow (bval neg xs) (val ds) (sgn neg xs) xs ds) := lowN_one K1.out K2.out HP.out ((gcd_one HG.out).1 (of_decide_eq_true HBG.out))
    by_cases hsh : Short xs ds
    · have HS := Lib.hid hsh
      have hn24 : ((n : Nat) : Int) ≤ 24 := by have := hsh.1; rw [HI.out.1] at this; omega
      have hm24 : ((m : Nat) : Int) ≤ 24 := by have := hsh.2; rw [HK.out.1] at this; omega
      have HQ0 := Lib.hid (rIs_yes trivial HL.out hsh)
      have hcon := spec_make neg A n c xs _ HI.out.1 (by omega) RX.out HI.out.2.2.1 HL.out.2.1.1.1.1
      have Hcon := Lib.hid hcon
      clear hsh hcon
      go_wp2_with fail
      refine Hcon.out.mono ?_
      rintro e wm ⟨r, v, rfl, hm, ⟨hl, ho⟩, hb⟩
      have er : xs = r := made_same HL.out.2.1.1 hm
      subst er
      have hs_2 := Lib.hid (hs_1.out.below hb hs_1.out.lt)
      have BW_2 := Lib.hid (BW_1.out.trans (hb.mono BW_1.out.size))
      have HY2 := Lib.hid (HK.out.below hb)
      obtain ⟨A9, c9, rfl⟩ := own_slice ho
      obtain ⟨N9, hN⟩ : ∃ N, N = xs.length := ⟨_, rfl⟩
      rw [← hN] at hl ho ⊢
      have HO5 := Lib.hid ho
      have HN := Lib.hid hN.symm
      clear hm ho hb hN Hcon
      obtain ⟨s, hs0⟩ : ∃ s, s = sgn neg xs := ⟨_, rfl⟩
      rw [← hs0] at HQ0 ⊢
      have HQ := HQ0
      clear hs0 HQ0
      have HR2 : Hid (Reads (wm.alloc (.cells #[] 3)) B (ds.map (.int .i64))) := HY2.out.2.2.1.below ((Below.refl _ _).alloc (Nat.le_refl _) _)
      have HL2 : Hid ((ds.map (Value.int .i64)).length = m) := by unfold Hid; rw [List.length_map, HY2.out.1]
      have hbs : wm.heap.size ≤ (wm.alloc (.cells #[] 3)).heap.size := by simp
      go_wp2_with (at_builtin; refine wpList_append_reads rfl _ _ 22 rfl wm.heap.size 3 i0 (.int .i64 0) 8 Try.underlying22 hi hz0 hz1 hz2 rfl _ _ _ rfl (World.ownsRow_lit wm #[] 0 (Nat.le_refl _) (by simp) (by simp)) B m d (ds.map (.int .i64)) rfl HL2.out HR2.out (by simp [Value.oneCell']) (by unfold maxLen; omega) (by omega) hbs ?_)
      intro u w6 hown hg
      have hs_3 := Lib.hid ((hs_2.out.alloc (.cells #[] 3)).grown hg (lit_ne hs_2.out.lt))
      have HO := Lib.hid ((HO5.out.alloc (.cells #[] 3)).kept hg (lit_kept HO5.out))
      have BW_3 := Lib.hid ((BW_2.out.alloc BW_2.out.size (.cells #[] 3)).grown hg (by have := BW_2.out.size; simp; omega) (lit_low BW_2.out.size))
      have HAP := Lib.hid (apart_older' HO5.out hown)
      have hgs : wm.heap.size ≤ w6.heap.size := Nat.le_trans (by simp) hg.size
      obtain ⟨B9, d9, rfl⟩ := own_slice hown
      have HU := Lib.hid hown
      have HM := HY2.out.1
      replace HM := Lib.hid HM
      have hbz := BW_2.out.size
      have hiz := BW_1.out.size
      clear hown hg
      have ehs0 := hs_3.out.cell 0
      have ehs1 := hs_3.out.cell 1
      have ehs2 := hs_3.out.cell 2
      have fhs0 := hs_3.out.free 0
      have fhs1 := hs_3.out.free 1
      have fhs2 := hs_3.out.free 2
      simp at ehs0 ehs1 ehs2
      go_wp2_with fail
      refine bodyPost_ret (v := .agg #[.bool s, .slice A9 N9 c9, .slice B9 m d9]) (by simp [results, Try.results110, ehs0, ehs1, ehs2, go_sem]) rfl ?_
      exact ratEnd_store hs_3.out (by omega) BW_3.out HQ.out HN.out HM.out (by omega) (by omega) HO.out (by omega) HU.out (by omega) HAP.out
    · have HS := Lib.hid hsh
      have hnm : 24 < ((n : Nat) : Int) ∨ (¬ 24 < ((n : Nat) : Int) ∧ 24 < ((m : Nat) : Int)) := by
        by_cases h : n ≤ 24
        · right; refine ⟨by omega, ?_⟩
          by_cases h2 : m ≤ 24
          · exact absurd ⟨by rw [HI.out.1]; exact h, by rw [HK.out.1]; exact h2⟩ hsh
          · omega
        · left; omega
      have HZ0 := Lib.hid (rIs_long (P := True) HL.out hsh)
      clear hsh
      have ehs0 := hs_1.out.cell 0
      have ehs1 := hs_1.out.cell 1
      have ehs2 := hs_1.out.cell 2
      have fhs0 := hs_1.out.free 0
      have fhs1 := hs_1.out.free 1
      have fhs2 := hs_1.out.free 2
      simp at ehs0 ehs1 ehs2
      rcases hnm with hnm | ⟨hnm0, hnm⟩
      · skip
        have HZ : Hid (RIs True (bval neg xs) (val ds) false [] []) := HZ0.out
        go_wp2_with fail
        refine bodyPost_ret (v := .agg #[.bool false, .slice none 0 0, .slice none 0 0]) (by simp [results, Try.results110, ehs0, ehs1, ehs2, go_sem]) rfl ?_
        exact ratEnd_zero HZ.out (below_store3 BW_1.out (by omega) _ _ _)
      · skip
        have HZ : Hid (RIs True (bval neg xs) (val ds) false [] []) := HZ0.out
        go_wp2_with fail
        refine bodyPost_ret (v := .agg #[.bool false, .slice none 0 0, .slice none 0 0]) (by simp [results, Try.results110, ehs0, ehs1, ehs2, go_sem]) rfl ?_
        exact ratEnd_zero HZ.out (below_store3 BW_1.out (by omega) _ _ _)
  have HGP := Lib.hid (gcd_pos_list HP.out HG.out)
  have hg60 : ng ≤ 60 := by rw [HNG.out]; exact gcd_len HP.out HG.out K2.out
  go_wp2_with fail
  refine (spec_div A n c xs Ag ng cg gs _ ⟨HI.out.1, by omega, HI.out.2.2.1⟩ ⟨HNG.out.symm, by omega, Reads.of_own HOG.out⟩ K1.out.1 HG.out.1 HGP.out).mono ?_
  rintro e w2 ⟨q, vq, r1, u1, rfl, hd, hlq, hlr, hoq, hor, hap, hb⟩
  have hs_2 := Lib.hid (hs_1.out.below hb hs_1.out.lt)
  have BW_2 := Lib.hid (BW_1.out.trans (hb.mono BW_1.out.size))
  replace HK := Lib.hid (HK.out.below hb)
  replace HOG := Lib.hid (own_below HOG.out hb)
  obtain ⟨Aq, cq, rfl⟩ := own_slice hoq
  obtain ⟨nq, hnq⟩ : ∃ N, N = q.length := ⟨_, rfl⟩
  rw [← hnq] at hlq hoq ⊢
  have HNQ := Lib.hid hnq
  have HD := Lib.hid hd
  have HOQ := Lib.hid hoq
  clear hd hoq hor hap hb hnq hlr
  go_wp2_with fail
  refine (spec_div B m d ds Ag ng cg gs _ ⟨HK.out.1, by omega, HK.out.2.2.1⟩ ⟨HNG.out.symm, by omega, Reads.of_own HOG.out⟩ K2.out.1 HG.out.1 HGP.out).mono ?_
  rintro e w3 ⟨p, vp, r2, u2, rfl, hd, hlp, hlr, hop, hor, hap, hb⟩
  have hs_3 := Lib.hid (hs_2.out.below hb hs_2.out.lt)
  have BW_3 := Lib.hid (BW_2.out.trans (hb.mono BW_2.out.size))
  replace HOQ := Lib.hid (own_below HOQ.out hb)
  obtain ⟨Ap, cp, rfl⟩ := own_slice hop
  obtain ⟨np, hnp⟩ : ∃ N, N = p.length := ⟨_, rfl⟩
  rw [← hnp] at hlp hop ⊢
  have HNP := Lib.hid hnp
  have HL : Hid (RLow (bval neg xs) (val ds) (sgn neg q) q p) := lowN_div HP.out HG.out HD.out hd (by rw [← HNQ.out]; omega) (by rw [← hnp]; omega)
  have HX : Hid (InI w3 Aq nq q) := ⟨HNQ.out.symm, by omega, Reads.of_own HOQ.out, limbs_bd HD.out.1.1⟩
  have HY : Hid (InI w3 Ap np p) := ⟨hnp.symm, by omega, Reads.of_own hop, limbs_bd hd.1.1⟩
  replace RX := Lib.hid (room_own HOQ.out)
  clear hd hop hor hap hb hnp hlr
  by_cases hsh : Short q p
  · have HS := Lib.hid hsh
    have hn24 : ((nq : Nat) : Int) ≤ 24 := by have := hsh.1; rw [HX.out.1] at this; omega
    have hm24 : ((np : Nat) : Int) ≤ 24 := by have := hsh.2; rw [HY.out.1] at this; omega
    have HQ0 := Lib.hid (rIs_yes trivial HL.out hsh)
    have hcon := spec_make neg Aq nq cq q _ HX.out.1 (by omega) RX.out HX.out.2.2.1 HL.out.2.1.1.1.1
    have Hcon := Lib.hid hcon
    clear hsh hcon
    go_wp2_with fail
    refine Hcon.out.mono ?_
    rintro e wm ⟨r, v, rfl, hm, ⟨hl, ho⟩, hb⟩
    have er : q = r := made_same HL.out.2.1.1 hm
    subst er
    have hs_4 := Lib.hid (hs_3.out.below hb hs_3.out.lt)
    have BW_4 := Lib.hid (BW_3.out.trans (hb.mono BW_3.out.size))
    have HY2 := Lib.hid (HY.out.below hb)
    obtain ⟨A9, c9, rfl⟩ := own_slice ho
    obtain ⟨N9, hN⟩ : ∃ N, N = q.length := ⟨_, rfl⟩
    rw [← hN] at hl ho ⊢
    have HO5 := Lib.hid ho
    have HN := Lib.hid hN.symm
    clear hm ho hb hN Hcon
    obtain ⟨s, hs0⟩ : ∃ s, s = sgn neg q := ⟨_, rfl⟩
    rw [← hs0] at HQ0 ⊢
    have HQ := HQ0
    clear hs0 HQ0
    have HR2 : Hid (Reads (wm.alloc (.cells #[] 3)) Ap (p.map (.int .i64))) := HY2.out.2.2.1.below ((Below.refl _ _).alloc (Nat.le_refl _) _)
    have HL2 : Hid ((p.map (Value.int .i64)).length = np) := by unfold Hid; rw [List.length_map, HY2.out.1]
    have hbs : wm.heap.size ≤ (wm.alloc (.cells #[] 3)).heap.size := by simp
    go_wp2_with (at_builtin; refine wpList_append_reads rfl _ _ 22 rfl wm.heap.size 3 i0 (.int .i64 0) 8 Try.underlying22 hi hz0 hz1 hz2 rfl _ _ _ rfl (World.ownsRow_lit wm #[] 0 (Nat.le_refl _) (by simp) (by simp)) Ap np cp (p.map (.int .i64)) rfl HL2.out HR2.out (by simp [Value.oneCell']) (by unfold maxLen; omega) (by omega) hbs ?_)
    intro u w6 hown hg
    have hs_5 := Lib.hid ((hs_4.out.alloc (.cells #[] 3)).grown hg (lit_ne hs_4.out.lt))
    have HO := Lib.hid ((HO5.out.alloc (.cells #[] 3)).kept hg (lit_kept HO5.out))
    have BW_5 := Lib.hid ((BW_4.out.alloc BW_4.out.size (.cells #[] 3)).grown hg (by have := BW_4.out.size; simp; omega) (lit_low BW_4.out.size))
    have HAP := Lib.hid (apart_older' HO5.out hown)
    have hgs : wm.heap.size ≤ w6.heap.size := Nat.le_trans (by simp) hg.size
    obtain ⟨B9, d9, rfl⟩ := own_slice hown
    have HU := Lib.hid hown
    have HM := HY2.out.1
    replace HM := Lib.hid HM
    have hbz := BW_4.out.size
    have hiz := BW_3.out.size
    clear hown hg
    have ehs0 := hs_5.out.cell 0
    have ehs1 := hs_5.out.cell 1
    have ehs2 := hs_5.out.cell 2
    have fhs0 := hs_5.out.free 0
    have fhs1 := hs_5.out.free 1
    have fhs2 := hs_5.out.free 2
    simp at ehs0 ehs1 ehs2
    go_wp2_with fail
    refine bodyPost_ret (v := .agg #[.bool s, .slice A9 N9 c9, .slice B9 np d9]) (by simp [results, Try.results110, ehs0, ehs1, ehs2, go_sem]) rfl ?_
    exact ratEnd_store hs_5.out (by omega) BW_5.out HQ.out HN.out HM.out (by omega) (by omega) HO.out (by omega) HU.out (by omega) HAP.out
  · have HS := Lib.hid hsh
    have hnm : 24 < ((nq : Nat) : Int) ∨ (¬ 24 < ((nq : Nat) : Int) ∧ 24 < ((np : Nat) : Int)) := by
      by_cases h : nq ≤ 24
      · right; refine ⟨by omega, ?_⟩
        by_cases h2 : np ≤ 24
        · exact absurd ⟨by rw [HX.out.1]; exact h, by rw [HY.out.1]; exact h2⟩ hsh
        · omega
      · left; omega
    have HZ0 := Lib.hid (rIs_long (P := True) HL.out hsh)
    clear hsh
    have ehs0 := hs_3.out.cell 0
    have ehs1 := hs_3.out.cell 1
    have ehs2 := hs_3.out.cell 2
    have fhs0 := hs_3.out.free 0
    have fhs1 := hs_3.out.free 1
    have fhs2 := hs_3.out.free 2
    simp at ehs0 ehs1 ehs2
    rcases hnm with hnm | ⟨hnm0, hnm⟩
    · skip
      have HZ : Hid (RIs True (bval neg xs) (val ds) false [] []) := HZ0.out
      go_wp2_with fail
      refine bodyPost_ret (v := .agg #[.bool false, .slice none 0 0, .slice none 0 0]) (by simp [results, Try.results110, ehs0, ehs1, ehs2, go_sem]) rfl ?_
      exact ratEnd_zero HZ.out (below_store3 BW_3.out (by omega) _ _ _)
    · skip
      have HZ : Hid (RIs True (bval neg xs) (val ds) false [] []) := HZ0.out
      go_wp2_with fail
      refine bodyPost_ret (v := .agg #[.bool false, .slice none 0 0, .slice none 0 0]) (by simp [results, Try.results110, ehs0, ehs1, ehs2, go_sem]) rfl ?_
      exact ratEnd_zero HZ.out (below_store3 BW_3.out (by omega) _ _ _)
end Go.Proofs.Ytjggdbakbhacjaa
