/- Contracts of the model's big integers. -/
import Derived.Test.YtjggdbakbhacjaaBig
import Derived.Test.YtjggdbakbhacjaaBigMem
import Derived.Test.YtjggdbakbhacjaaApp
import Derived.Test.YtjggdbakbhacjaaNat4
import Derived.Test.YtjggdbakbhacjaaNat6
namespace Go.Proofs.Ytjggdbakbhacjaa
set_option maxRecDepth 100000
open Go.RowKit

/-- There is room for what a slice holds. -/
def Room (A : Option Addr) (n c : Nat) : Prop := n ≤ c ∧ (A = none → c = 0)
theorem room_own {w : World} {base : Nat} {E : TypeId} {size n c : Nat} {A : Option Addr} {xs : List Value} (h : w.ownsRow base E size (.slice A n c) n xs) : Room A n c := by
  refine ⟨(own_cap h).1, ?_⟩
  rintro rfl
  rcases h.2 with ⟨hv, _⟩ | ⟨g, cap, cur, hv, _⟩
  · cases hv; rfl
  · cases hv
set_option maxHeartbeats 800000 in
theorem spec_trimR (A : Option Addr) (n c : Nat) (xs : List Int) (w : World) (hn : xs.length = n) (hb : n ≤ 4194304) (hR : Room A n c) (hr : Reads w A (xs.map (.int .i64))) :
    Calls Try.prog 88 #[.slice A n c] w fun e w' => (∃ m, e = .returned (.slice A m c) ∧ Trimmed xs m) ∧ w = w' := by
  have hcap := hR.1
  have Hn := Lib.hid hn
  have Hr := Lib.hid hr
  by_cases h0 : n = 0
  · have hfin : Hid (Trimmed xs 0) := ⟨Nat.zero_le _, fun j hj _ => absurd hj (by rw [hn]; omega), by simp⟩
    have hA : (A = none ∧ c = 0) ∨ ∃ g o s, A = some ⟨g, o, s⟩ := by
      cases A with
      | none => exact .inl ⟨rfl, hR.2 rfl⟩
      | some a => exact .inr ⟨a.block, a.off, a.spot, rfl⟩
    clear hn hr hR
    subst h0
    rcases hA with ⟨rfl, rfl⟩ | ⟨g, o, s, rfl⟩
    all_goals
      go_enter Try.func88, Try.ntmps88
      go_wp2_with fail
      refine wp_loop_rounds 1 ?_
      rw [rounds_succ]
      go_wp2_with fail
    · go_ret
      exact ⟨⟨0, rfl, hfin.out⟩, rfl⟩
    · go_ret
      exact ⟨⟨0, rfl, hfin.out⟩, rfl⟩
  obtain ⟨g, o, rfl, hgs, hc⟩ := hr.at_ (by simp; omega)
  have HC := Lib.hid hc
  clear hn hr hR hc
  go_enter Try.func88, Try.ntmps88
  go_wp2_with fail
  go_loop [3] (fun x => ∃ m : Nat, m ≤ n ∧ x = .int .i64 m ∧ Hid (ZeroFrom xs m)) (fun x => (intOf x).toNat)
  case atStart => exact ⟨n, Nat.le_refl _, rfl, fun j hj hle => absurd hj (by rw [Hn.out]; omega)⟩
  case round =>
    obtain ⟨m, hm, rfl, hz⟩ := hrel
    by_cases hm0 : m = 0
    · have hfin : Hid (Trimmed xs 0) := ⟨Nat.zero_le _, by rw [← hm0]; exact hz.out, by simp⟩
      subst hm0
      go_wp2_with fail
      go_ret
      exact ⟨⟨0, rfl, hfin.out⟩, rfl⟩
    · obtain ⟨k, rfl⟩ : ∃ k, m = k + 1 := ⟨m - 1, by omega⟩
      have hkx : k < xs.length := by rw [Hn.out]; omega
      obtain ⟨z, hzk⟩ : ∃ z, z = xs[k] := ⟨_, rfl⟩
      have hcell : w.cell? ⟨g, o + k, none⟩ = some (.int .i64 z) := by
        rw [HC.out k (by simpa using hkx)]; simp [hzk]
      by_cases hz0 : z = 0
      · have hnx : Hid (ZeroFrom xs k) := zeroFrom_pred hz.out hkx (by rw [← hzk]; exact hz0)
        subst hz0
        clear hzk hm0
        go_wp2_with fail
        go_round
        case rel => exact ⟨k, by omega, by go_num, hnx⟩
        case measure => simp [intOf]
      · have hfin : Hid (Trimmed xs (k + 1)) := ⟨by omega, hz.out, by rw [take_last hkx, ← hzk]; simpa using hz0⟩
        have hz1 : (z == 0) = false := by simpa using hz0
        clear hzk hm0 hz0
        go_wp2_with fail
        go_ret
        exact ⟨⟨k + 1, rfl, hfin.out⟩, rfl⟩
set_option maxHeartbeats 400000 in
theorem spec_capR (A : Option Addr) (n c : Nat) (xs : List Int) (w : World) (hn : xs.length = n) (hb : n ≤ 4194304) (hR : Room A n c) (hr : Reads w A (xs.map (.int .i64))) :
    Calls Try.prog 147 #[.slice A n c] w fun e w' => CapEnd xs A c e ∧ w = w' := by
  have con := Lib.hid (spec_trimR A n c xs w hn hb hR hr)
  clear hn hb hr hR
  go_enter Try.func147, Try.ntmps147
  go_wp2_with fail
  refine con.out.mono ?_
  rintro e w' ⟨⟨m, rfl, ht⟩, rfl⟩
  have Ht := Lib.hid ht
  clear ht con
  by_cases h60 : 60 < (m : Int)
  · go_wp2_with fail
    go_ret
    exact ⟨⟨m, Ht.out, .inl ⟨by omega, rfl⟩⟩, rfl⟩
  · go_wp2_with fail
    go_ret
    exact ⟨⟨m, Ht.out, .inr ⟨by omega, rfl⟩⟩, rfl⟩
/-- What a cut list reads as. -/
theorem CapEnd.reads {w : World} {A : Option Addr} {c : Nat} {xs : List Int} {e : Ending} (h : CapEnd xs A c e) (hr : InR xs) (ho : Reads w A (xs.map (.int .i64))) :
    ∃ l m B d, e = .returned (.slice B m d) ∧ Canon l ∧ val l = val xs ∧ (cap l).length = m ∧ m ≤ 60 ∧ Reads w B ((cap l).map (.int .i64)) := by
  obtain ⟨m, ht, h⟩ := h
  obtain ⟨hc, hv⟩ := ht.canon hr
  have hlm : (xs.take m).length = m := by have := ht.1; simp; omega
  rcases h with ⟨hm, rfl⟩ | ⟨hm, rfl⟩
  · have e : cap (xs.take m) = [] := by unfold cap; rw [if_pos (by omega)]
    exact ⟨xs.take m, 0, none, 0, rfl, hc, hv, by rw [e]; rfl, by omega, by rw [e]; exact .inl rfl⟩
  · have e : cap (xs.take m) = xs.take m := by unfold cap; rw [if_neg (by omega)]
    refine ⟨xs.take m, m, A, c, rfl, hc, hv, by rw [e, hlm], hm, ?_⟩
    rw [e]
    rcases ho with h0 | ⟨b, o, rfl, hb, hcs⟩
    · left; rw [List.map_eq_nil_iff] at h0; subst h0; simp
    · refine .inr ⟨b, o, rfl, hb, fun j hj => ?_⟩
      have := hcs j (by simp at hj ⊢; omega)
      rw [this]; simp

/-- A sign and limbs made to a big integer. -/
def MakeEnd (neg : Bool) (t : Int) (w w' : World) (e : Ending) : Prop := ∃ r v, e = .returned (.agg #[.bool (sgn neg r), v]) ∧ (∃ l, Canon l ∧ val l = t ∧ r = cap l) ∧ ResI w w' v r ∧ Below w.heap.size w w'
set_option maxHeartbeats 800000 in
theorem spec_make (neg : Bool) (A : Option Addr) (n c : Nat) (xs : List Int) (w : World) (hn : xs.length = n) (hb : n ≤ 4194304) (hR : Room A n c) (hr : Reads w A (xs.map (.int .i64))) (k1 : InR xs) :
    Calls Try.prog 111 #[.bool neg, .slice A n c] w fun e w' => MakeEnd neg (val xs) w w' e := by
  obtain ⟨i0, hi, hz0, hz1, hz2⟩ := info_parts Try.infoI
  have Hr := Lib.hid hr
  have con := fun W h => spec_capR A n c xs W hn hb hR h
  have Con := Lib.hid con
  have K1 := Lib.hid k1
  clear con hn hb hr hR k1
  go_enter Try.func111, Try.ntmps111
  go_wp2_with fail
  have hr1 : Hid (Reads (w.alloc (.cells #[.bool false, .slice none 0 0] 24)) A (xs.map (.int .i64))) := Hr.out.below ((Below.refl _ _).alloc (Nat.le_refl _) _)
  refine (Con.out _ hr1.out).mono ?_
  rintro e w1 ⟨hce, rfl⟩
  obtain ⟨l, m, B, d, rfl, hc, hv, hl, hm, hrd⟩ := hce.reads K1.out hr1.out
  obtain ⟨r, hrl⟩ : ∃ r, r = cap l := ⟨_, rfl⟩
  rw [← hrl] at hl hrd
  have HF : Hid (∃ l, Canon l ∧ val l = val xs ∧ r = cap l) := ⟨l, hc, hv, hrl⟩
  have HL := Lib.hid hl
  have HR := Lib.hid hrd
  have hsg : Hid ((neg && decide (0 < m)) = sgn neg r) := by
    unfold sgn Hid
    have : decide (0 < m) = decide (r ≠ []) := by
      rw [decide_eq_decide, ← hl]; exact List.length_pos_iff
    rw [this]
  clear hc hv hrl hl hrd hce hr1 Con K1
  obtain ⟨W, hW⟩ : ∃ W, W = w.alloc (.cells #[.bool false, .slice none 0 0] 24) := ⟨_, rfl⟩
  have hbox : Hid (Box W w.heap.size 24 #[.bool false, .slice none 0 0]) := by rw [hW]; exact Box.new _ _ _
  have hbw : Hid (Below w.heap.size w W) := by rw [hW]; exact (Below.refl _ _).alloc (Nat.le_refl _) _
  have hsz : W.heap.size = w.heap.size + 1 := by rw [hW]; simp
  have HSZ := Lib.hid hsz
  rw [← hW] at HR ⊢
  clear hW hsz
  have hbs : W.heap.size ≤ (W.alloc (.cells #[] 3)).heap.size := by simp
  have HR2 : Hid (Reads (W.alloc (.cells #[] 3)) B (r.map (.int .i64))) := HR.out.below ((Below.refl _ _).alloc (Nat.le_refl _) _)
  have HL2 : Hid ((r.map (Value.int .i64)).length = m) := by unfold Hid; rw [List.length_map, HL.out]
  have hcase : (neg = false ∧ Hid (sgn neg r = false)) ∨ (neg = true ∧ (m : Int) < 1 ∧ Hid (sgn neg r = false)) ∨ (neg = true ∧ 0 < m ∧ Hid (sgn neg r = true)) := by
    cases neg
    · exact .inl ⟨rfl, Lib.hid (by simp [sgn])⟩
    · by_cases h0 : m = 0
      · exact .inr (.inl ⟨rfl, by omega, by unfold Hid; rw [← hsg.out, h0]; rfl⟩)
      · exact .inr (.inr ⟨rfl, by omega, by unfold Hid; rw [← hsg.out]; simp; omega⟩)
  clear hsg
  rcases hcase with ⟨rfl, hs⟩ | ⟨rfl, h0, hs⟩ | ⟨rfl, h0, hs⟩
  all_goals
    go_wp2_with (at_builtin; refine wpList_append_reads rfl _ _ 22 rfl W.heap.size 3 i0 (.int .i64 0) 8 Try.underlying22 hi hz0 hz1 hz2 rfl _ _ _ rfl (World.ownsRow_lit W #[] 0 (Nat.le_refl _) (by simp) (by simp)) B m d (r.map (.int .i64)) rfl HL2.out HR2.out (by simp [Value.oneCell']) (by unfold maxLen; omega) (by omega) hbs ?_)
    intro v' w1 hown hg
    obtain ⟨A1, c1, rfl⟩ := own_slice hown
    have hb1 := (hbox.out.alloc (.cells #[] 3)).grown hg (by simp [Value.ownBlock, HSZ.out])
    have e0 := hb1.cell 0
    have e1 := hb1.cell 1
    have f0 := hb1.free 0
    have f1 := hb1.free 1
    simp at e0 e1
    have BX := Lib.hid hb1
    have HO := Lib.hid (own_base hown (by rw [HSZ.out]; omega : w.heap.size ≤ W.heap.size))
    have HO2 := Lib.hid hown
    have BW := Lib.hid ((hbw.out.alloc hbw.out.size (.cells #[] 3)).grown hg (by have := hbw.out.size; simp; omega) (fun k hk => by simp [Value.ownBlock] at hk; have := hbw.out.size; omega))
    clear hb1 hown hg
    go_wp2_with fail
    first
      | (refine bodyPost_ret (v := .agg #[.bool false, .slice A1 m c1]) ?_ rfl ?_; focus (simp [results, Try.results111, e0, e1, go_sem]; done))
      | (refine bodyPost_ret (v := .agg #[.bool false, .slice A1 m c1]) ?_ rfl ?_; focus (simp [results, Try.results111, e0, e1, go_sem]; omega))
      | (refine bodyPost_ret (v := .agg #[.bool true, .slice A1 m c1]) ?_ rfl ?_; focus (simp [results, Try.results111, e0, e1, go_sem]; done))
    refine ⟨r, .slice A1 m c1, by rw [hs.out], HF.out, ⟨by rw [HL.out]; omega, ?_⟩, (BW.out.setCell (Nat.le_refl _) _).setCell (Nat.le_refl _) _⟩
    rw [HL.out]
    exact own_base (own_set (own_set HO2.out (by simp [HSZ.out])) (by simp [HSZ.out])) (by rw [HSZ.out]; omega)
end Go.Proofs.Ytjggdbakbhacjaa
