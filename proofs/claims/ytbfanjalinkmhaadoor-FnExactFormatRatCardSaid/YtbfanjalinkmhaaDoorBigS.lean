/- Contracts of the model's big integers. -/
import Derived.Test.YtbfanjalinkmhaaDoorBig
import Derived.Test.YtbfanjalinkmhaaDoorBigMem
import Derived.Test.YtbfanjalinkmhaaDoorApp
import Derived.Test.YtbfanjalinkmhaaDoorNat4
import Derived.Test.YtbfanjalinkmhaaDoorNat6
namespace Go.Proofs.YtbfanjalinkmhaaDoor
set_option maxRecDepth 100000
open Go.RowKit

/-- There is room for what a slice holds. -/
def Room (A : Option Addr) (n c : Nat) : Prop := n ≤ c ∧ (A = none → c = 0)
theorem room_own {w : World} {base : Nat} {E : TypeId} {size n c : Nat} {A : Option Addr} {xs : List Value} (h : w.ownsRow base E size (.slice A n c) n xs) : Room A n c := by
  refine ⟨(own_cap h).1, ?_⟩
  rintro rfl
  rcases h.2 with ⟨hv, _⟩ | ⟨g, cap, cur, hv, _⟩
  · cases hv; rfl
  · cases hv
set_option maxHeartbeats 800000 in
theorem spec_trimR (A : Option Addr) (n c : Nat) (xs : List Int) (w : World) (hn : xs.length = n) (hb : n ≤ 4194304) (hR : Room A n c) (hr : Reads w A (xs.map (.int .i64))) :
    Calls Tryd.prog 48 #[.slice A n c] w fun e w' => (∃ m, e = .returned (.slice A m c) ∧ Trimmed xs m) ∧ w = w' := by
  have hcap := hR.1
  have Hn := Lib.hid hn
  have Hr := Lib.hid hr
  by_cases h0 : n = 0
  · have hfin : Hid (Trimmed xs 0) := ⟨Nat.zero_le _, fun j hj _ => absurd hj (by rw [hn]; omega), by simp⟩
    have hA : (A = none ∧ c = 0) ∨ ∃ g o s, A = some ⟨g, o, s⟩ := by
      cases A with
      | none => exact .inl ⟨rfl, hR.2 rfl⟩
      | some a => exact .inr ⟨a.block, a.off, a.spot, rfl⟩
    clear hn hr hR
    subst h0
    rcases hA with ⟨rfl, rfl⟩ | ⟨g, o, s, rfl⟩
    all_goals
      go_enter Tryd.func48, Tryd.ntmps48
      go_wp2_with fail
      refine wp_loop_rounds 1 ?_
      rw [rounds_succ]
      go_wp2_with fail
    · go_ret
      exact ⟨⟨0, rfl, hfin.out⟩, rfl⟩
    · go_ret
      exact ⟨⟨0, rfl, hfin.out⟩, rfl⟩
  obtain ⟨g, o, rfl, hgs, hc⟩ := hr.at_ (by simp; omega)
  have HC := Lib.hid hc
  clear hn hr hR hc
  go_enter Tryd.func48, Tryd.ntmps48
  go_wp2_with fail
  go_loop [3] (fun x => ∃ m : Nat, m ≤ n ∧ x = .int .i64 m ∧ Hid (ZeroFrom xs m)) (fun x => (intOf x).toNat)
  case atStart => exact ⟨n, Nat.le_refl _, rfl, fun j hj hle => absurd hj (by rw [Hn.out]; omega)⟩
  case round =>
    obtain ⟨m, hm, rfl, hz⟩ := hrel
    by_cases hm0 : m = 0
    · have hfin : Hid (Trimmed xs 0) := ⟨Nat.zero_le _, by rw [← hm0]; exact hz.out, by simp⟩
      subst hm0
      go_wp2_with fail
      go_ret
      exact ⟨⟨0, rfl, hfin.out⟩, rfl⟩
    · obtain ⟨k, rfl⟩ : ∃ k, m = k + 1 := ⟨m - 1, by omega⟩
      have hkx : k < xs.length := by rw [Hn.out]; omega
      obtain ⟨z, hzk⟩ : ∃ z, z = xs[k] := ⟨_, rfl⟩
      have hcell : w.cell? ⟨g, o + k, none⟩ = some (.int .i64 z) := by
        rw [HC.out k (by simpa using hkx)]; simp [hzk]
      by_cases hz0 : z = 0
      · have hnx : Hid (ZeroFrom xs k) := zeroFrom_pred hz.out hkx (by rw [← hzk]; exact hz0)
        subst hz0
        clear hzk hm0
        go_wp2_with fail
        go_round
        case rel => exact ⟨k, by omega, by go_num, hnx⟩
        case measure => simp [intOf]
      · have hfin : Hid (Trimmed xs (k + 1)) := ⟨by omega, hz.out, by rw [take_last hkx, ← hzk]; simpa using hz0⟩
        have hz1 : (z == 0) = false := by simpa using hz0
        clear hzk hm0 hz0
        go_wp2_with fail
        go_ret
        exact ⟨⟨k + 1, rfl, hfin.out⟩, rfl⟩
/-- What a cut list reads as. -/
theorem CapEnd.reads {w : World} {A : Option Addr} {c : Nat} {xs : List Int} {e : Ending} (h : CapEnd xs A c e) (hr : InR xs) (ho : Reads w A (xs.map (.int .i64))) :
    ∃ l m B d, e = .returned (.slice B m d) ∧ Canon l ∧ val l = val xs ∧ (cap l).length = m ∧ m ≤ 60 ∧ Reads w B ((cap l).map (.int .i64)) := by
  obtain ⟨m, ht, h⟩ := h
  obtain ⟨hc, hv⟩ := ht.canon hr
  have hlm : (xs.take m).length = m := by have := ht.1; simp; omega
  rcases h with ⟨hm, rfl⟩ | ⟨hm, rfl⟩
  · have e : cap (xs.take m) = [] := by unfold cap; rw [if_pos (by omega)]
    exact ⟨xs.take m, 0, none, 0, rfl, hc, hv, by rw [e]; rfl, by omega, by rw [e]; exact .inl rfl⟩
  · have e : cap (xs.take m) = xs.take m := by unfold cap; rw [if_neg (by omega)]
    refine ⟨xs.take m, m, A, c, rfl, hc, hv, by rw [e, hlm], hm, ?_⟩
    rw [e]
    rcases ho with h0 | ⟨b, o, rfl, hb, hcs⟩
    · left; rw [List.map_eq_nil_iff] at h0; subst h0; simp
    · refine .inr ⟨b, o, rfl, hb, fun j hj => ?_⟩
      have := hcs j (by simp at hj ⊢; omega)
      rw [this]; simp

/-- A sign and limbs made to a big integer. -/
def MakeEnd (neg : Bool) (t : Int) (w w' : World) (e : Ending) : Prop := ∃ r v, e = .returned (.agg #[.bool (sgn neg r), v]) ∧ (∃ l, Canon l ∧ val l = t ∧ r = cap l) ∧ ResI w w' v r ∧ Below w.heap.size w w'
end Go.Proofs.YtbfanjalinkmhaaDoor
