/- Contracts of fractions: sums, by the model. -/
import Derived.Test.YtdehcddjkcpnfaaGD
import Derived.Deep.DeepCutAuto
namespace Go.Proofs.Ytdehcddjkcpnfaa
open Go.RowKit Go.Deep

theorem okval_inR {l : List Int} {v : Int} (h : Ok l ∧ val l = v) : InR l := h.1.1.1
theorem made_crossG {g1 g2 : Bool} {xs es ys fs lp r : List Int} (k1 : GRat g1 xs es) (k2 : GRat g2 ys fs) (hp : Ok lp ∧ val lp = val xs * val fs) (hm : ∃ l, Canon l ∧ val l = val lp ∧ r = cap l) : CrossIs (bval g1 xs * val fs) (sgn g1 r) r := by
  obtain rfl := made_same hp.1 hm
  have hb := k1.nbd
  have hd := k2.db
  have hp24 := pw_pos 24
  obtain ⟨m0, m1⟩ := mul_bd24 hb.1 hb.2 (show -pw 24 < val fs by omega) hd.2
  refine ⟨sgn_bok _ hp.1, ?_, m0, m1⟩
  rw [sgn_bval _ hp.1.1, hp.2]
  cases g1 <;> simp [bval, Int.neg_mul]
theorem made_cross {g1 g2 : Bool} {xs es ys fs lp r : List Int} (k1 : ROk g1 xs es) (k2 : ROk g2 ys fs) (hp : Ok lp ∧ val lp = val xs * val fs) (hm : ∃ l, Canon l ∧ val l = val lp ∧ r = cap l) : CrossIs (bval g1 xs * val fs) (sgn g1 r) r := made_crossG (.inl k1) (.inl k2) hp hm
theorem sum_small {N M : Int} {ga gb gc : Bool} {la lb lc : List Int} (ha : CrossIs N ga la) (hb : CrossIs M gb lb) (q : BRep (bval ga la + bval gb lb) gc lc) : BOk gc lc ∧ bval gc lc = N + M := by
  have h2 := pw_double
  obtain ⟨a1, a2, a3, a4⟩ := ha
  obtain ⟨b1, b2, b3, b4⟩ := hb
  rw [a2, b2] at q
  exact bRep_small q (by omega) (by omega)
theorem whole_small {g1 g2 gc : Bool} {xs es ys fs lc : List Int} (k1 : GRat g1 xs es) (k2 : GRat g2 ys fs) (q : BRep (bval g1 xs + bval g2 ys) gc lc) : BOk gc lc ∧ bval gc lc = bval g1 xs + bval g2 ys := by
  have h1 := k1.nbd
  have h2 := k2.nbd
  have h3 : pw 24 + pw 24 ≤ pw 60 := by decide
  exact bRep_small q (by omega) (by omega)
theorem add_low_fin {g1 g2 : Bool} {xs es ys fs : List Int} {gc : Bool} {lc le : List Int} {g : Bool} {l d : List Int} (k1 : GRat g1 xs es) (k2 : GRat g2 ys fs) (hc : BOk gc lc ∧ bval gc lc = bval g1 xs * val fs + bval g2 ys * val es) (hd : Ok le ∧ val le = val es * val fs) (h : RIs True (bval gc lc) (val le) g l d) : RatAddIs g1 xs es g2 ys fs g l d := by
  rw [hc.2, hd.2] at h
  exact gr_fin h (k1.two k2)
theorem GRat.whole {g : Bool} {l : List Int} (h : GRat g l [1]) : ROk g l [1] := by
  rcases h with h | ⟨_, _, h⟩
  · exact h
  · cases h
theorem add_wholeG {g1 g2 : Bool} {l1 d1 l2 d2 : List Int} {N : Int} {g : Bool} {l d : List Int} (k1 : GRat g1 l1 d1) (k2 : GRat g2 l2 d2) (e1 : d1 = [1]) (e2 : d2 = [1]) (hN : N = bval g1 l1 + bval g2 l2) (h : RIs True N 1 g l d) : RatAddIs g1 l1 d1 g2 l2 d2 g l d := by
  subst e1 e2
  exact add_whole k1.whole k2.whole rfl rfl hN h
theorem one_ok : Ok [1] := ⟨one_canon, by simp⟩
theorem lit_one (w : World) {b : Nat} (hb : b = w.heap.size) : InI (w.alloc (.cells #[.int .i64 1] 3)) (some ⟨b, 0, none⟩) 1 [1] := by
  subst hb
  exact ⟨rfl, by omega, .inr ⟨w.heap.size, 0, rfl, by simp, cells_new w [.int .i64 1] 3⟩, limbs_bd (InR.one (by omega) (by omega))⟩
theorem lit_room (b : Nat) : Room (some (⟨b, 0, none⟩ : Addr)) 1 1 := ⟨Nat.le_refl _, fun h => by cases h⟩
end Go.Proofs.Ytdehcddjkcpnfaa
