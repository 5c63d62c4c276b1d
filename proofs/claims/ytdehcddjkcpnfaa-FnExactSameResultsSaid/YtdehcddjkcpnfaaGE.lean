/- Contracts of fractions: RatMake, by the program. -/
import Derived.Test.YtdehcddjkcpnfaaGD
namespace Go.Proofs.Ytdehcddjkcpnfaa
open Go.RowKit

theorem sign_same {g1 g2 : Bool} {n1 n2 : Nat} (h1 : n1 ≠ 0) (h2 : n2 ≠ 0) : decide (sg g1 n1 * sg g2 n2 = -1) = (g1 != g2) := by
  cases g1 <;> cases g2 <;> simp [sg, h1, h2]
theorem sgn_mul {g1 g2 q3 : Bool} {xs q : List Int} {n1 n2 : Nat} {s1 s2 p G : Int} (hx : xs.length = n1) (hn2 : n2 ≠ 0) (e1 : sg g1 n1 = s1) (e2 : sg g2 n2 = s2) (hp : s1 * s2 = p) (hq : decide (p = -1) = q3) (hG : val xs = val q * G) (h0 : 0 < G) (cq : Canon q) : sgn (g1 != g2) q = sgn q3 q := by
  by_cases e : q = []
  · simp [sgn, e]
  · have hxs : n1 ≠ 0 := by
      intro hz
      rw [List.eq_nil_of_length_eq_zero (hx.trans hz)] at hG
      have h3 := canon_pos cq (List.length_pos_iff.2 e)
      have h4 := Int.mul_pos h3 h0
      have h5 : val ([] : List Int) = 0 := rfl
      omega
    rw [← hq, ← hp, ← e1, ← e2, sign_same hxs hn2]
end Go.Proofs.Ytdehcddjkcpnfaa
namespace Go.Proofs.Ytdehcddjkcpnfaa
open Go.RowKit

theorem add_fin {g1 g2 : Bool} {xs es ys fs : List Int} {gc : Bool} {lc le : List Int} {g : Bool} {l d : List Int} (k1 : ROk g1 xs es) (k2 : ROk g2 ys fs) (hc : BOk gc lc ∧ bval gc lc = bval g1 xs * val fs + bval g2 ys * val es) (hd : Ok le ∧ val le = val es * val fs ∧ 0 < val le) (h : RatMakeIs gc lc false le g l d) : RatAddIs g1 xs es g2 ys fs g l d := by
  unfold RatMakeIs at h
  rw [hc.2, show bval false le = val le from rfl, hd.2.1] at h
  exact rIs_prop h ⟨hc.1, hd.1, fun e => by cases e⟩ ⟨k1, k2⟩
theorem sub_fin {g1 g2 : Bool} {xs es ys fs : List Int} {gc : Bool} {lc le : List Int} {g : Bool} {l d : List Int} (k1 : ROk g1 xs es) (k2 : ROk g2 ys fs) (hc : BOk gc lc ∧ bval gc lc = bval g1 xs * val fs - bval g2 ys * val es) (hd : Ok le ∧ val le = val es * val fs ∧ 0 < val le) (h : RatMakeIs gc lc false le g l d) : RatSubIs g1 xs es g2 ys fs g l d := by
  unfold RatMakeIs at h
  rw [hc.2, show bval false le = val le from rfl, hd.2.1] at h
  exact rIs_prop h ⟨hc.1, hd.1, fun e => by cases e⟩ ⟨k1, k2⟩
theorem mul_fin {g1 g2 : Bool} {xs es ys fs : List Int} {gc : Bool} {lc le : List Int} {g : Bool} {l d : List Int} (k1 : ROk g1 xs es) (k2 : ROk g2 ys fs) (hc : CrossIs (bval g1 xs * bval g2 ys) gc lc) (hd : Ok le ∧ val le = val es * val fs ∧ 0 < val le) (h : RatMakeIs gc lc false le g l d) : RatMulIs g1 xs es g2 ys fs g l d := by
  unfold RatMakeIs at h
  rw [hc.2.1, show bval false le = val le from rfl, hd.2.1] at h
  exact rIs_prop h ⟨hc.1, hd.1, fun e => by cases e⟩ ⟨k1, k2⟩
theorem div_fin {g1 g2 : Bool} {xs es ys fs : List Int} {ga gb : Bool} {la lb : List Int} {g : Bool} {l d : List Int} (k1 : ROk g1 xs es) (k2 : ROk g2 ys fs) (ha : CrossIs (bval g1 xs * val fs) ga la) (hb : CrossIs (bval g2 ys * val es) gb lb) (h : RatMakeIs ga la gb lb g l d) : RatDivIs g1 xs es g2 ys fs g l d := by
  unfold RatMakeIs at h
  rw [ha.2.1, hb.2.1] at h
  exact rIs_prop h ⟨ha.1, hb.1⟩ ⟨k1, k2⟩
end Go.Proofs.Ytdehcddjkcpnfaa
