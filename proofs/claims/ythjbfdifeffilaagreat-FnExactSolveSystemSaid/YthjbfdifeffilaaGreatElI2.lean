/- Contracts of the elimination, by the program: the search for the next pivot, which leaves two loops by a label. -/
import Derived.Test.YthjbfdifeffilaaGreatElim
import Derived.Test.YthjbfdifeffilaaGreatMatI6
import Derived.Test.YthjbfdifeffilaaGreatGK
import Derived.Deep.LoopGhost
namespace Go.Proofs.YthjbfdifeffilaaGreat
set_option maxRecDepth 100000
open Go.RowKit

def FindIs (P K : Nat) (rs : List RD) (n : Nat) (r c : Int) (b : Bool) : Prop :=
  (∃ i k : Nat, r = i ∧ c = k ∧ b = true ∧ k < K ∧ firstRow P K rs n k = some i ∧ ∀ j, j < k → firstRow P K rs n j = none) ∨ (r = 0 ∧ c = 0 ∧ b = false ∧ ∀ j, j < K → firstRow P K rs n j = none)
def FindEnd (P K : Nat) (rs : List RD) (n : Nat) (w w' : World) (e : Ending) : Prop := ∃ r c b, e = .returned (.tuple #[.int .i64 r, .int .i64 c, .bool b]) ∧ FindIs P K rs n r c b ∧ Below w.heap.size w w'
theorem sign_nil {r : RD} (h : r.ok) {s : Int} (q : RatSignIs r.g r.xs r.ds s) : s = 0 ↔ r.xs = [] := by
  rcases q with ⟨_, rfl⟩ | ⟨hn, _⟩
  · unfold sg
    have hg := h.1.2
    cases hb : r.g
    · by_cases hx : r.xs = []
      · simp [hx]
      · have : r.xs.length ≠ 0 := fun e => hx (List.length_eq_zero_iff.1 e)
        simp [hx]
    · simp [hg hb]
  · exact absurd h hn
set_option maxHeartbeats 6400000 in
theorem impl_findPivot (A : Option Addr) (n c P K u : Nat) (rs : List RD) (w : World) (h : InV w A n rs) (hm : MOk P K rs) (hc : n ≤ c) (hu : u ≤ P) :
    Calls Tryz.prog 160 #[.agg #[.int .i64 P, .int .i64 K, .slice A n c], .int .i64 u] w fun e w' => FindEnd P K rs u w w' e := by
  obtain ⟨W0, hW0⟩ : ∃ W, W = (w.alloc (.cells #[.int .i64 P, .int .i64 K, .slice A n c] 25)) := ⟨_, rfl⟩
  have hm0_0 : Hid (Box W0 (w.heap.size) 25 #[.int .i64 P, .int .i64 K, .slice A n c]) := by rw [hW0]; exact (Box.at' (by simp))
  have BW_0 : Hid (Below w.heap.size w W0) := by rw [hW0]; exact ((Below.refl w.heap.size w).alloc (by simp) _)
  have hsz0 : w.heap.size + 1 ≤ W0.heap.size := by rw [hW0]; simp
  have hn := h.2.1
  have HV := Lib.hid (h.below BW_0.out)
  have HM := Lib.hid hm
  have HNPK : Hid (n = P * K) := by unfold Hid; rw [← h.1]; exact hm.plen
  have hPb := hm.1
  have hKb := hm.2.1
  have hP24 : P ≤ 24 := by omega
  have hK24 : K ≤ 24 := by omega
  clear h hm
  go_enter Tryz.func160, Tryz.ntmps160
  go_wp2_with fail
  go_step3
  go_wp2_with fail
  rw [← hW0]
  clear hW0
  have ehm00 := hm0_0.out.cell 0
  have ehm01 := hm0_0.out.cell 1
  have ehm02 := hm0_0.out.cell 2
  simp at ehm00 ehm01 ehm02
  go_wp2_with fail
  go_step3
  go_wp2_with fail
  go_loopg [14, 7, 8, 9] K (fun g y s7 s8 s9 wr => ∃ k : Nat, Hid (k + g = K) ∧ y = .int .i64 k ∧ s7 = .int .i64 0 ∧ s8 = .int .i64 0 ∧ s9 = .bool false ∧ Hid (∀ j, j < k → firstRow P K rs u j = none) ∧ Hid (Below W0.heap.size W0 wr))
  case atStart => exact ⟨0, Nat.zero_add _, rfl, rfl, rfl, rfl, fun j hj => by omega, Below.refl _ _⟩
  case round =>
    obtain ⟨k, hkg, rfl, rfl, rfl, rfl, hno, hb⟩ := hrel
    obtain ⟨wo, rfl⟩ : ∃ wo : World, wo = wr := ⟨_, rfl⟩
    have hm0_o := Lib.hid (hm0_0.out.below hb.out hm0_0.out.lt)
    cases gk with
    | zero =>
      have hkz : ¬ ((k : Int) < (K : Int)) := by have := hkg.out; omega
      have HF : Hid (FindEnd P K rs u w wo (.returned (.tuple #[.int .i64 0, .int .i64 0, .bool false]))) := ⟨0, 0, false, rfl, .inr ⟨rfl, rfl, rfl, fun j hj => hno.out j (by have := hkg.out; omega)⟩, BW_0.out.trans (hb.out.mono BW_0.out.size)⟩
      go_wp2_with fail
      try rw [Exit.noGoto_ret]
      go_ret3
      exact HF.out
    | succ g =>
      have hkz : (k : Int) < (K : Int) := by have := hkg.out; omega
      have hk0 : (0 : Int) ≤ (k : Int) := by omega
      have hkK : k < K := by omega
      go_wp2_with fail
      go_loopg [11, 7, 8, 9] (P - u) (fun g2 x s7 s8 s9 wy => ∃ i : Nat, u ≤ i ∧ Hid (i + g2 = P) ∧ x = .int .i64 i ∧ s7 = .int .i64 0 ∧ s8 = .int .i64 0 ∧ s9 = .bool false ∧ Hid (∀ a, u ≤ a → a < i → (cell K rs a k).xs = []) ∧ Hid (Below W0.heap.size W0 wy))
      case atStart => exact ⟨u, Nat.le_refl _, (show u + (P - u) = P by omega), rfl, rfl, rfl, rfl, fun a h1 h2 => by omega, hb⟩
      case round =>
        obtain ⟨i, hui, hig, rfl, rfl, rfl, rfl, hnil, hb2⟩ := hrel
        obtain ⟨wi, rfl⟩ : ∃ wi : World, wi = wr := ⟨_, rfl⟩
        have hm0_i := Lib.hid (hm0_0.out.below hb2.out hm0_0.out.lt)
        cases gk with
        | zero =>
          have hiz : ¬ ((i : Int) < (P : Int)) := by have := hig.out; omega
          have HN : Hid (∀ j, j < k + 1 → firstRow P K rs u j = none) := fun j hj => by
            by_cases e : j = k
            · subst e
              exact firstRow_none.2 fun a h1 h2 => hnil.out a h1 (by have := hig.out; omega)
            · exact hno.out j (by omega)
          have HG : Hid (k + 1 + g = K) := by have := hkg.out; unfold Hid; omega
          have ehm00 := hm0_i.out.cell 0
          have ehm01 := hm0_i.out.cell 1
          have ehm02 := hm0_i.out.cell 2
          simp at ehm00 ehm01 ehm02
          go_wp2_with fail
          go_roundg g
          case rel => exact ⟨k + 1, HG, by go_num, rfl, rfl, rfl, HN, hb2⟩
          case measure => omega
        | succ g2 =>
          have hiz : (i : Int) < (P : Int) := by have := hig.out; omega
          have hi0 : (0 : Int) ≤ (i : Int) := by omega
          have hiP : i < P := by omega
          have hir : i * K + K ≤ n := by rw [HNPK.out]; exact row_le hiP
          have ehm00 := hm0_i.out.cell 0
          have ehm01 := hm0_i.out.cell 1
          have ehm02 := hm0_i.out.cell 2
          simp at ehm00 ehm01 ehm02
          go_wp2_with fail
          clear ehm00 ehm01 ehm02
          refine (impl_rowAt P K i A n c _ hir hn hc HV.out.some_ (by omega) hK24).mono ?_
          rintro e w1 ⟨A', c', rfl, _, hat, hb1⟩
          have HR := Lib.hid ((HV.out.below (hb2.out.trans (hb1.mono hb2.out.size))).row hat hir hK24)
          have HB := Lib.hid (hb2.out.trans (hb1.mono hb2.out.size))
          clear hat hb1
          obtain ⟨b3, o3, rfl, hb3, r, hr, A3, n3, c3, B3, m3, d3, at3, i3, ra3, j3, rb3⟩ := HR.out.at_ k hkK
          have hr2 : cell K rs i k = r := by
            unfold cell
            rw [← mrow_at (rs := rs) hkK, hr]; rfl
          have HRK : Hid r.ok := HM.out.all _ (mem_mrow (List.mem_of_getElem? hr))
          have HR2 := Lib.hid hr2
          have hn3 := i3.2.1
          have hm3 := j3.2.1
          have I3 := Lib.hid i3
          have J3 := Lib.hid j3
          obtain ⟨e30, e31, e32⟩ := at3
          clear hr hr2 i3 j3
          go_wp2_with fail
          clear e30 e31 e32
          refine (impl_ratSign0 r.g A3 n3 c3 r.xs B3 m3 d3 r.ds _ I3.out ra3 J3.out rb3).mono ?_
          rintro e w2 ⟨s, rfl, hq, hb4⟩
          have HSN := Lib.hid (sign_nil HRK.out hq)
          have HB2 := Lib.hid (HB.out.trans (hb4.mono HB.out.size))
          clear hq hb4
          by_cases hx : s = 0
          · subst hx
            have HG : Hid (i + 1 + g2 = P) := by have := hig.out; unfold Hid; omega
            have HN : Hid (∀ a, u ≤ a → a < i + 1 → (cell K rs a k).xs = []) := fun a h1 h2 => by
              by_cases e : a = i
              · subst e; rw [HR2.out]; exact HSN.out.1 rfl
              · exact hnil.out a h1 (by omega)
            go_wp2_with fail
            go_roundg g2
            case rel => exact ⟨i + 1, by omega, HG, by go_num, rfl, rfl, rfl, HN, HB2⟩
            case measure => omega
          · have hs1 : (s != 0) = true := by simpa using hx
            have HF : Hid (FindEnd P K rs u w w2 (.returned (.tuple #[.int .i64 i, .int .i64 k, .bool true]))) := ⟨i, k, true, rfl, .inl ⟨i, k, rfl, rfl, rfl, hkK, firstRow_some hui hiP (by rw [HR2.out]; exact fun h0 => hx (HSN.out.2 h0)) hnil.out, hno.out⟩, BW_0.out.trans (HB2.out.mono BW_0.out.size)⟩
            clear hx
            go_wp2_with fail
            try rw [Exit.noGoto_ret]
            go_ret3
            exact HF.out
end Go.Proofs.YthjbfdifeffilaaGreat
