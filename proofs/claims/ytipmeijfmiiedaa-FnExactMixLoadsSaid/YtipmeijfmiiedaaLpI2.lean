/- Contracts of linear programs, by the program: the matrix of a program, its rows and columns. -/
import Derived.Test.YtipmeijfmiiedaaLpI
import Derived.Test.YtipmeijfmiiedaaTA
namespace Go.Proofs.Ytipmeijfmiiedaa
set_option maxRecDepth 100000
open Go.RowKit

def LinEnd (p k : Int) (A : Option Addr) (n c : Nat) (la : List Int) (B : Option Addr) (m d : Nat) (lb : List Int) (C : Option Addr) (l f : Nat) (lc : List Int) (w w' : World) (e : Ending) : Prop :=
  ∃ b, e = .returned (.tuple #[.agg #[.int .i64 p, .int .i64 k, .slice A n c, .slice B m d, .slice C l f], .bool b]) ∧ (b = true ↔ LP.ok ⟨p, k, la, lb, lc⟩) ∧ Below w.heap.size w w'
theorem lin_held {w : World} {g G : Nat} {t T : TypeId} {a0 a1 a2 a3 a4 b0 b1 b2 b3 b4 : Value} (h : Hid (Box w g t #[a0, a1, a2, a3, a4])) (k : Hid (Box w G T #[b0, b1, b2, b3, b4])) :
    w.cell? ⟨g, 0, none⟩ = some a0 ∧ w.cell? ⟨g, 1, none⟩ = some a1 ∧ w.cell? ⟨g, 2, none⟩ = some a2 ∧ w.cell? ⟨g, 3, none⟩ = some a3 ∧ w.cell? ⟨g, 4, none⟩ = some a4 ∧
      w.cell? ⟨G, 0, none⟩ = some b0 ∧ w.cell? ⟨G, 1, none⟩ = some b1 ∧ w.cell? ⟨G, 2, none⟩ = some b2 ∧ w.cell? ⟨G, 3, none⟩ = some b3 ∧ w.cell? ⟨G, 4, none⟩ = some b4 :=
  ⟨h.out.cell 0, h.out.cell 1, h.out.cell 2, h.out.cell 3, h.out.cell 4, k.out.cell 0, k.out.cell 1, k.out.cell 2, k.out.cell 3, k.out.cell 4⟩
theorem Box.far5 {w : World} {g R : Nat} {t : TypeId} {cs : Array Value} (h : Box w g t cs) (hne : g ≠ R) (u0 u1 u2 u3 u4 : Value) :
    Box (((((w.setCell ⟨R, 0, none⟩ u0).setCell ⟨R, 1, none⟩ u1).setCell ⟨R, 2, none⟩ u2).setCell ⟨R, 3, none⟩ u3).setCell ⟨R, 4, none⟩ u4) g t cs :=
  ((((h.far (p := ⟨R, 0, none⟩) hne u0).far (p := ⟨R, 1, none⟩) hne u1).far (p := ⟨R, 2, none⟩) hne u2).far (p := ⟨R, 3, none⟩) hne u3).far (p := ⟨R, 4, none⟩) hne u4
theorem lin_far {w : World} {g G R : Nat} {t T : TypeId} {a0 a1 a2 a3 a4 b0 b1 b2 b3 b4 : Value} (h : Hid (Box w g t #[a0, a1, a2, a3, a4])) (k : Hid (Box w G T #[b0, b1, b2, b3, b4])) (hg : g ≠ R) (hG : G ≠ R) (u0 u1 u2 u3 u4 : Value) :
    (((((w.setCell ⟨R, 0, none⟩ u0).setCell ⟨R, 1, none⟩ u1).setCell ⟨R, 2, none⟩ u2).setCell ⟨R, 3, none⟩ u3).setCell ⟨R, 4, none⟩ u4).cell? ⟨g, 0, none⟩ = some a0 ∧
    (((((w.setCell ⟨R, 0, none⟩ u0).setCell ⟨R, 1, none⟩ u1).setCell ⟨R, 2, none⟩ u2).setCell ⟨R, 3, none⟩ u3).setCell ⟨R, 4, none⟩ u4).cell? ⟨g, 1, none⟩ = some a1 ∧
    (((((w.setCell ⟨R, 0, none⟩ u0).setCell ⟨R, 1, none⟩ u1).setCell ⟨R, 2, none⟩ u2).setCell ⟨R, 3, none⟩ u3).setCell ⟨R, 4, none⟩ u4).cell? ⟨g, 2, none⟩ = some a2 ∧
    (((((w.setCell ⟨R, 0, none⟩ u0).setCell ⟨R, 1, none⟩ u1).setCell ⟨R, 2, none⟩ u2).setCell ⟨R, 3, none⟩ u3).setCell ⟨R, 4, none⟩ u4).cell? ⟨g, 3, none⟩ = some a3 ∧
    (((((w.setCell ⟨R, 0, none⟩ u0).setCell ⟨R, 1, none⟩ u1).setCell ⟨R, 2, none⟩ u2).setCell ⟨R, 3, none⟩ u3).setCell ⟨R, 4, none⟩ u4).cell? ⟨g, 4, none⟩ = some a4 ∧
    (((((w.setCell ⟨R, 0, none⟩ u0).setCell ⟨R, 1, none⟩ u1).setCell ⟨R, 2, none⟩ u2).setCell ⟨R, 3, none⟩ u3).setCell ⟨R, 4, none⟩ u4).cell? ⟨G, 0, none⟩ = some b0 ∧
    (((((w.setCell ⟨R, 0, none⟩ u0).setCell ⟨R, 1, none⟩ u1).setCell ⟨R, 2, none⟩ u2).setCell ⟨R, 3, none⟩ u3).setCell ⟨R, 4, none⟩ u4).cell? ⟨G, 1, none⟩ = some b1 ∧
    (((((w.setCell ⟨R, 0, none⟩ u0).setCell ⟨R, 1, none⟩ u1).setCell ⟨R, 2, none⟩ u2).setCell ⟨R, 3, none⟩ u3).setCell ⟨R, 4, none⟩ u4).cell? ⟨G, 2, none⟩ = some b2 ∧
    (((((w.setCell ⟨R, 0, none⟩ u0).setCell ⟨R, 1, none⟩ u1).setCell ⟨R, 2, none⟩ u2).setCell ⟨R, 3, none⟩ u3).setCell ⟨R, 4, none⟩ u4).cell? ⟨G, 3, none⟩ = some b3 ∧
    (((((w.setCell ⟨R, 0, none⟩ u0).setCell ⟨R, 1, none⟩ u1).setCell ⟨R, 2, none⟩ u2).setCell ⟨R, 3, none⟩ u3).setCell ⟨R, 4, none⟩ u4).cell? ⟨G, 4, none⟩ = some b4 :=
  lin_held (Lib.hid (h.out.far5 hg u0 u1 u2 u3 u4)) (Lib.hid (k.out.far5 hG u0 u1 u2 u3 u4))
/-- Row u / K of a list of integers that lies at A: where it lies. -/
def IRowAt (A A' : Option Addr) (K u : Nat) : Prop := K = 0 ∨ ∃ b o, A = some ⟨b, o, none⟩ ∧ A' = some ⟨b, o + u, none⟩
def IRowEnd (A : Option Addr) (K u : Nat) (w w' : World) (e : Ending) : Prop := ∃ A' c', e = .returned (.slice A' K c') ∧ IRowAt A A' K u ∧ Below w.heap.size w w'
theorem InI.some_ {w : World} {A : Option Addr} {n : Nat} {xs : List Int} (h : InI w A n xs) (hn : 0 < n) : ∃ b o, A = some ⟨b, o, none⟩ := by
  obtain ⟨b, o, _, hA, _⟩ := h.get hn
  exact ⟨b, o, hA⟩
theorem InI.rowI {w : World} {A A' : Option Addr} {n K i : Nat} {la : List Int} (h : InI w A n la) (hr : IRowAt A A' K (i * K)) (hle : i * K + K ≤ n) : InI w A' K (lrow K la i) := by
  have hl : (lrow K la i).length = K := by simp only [lrow, List.length_take, List.length_drop]; have := h.1; omega
  have hn := h.2.1
  refine ⟨hl, by omega, ?_, fun z hz => h.2.2.2 z (List.mem_of_mem_drop (List.mem_of_mem_take hz))⟩
  by_cases h0 : K = 0
  · left; have : lrow K la i = [] := List.eq_nil_of_length_eq_zero (by omega)
    rw [this]; rfl
  rcases hr with hr | ⟨b, o, rfl, rfl⟩
  · exact absurd hr h0
  rcases h.2.2.1 with hx | ⟨b', o', hA, hlt, hc⟩
  · have h1 : la = [] := by simpa using hx
    have h2 := h.1
    rw [h1] at h2
    simp at h2
    omega
  · cases hA
    refine .inr ⟨b, _, rfl, hlt, fun j hj => ?_⟩
    rw [List.length_map, hl] at hj
    have hx : i * K + j < la.length := by have := h.1; omega
    have e : (lrow K la i)[j]? = la[i * K + j]? := lrow_at hj
    have e2 := hc (i * K + j) (by simpa using hx)
    rw [show o + i * K + j = o + (i * K + j) by omega, e2]
    rw [List.getElem_map, List.getElem_map]
    rw [List.getElem?_eq_getElem hx, List.getElem?_eq_getElem (by rw [hl]; exact hj)] at e
    rw [Option.some.inj e]
set_option maxHeartbeats 1600000 in
theorem impl_row (p : Int) (K i : Nat) (A : Option Addr) (n c : Nat) (w : World) (hle : i * K + K ≤ n) (hn : n ≤ 1048576) (hc : n ≤ c) (hA : 0 < n → ∃ b o, A = some ⟨b, o, none⟩) (hi : i ≤ 20) (hK : K ≤ 40) :
    Calls Try.prog 74 #[.agg #[.int .i64 p, .int .i64 K, .slice A n c], .int .i64 i] w fun e w' => IRowEnd A K (i * K) w w' e := by
  obtain ⟨u, hu⟩ : ∃ u, u = i * K := ⟨_, rfl⟩
  rw [← hu] at hle ⊢
  have hik : (i : Int) * (K : Int) = u := by rw [hu]; exact (Int.natCast_mul _ _).symm
  have hik1 : ((i : Int) + 1) * (K : Int) = u + K := by rw [Int.add_mul, hik, Int.one_mul]
  clear hu
  by_cases h0 : K = 0
  · have HF : Hid (∀ W, Below w.heap.size w W → IRowEnd A K u w W (.returned (.slice A 0 0))) := fun W hW => ⟨A, 0, by rw [h0], .inl h0, hW⟩
    subst h0
    go_enter Try.func74, Try.ntmps74
    go_wp2_with fail
    go_quiet (fail)
    go_wp2_with fail
    go_ret
    exact HF.out _ (below_drewN ((Below.refl _ _).alloc (Nat.le_refl _) _) _)
  · obtain ⟨b, o, rfl⟩ := hA (by omega)
    have hcu : ¬ (u + K = u) := by omega
    have hu0 : (0 : Int) ≤ (u : Int) := by omega
    have hu1 : (u : Int) + (K : Int) ≤ (n : Int) := by omega
    have HF : Hid (∀ W, Below w.heap.size w W → IRowEnd (some ⟨b, o, none⟩) K u w W (.returned (.slice (some ⟨b, o + u, none⟩) (u + K - u) (u + K - u)))) := fun W hW => ⟨_, K, by rw [show u + K - u = K by omega], .inr ⟨b, o, rfl, rfl⟩, hW⟩
    go_enter Try.func74, Try.ntmps74
    go_wp2_with fail
    go_quiet (fail)
    go_wp2_with fail
    go_ret
    exact HF.out _ (below_drewN ((Below.refl _ _).alloc (Nat.le_refl _) _) _)
set_option maxHeartbeats 3200000 in
theorem impl_column (P K J : Nat) (A : Option Addr) (n c : Nat) (la : List Int) (w : World) (h : InI w A n la) (hl : n = P * K) (hJ : J < K) (hP : P ≤ 20) (hK : K ≤ 40) (hc : n ≤ c) :
    Calls Try.prog 49 #[.agg #[.int .i64 P, .int .i64 K, .slice A n c], .int .i64 J] w fun e w' => IntsEnd (lcol K la P J) w w' e := by
  obtain ⟨i0, hi, hz0, hz1, hz2⟩ := info_parts Try.infoI
  obtain ⟨W0, hW0⟩ : ∃ W, W = (w.alloc (.cells #[.int .i64 P, .int .i64 K, .slice A n c] 73)) := ⟨_, rfl⟩
  have hm0_0 : Hid (Box W0 (w.heap.size) 73 #[.int .i64 P, .int .i64 K, .slice A n c]) := by rw [hW0]; exact (Box.at' (by simp))
  have BW_0 : Hid (Below w.heap.size w W0) := by rw [hW0]; exact ((Below.refl w.heap.size w).alloc (by simp) _)
  have hsz0 : w.heap.size + 1 ≤ W0.heap.size := by rw [hW0]; simp
  have hn := h.2.1
  have HI := Lib.hid (h.below BW_0.out)
  have HL := Lib.hid hl
  obtain ⟨zs, hzs⟩ : ∃ zs, zs = lcol K la P J := ⟨_, rfl⟩
  have HZ := Lib.hid hzs
  have HZL : Hid (zs.length = P) := by rw [hzs]; exact lcol_length _ _ _ _
  rw [← hzs]
  clear h hl hzs
  go_enter Try.func49, Try.ntmps49
  go_upto_region 1 with fail
  rw [← hW0]
  clear hW0
  have ehm00 := hm0_0.out.cell 0
  have ehm01 := hm0_0.out.cell 1
  have ehm02 := hm0_0.out.cell 2
  simp at ehm00 ehm01 ehm02
  go_wp2_with (refine wpList_make_full _ rfl _ _ 27 rfl W0.heap.size 3 i0 (.int .i64 0) 1 Try.underlying27 hi hz0 hz1 _ _ _ _ P rfl rfl rfl rfl ?c1 ?c2 ?c3 ?_)
  case c1 => rw [hz2]; omega
  case c2 => unfold maxLen; omega
  case c3 => exact Nat.le_refl _
  intro w1 ho hg
  obtain ⟨ys, ho⟩ : ∃ ys, w1.ownsRow W0.heap.size 3 1 (.slice (some ⟨W0.heap.size, 0, none⟩) P P) P ys := ⟨_, ho⟩
  have Hlen := Lib.hid ho.1
  have B1 : Hid (Below W0.heap.size W0 w1) := (Below.refl W0.heap.size W0).grown hg (Nat.le_refl _) (fun k hk => by cases hk)
  have O1 := Lib.hid ho
  clear ho hg
  clear ehm00 ehm01 ehm02
  obtain ⟨G, hG⟩ : ∃ G, G = W0.heap.size := ⟨_, rfl⟩
  have HG := Lib.hid hG
  have hGw : w.heap.size ≤ G := by rw [hG]; exact BW_0.out.size
  rw [← hG] at O1 ⊢
  clear hG
  go_wp2_with fail
  go_loopw [12] (fun y wr => ∃ i : Nat, i ≤ P ∧ y = .int .i64 i ∧ Hid (wr.ownsRow G 3 1 (.slice (some ⟨G, 0, none⟩) P P) P ((zs.map (Value.int .i64)).take i ++ ys.drop i)) ∧ Hid (Below W0.heap.size W0 wr)) (fun y _ => P - (intOf y).toNat)
  case atStart => exact ⟨0, Nat.zero_le _, rfl, by simpa using O1, B1⟩
  case round =>
    obtain ⟨i, hle, rfl, ho, hb⟩ := hrel
    have hm0_1 := Lib.hid (hm0_0.out.below hb.out hm0_0.out.lt)
    by_cases hlt : i < P
    · have hi0 : (0 : Int) ≤ (i : Int) := by omega
      have hi1 : (i : Int) < (P : Int) := by omega
      have hir : i * K + K ≤ n := by
        rw [HL.out]
        have : (i + 1) * K ≤ P * K := Nat.mul_le_mul_right _ hlt
        rw [Nat.succ_mul] at this
        exact this
      have ehm00 := hm0_1.out.cell 0
      have ehm01 := hm0_1.out.cell 1
      have ehm02 := hm0_1.out.cell 2
      simp at ehm00 ehm01 ehm02
      go_wp2_with fail
      clear ehm00 ehm01 ehm02
      refine (impl_row P K i A n c _ hir hn hc HI.out.some_ (by omega) hK).mono ?_
      rintro e w2 ⟨A2, c2, rfl, hat, hb2⟩
      have HI2 := Lib.hid (((HI.out.below hb.out).below hb2).rowI hat hir)
      have HO2 := Lib.hid (own_below ho.out hb2)
      have HB2 := Lib.hid (hb.out.trans (hb2.mono hb.out.size))
      clear hat hb2
      obtain ⟨b, o, z, rfl, hz, hcell, _, _, _⟩ := HI2.out.get hJ
      have hix : i < (zs.map (Value.int .i64)).length := by rw [List.length_map, HZL.out]; exact hlt
      have hiy : i < ys.length := by rw [Hlen.out]; omega
      have hzi : (zs.map (Value.int .i64))[i]'hix = .int .i64 z := by
        have h1 : zs[i]? = some z := by rw [HZ.out]; exact lcol_at hlt (by rw [← lrow_at hJ]; exact hz)
        obtain ⟨h2, h3⟩ := List.getElem?_eq_some_iff.1 h1
        rw [List.getElem_map, h3]
      have hj0 : (0 : Int) ≤ (J : Int) := by omega
      have hj1 : (J : Int) < (K : Int) := by omega
      have hfr := HO2.out.frozenAt i
      have hcl := HO2.out.cellAt i (by omega)
      rw [List.getElem?_eq_getElem (by simp [Hlen.out, HZL.out]; omega)] at hcl
      obtain ⟨old, hold⟩ : ∃ old, w2.cell? ⟨G, i, none⟩ = some old := ⟨_, hcl⟩
      have hst := HO2.out.stored i (.int .i64 z)
      rw [← hzi, copied_set _ ys i hix hiy, hzi] at hst
      have HO3 := Lib.hid hst.1
      have HB3 : Hid (Below W0.heap.size W0 (w2.setCell ⟨G, i, none⟩ (.int .i64 z))) := HB2.out.setCell (by rw [HG.out]; exact Nat.le_refl _) _
      clear hst hcl hz hzi
      go_wp2_with fail
      go_roundw
      case rel => exact ⟨i + 1, by omega, by go_num, HO3, HB3⟩
      case measure => simp [intOf]; omega
    · obtain rfl : i = P := by omega
      have ho2 := ho.out
      rw [List.take_of_length_le (by rw [List.length_map, HZL.out]; omega), List.drop_eq_nil_of_le (by rw [Hlen.out]; omega), List.append_nil] at ho2
      have HF : Hid (IntsEnd zs w wr (.returned (.slice (some ⟨G, 0, none⟩) i i))) := intsEnd_mk HZL.out (by omega) (own_base ho2 hGw) (BW_0.out.trans (hb.out.mono BW_0.out.size))
      clear ho2
      go_wp2_with fail
      go_ret
      exact HF.out
end Go.Proofs.Ytipmeijfmiiedaa
