/- Structures: marked and held by the helpers of the laws; a structure that came in, opened. -/
import Derived.Test.YtipmeijfmiiedaaStM4
import Derived.Deep.Slices
namespace Go.Proofs.Ytipmeijfmiiedaa
set_option maxRecDepth 100000
open Go.RowKit Go.ChangeShapes Go.WideShapes Go.Deep Go.Joins

theorem own_atT {w : World} {base : Nat} {E : TypeId} {A : Option Addr} {size n c : Nat} {xs : List Value} (h : w.ownsRow base E size (.slice A n c) n xs) (h0 : 0 < n) :
    ∃ g, A = some ⟨g, 0, none⟩ ∧ base ≤ g ∧ g < w.heap.size := by
  rcases h.2 with ⟨_, rfl⟩ | ⟨g, cap, cur, hv, hb, hg, _⟩
  · omega
  · cases hv
    exact ⟨g, rfl, hb, (h.lt g rfl).2⟩
def markJ (kk : Nat) : JD := ⟨markT kk, (kk : Int) + 1, (kk : Int) + 1 + 1, ((kk : Int) + 1 + 1 + 1) % 3 == 0⟩
def marksJ (K n : Nat) : List JD := (List.range n).map fun i => markJ (K + 4 * i)
theorem marksJ_length (K n : Nat) : (marksJ K n).length = n := by simp [marksJ]
theorem marksJ_succ (K n : Nat) : marksJ K (n + 1) = marksJ K n ++ [markJ (K + 4 * n)] := by simp [marksJ, List.range_succ]
theorem marksJ_set (K : Nat) (js : List JD) (i : Nat) (h : i < js.length) : (marksJ K i ++ js.drop i).set i (markJ (K + 4 * i)) = marksJ K (i + 1) ++ js.drop (i + 1) := by
  rw [List.set_append_right _ _ (by rw [marksJ_length]; exact Nat.le_refl _), marksJ_length, Nat.sub_self, List.drop_eq_getElem_cons h, List.set_cons_zero, marksJ_succ, List.append_assoc]
  rfl
theorem marksJ_at {K n i : Nat} (h : i < n) : (marksJ K n)[i]? = some (markJ (K + 4 * i)) := by simp [marksJ, h]
theorem grown_setJ {w W : World} {g i : Nat} (h : w.grownBy W (some g)) (j : JD) : w.grownBy ((((W.setCell ⟨g, i * 4, none⟩ (.string j.name)).setCell ⟨g, i * 4 + 1, none⟩ (.int .i64 j.x)).setCell ⟨g, i * 4 + 2, none⟩ (.int .i64 j.y)).setCell ⟨g, i * 4 + 3, none⟩ (.bool j.fixed)) (some g) := by
  refine ⟨h.os, h.tape, h.output, by simpa using h.size, fun k hk hne => ?_⟩
  have hkg : k ≠ g := fun e => hne (by rw [e])
  have := h.block k hk hne
  rw [← this]
  exact (Below.heap_setCell _ _ _ k hkg).trans ((Below.heap_setCell _ _ _ k hkg).trans ((Below.heap_setCell _ _ _ k hkg).trans (Below.heap_setCell _ _ _ k hkg)))
set_option maxHeartbeats 1600000 in
theorem markJointS_own (base : Nat) (A : Option Addr) (n c K : Nat) (js : List JD) (w : World) (h0 : 0 < K) (hK : K + 4 * n < maxLen) (hown : w.ownsRow base 79 4 (.slice A n c) n (jcells js)) :
    Calls Try.prog 64 #[.slice A n c, .int .i64 K] w fun e w' => e = .returned (.int .i64 ((K + 4 * n : Nat) : Int)) ∧ w'.ownsRow base 79 4 (.slice A n c) n (jcells (marksJ K n)) ∧ w.grownBy w' (Value.slice A n c).ownBlock := by
  have hlen := own_lenJ hown
  unfold maxLen at hK
  have Hlen := Lib.hid hlen
  clear hlen
  go_enter Try.func64, Try.ntmps64
  go_wp2_with fail
  go_loopw [1, 5] (fun x y wr => ∃ i : Nat, i ≤ n ∧ x = .int .i64 ((K + 4 * i : Nat) : Int) ∧ y = .int .i64 i ∧ Hid (wr.ownsRow base 79 4 (.slice A n c) n (jcells (marksJ K i ++ js.drop i))) ∧ Hid (w.grownBy wr (Value.slice A n c).ownBlock)) (fun _ y _ => n - (intOf y).toNat)
  case atStart => exact ⟨0, Nat.zero_le _, rfl, rfl, by simpa [marksJ] using Lib.hid hown, World.grownBy.refl _ _⟩
  case round =>
    obtain ⟨i, hi, rfl, rfl, ho, hg⟩ := hrel
    by_cases hlt : i < n
    · obtain ⟨g, rfl, hbase, hgs⟩ := own_atT ho.out (by omega)
      have hi0 : (0 : Int) ≤ (i : Int) := by omega
      have hi1 : (i : Int) < (n : Int) := by omega
      obtain ⟨kk, hkk⟩ : ∃ kk, kk = K + 4 * i := ⟨_, rfl⟩
      have hk0 : (0 : Int) ≤ (kk : Int) := by omega
      have hk1 : (kk : Int) + 4 ≤ 9223372036854775806 := by omega
      have hk2 : kk + 4 ≤ 9223372036854775806 := by omega
      have hk3 : 0 < kk := by omega
      rw [← hkk]
      have HK := Lib.hid hkk
      clear hkk
      go_wp2_with fail
      refine (markText_any kk _ hk3 (by unfold maxLen; omega)).mono ?_
      rintro e w1 ⟨rfl, hb1⟩
      have ho1 := own_below ho.out hb1
      have HG1 := Lib.hid (grownBy_trans hg.out (grownBy_of_below hb1 (some g)))
      clear hb1
      obtain ⟨x0, x1, x2, x3, g0, g1, g2, g3, f0, f1, f2, f3⟩ := own_roomJ ho1 hlt
      have HO := Lib.hid (own_setJ ho1 hlt (markJ kk))
      rw [HK.out, marksJ_set K js i (by rw [Hlen.out]; exact hlt), ← HK.out] at HO
      have HG := Lib.hid (grown_setJ (i := i) HG1.out (markJ kk))
      simp only [markJ] at HO HG
      clear ho1
      go_wp2_with fail
      go_roundw
      case rel => exact ⟨i + 1, by omega, by have := HK.out; go_num, by go_num, HO, HG⟩
      case measure => simp [intOf]; omega
    · obtain rfl : i = n := by omega
      go_wp2_with fail
      go_ret
      exact ⟨rfl, by have := ho.out; rwa [List.drop_eq_nil_of_le (by rw [Hlen.out]; omega), List.append_nil] at this, hg.out⟩
def markM (kk : Nat) : MD := ⟨(kk : Int), (kk : Int) + 1, (kk : Int) + 1 + 1⟩
def marksM (K n : Nat) : List MD := (List.range n).map fun i => markM (K + 3 * i)
theorem marksM_length (K n : Nat) : (marksM K n).length = n := by simp [marksM]
theorem marksM_succ (K n : Nat) : marksM K (n + 1) = marksM K n ++ [markM (K + 3 * n)] := by simp [marksM, List.range_succ]
theorem marksM_set (K : Nat) (js : List MD) (i : Nat) (h : i < js.length) : (marksM K i ++ js.drop i).set i (markM (K + 3 * i)) = marksM K (i + 1) ++ js.drop (i + 1) := by
  rw [List.set_append_right _ _ (by rw [marksM_length]; exact Nat.le_refl _), marksM_length, Nat.sub_self, List.drop_eq_getElem_cons h, List.set_cons_zero, marksM_succ, List.append_assoc]
  rfl
theorem marksM_at {K n i : Nat} (h : i < n) : (marksM K n)[i]? = some (markM (K + 3 * i)) := by simp [marksM, h]
theorem grown_setM {w W : World} {g i : Nat} (h : w.grownBy W (some g)) (j : MD) : w.grownBy (((W.setCell ⟨g, i * 3, none⟩ (.int .i64 j.a)).setCell ⟨g, i * 3 + 1, none⟩ (.int .i64 j.b)).setCell ⟨g, i * 3 + 2, none⟩ (.int .i64 j.k)) (some g) := by
  refine ⟨h.os, h.tape, h.output, by simpa using h.size, fun k hk hne => ?_⟩
  have hkg : k ≠ g := fun e => hne (by rw [e])
  have := h.block k hk hne
  rw [← this]
  exact (Below.heap_setCell _ _ _ k hkg).trans ((Below.heap_setCell _ _ _ k hkg).trans (Below.heap_setCell _ _ _ k hkg))
set_option maxHeartbeats 1600000 in
theorem markMemberS_own (base : Nat) (A : Option Addr) (n c K : Nat) (js : List MD) (w : World) (hK : K + 3 * n < maxLen) (hown : w.ownsRow base 99 3 (.slice A n c) n (mcells js)) :
    Calls Try.prog 65 #[.slice A n c, .int .i64 K] w fun e w' => e = .returned (.int .i64 ((K + 3 * n : Nat) : Int)) ∧ w'.ownsRow base 99 3 (.slice A n c) n (mcells (marksM K n)) ∧ w.grownBy w' (Value.slice A n c).ownBlock := by
  have hlen := own_lenM hown
  unfold maxLen at hK
  have Hlen := Lib.hid hlen
  clear hlen
  go_enter Try.func65, Try.ntmps65
  go_wp2_with fail
  go_loopw [1, 5] (fun x y wr => ∃ i : Nat, i ≤ n ∧ x = .int .i64 ((K + 3 * i : Nat) : Int) ∧ y = .int .i64 i ∧ Hid (wr.ownsRow base 99 3 (.slice A n c) n (mcells (marksM K i ++ js.drop i))) ∧ Hid (w.grownBy wr (Value.slice A n c).ownBlock)) (fun _ y _ => n - (intOf y).toNat)
  case atStart => exact ⟨0, Nat.zero_le _, rfl, rfl, by simpa [marksM] using Lib.hid hown, World.grownBy.refl _ _⟩
  case round =>
    obtain ⟨i, hi, rfl, rfl, ho, hg⟩ := hrel
    by_cases hlt : i < n
    · obtain ⟨g, rfl, hbase, hgs⟩ := own_atT ho.out (by omega)
      have hi0 : (0 : Int) ≤ (i : Int) := by omega
      have hi1 : (i : Int) < (n : Int) := by omega
      obtain ⟨kk, hkk⟩ : ∃ kk, kk = K + 3 * i := ⟨_, rfl⟩
      have hk0 : (0 : Int) ≤ (kk : Int) := by omega
      have hk1 : (kk : Int) + 3 ≤ 9223372036854775806 := by omega
      have hk2 : kk + 3 ≤ 9223372036854775806 := by omega
      rw [← hkk]
      have HK := Lib.hid hkk
      clear hkk
      have ho1 := ho.out
      have HG1 := Lib.hid hg.out
      obtain ⟨x0, x1, x2, g0, g1, g2, f0, f1, f2⟩ := own_roomM ho1 hlt
      have HO := Lib.hid (own_setM ho1 hlt (markM kk))
      rw [HK.out, marksM_set K js i (by rw [Hlen.out]; exact hlt), ← HK.out] at HO
      have HG := Lib.hid (grown_setM (i := i) HG1.out (markM kk))
      simp only [markM] at HO HG
      clear ho1
      go_wp2_with fail
      go_roundw
      case rel => exact ⟨i + 1, by omega, by have := HK.out; go_num, by go_num, HO, HG⟩
      case measure => simp [intOf]; omega
    · obtain rfl : i = n := by omega
      go_wp2_with fail
      go_ret
      exact ⟨rfl, by have := ho.out; rwa [List.drop_eq_nil_of_le (by rw [Hlen.out]; omega), List.append_nil] at this, hg.out⟩
def MarkTEnd (base : Nat) (A : Option Addr) (n c : Nat) (B : Option Addr) (m d : Nat) (K : Nat) (w w' : World) (e : Ending) : Prop :=
  e = .returned (.int .i64 ((K + 4 * n + 3 * m : Nat) : Int)) ∧ OwnT w' base A n c (marksJ K n) B m d (marksM (K + 4 * n) m) ∧ Wrote (footT (.slice A n c) (.slice B m d)) w w'
set_option maxHeartbeats 1600000 in
theorem markStructure_own (base : Nat) (A : Option Addr) (n c K : Nat) (js : List JD) (B : Option Addr) (m d : Nat) (ms : List MD) (w : World) (h0 : 0 < K) (hK : K + 4 * n + 3 * m < maxLen) (h : OwnT w base A n c js B m d ms) :
    Calls Try.prog 27 #[.agg #[.slice A n c, .slice B m d], .int .i64 K] w fun e w' => MarkTEnd base A n c B m d K w w' e := by
  obtain ⟨W, hW⟩ : ∃ W, W = w.alloc (.cells #[.slice A n c, .slice B m d] 26) := ⟨_, rfl⟩
  have hp0_0 : Hid (Box W w.heap.size 26 #[.slice A n c, .slice B m d]) := by rw [hW]; exact Box.new _ _ _
  have BW_0 : Hid (Below w.heap.size w W) := by rw [hW]; exact (Below.refl _ _).alloc (Nat.le_refl _) _
  have HP := Lib.hid (h.dep fun k hk => BW_0.out.block k (h.lt k hk).2)
  have HW0 : Hid (Wrote (footT (.slice A n c) (.slice B m d)) w W) := Wrote.of_below BW_0.out
  clear h
  go_enter Try.func27, Try.ntmps27
  go_wp2_with fail
  rw [← hW]
  clear hW
  refine (markJointS_own base A n c K js _ h0 (by omega) HP.out.1).mono ?_
  rintro e w1 ⟨rfl, ho, hg⟩
  have HO1 := Lib.hid ho
  have hp0_1 := Lib.hid (hp0_0.out.grown hg (ne_own hp0_0.out HP.out.1))
  have HU1 := Lib.hid (HP.out.2.1.kept hg (apart_of HP.out.2.2))
  have HW1 := Lib.hid (HW0.out.trans ((Wrote.of_grown hg).mono fun k _ hk => .inl hk))
  clear ho hg
  have q1 := hp0_1.out.cell 1
  simp at q1
  go_wp2_with fail
  clear q1
  refine (markMemberS_own base B m d (K + 4 * n) ms _ (by omega) HU1.out).mono ?_
  rintro e w2 ⟨rfl, ho, hg⟩
  have HU2 := Lib.hid ho
  have HO2 := Lib.hid (HO1.out.kept hg (apart_of (Apart.symm HP.out.2.2)))
  have HW2 := Lib.hid (HW1.out.trans ((Wrote.of_grown hg).mono fun k _ hk => .inr hk))
  clear ho hg
  go_wp2_with fail
  go_ret
  exact ⟨rfl, ⟨HO2.out, HU2.out, HP.out.2.2⟩, HW2.out⟩
end Go.Proofs.Ytipmeijfmiiedaa
