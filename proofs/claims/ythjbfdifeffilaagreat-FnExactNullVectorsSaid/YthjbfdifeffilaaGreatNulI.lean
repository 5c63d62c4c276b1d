/- Contracts of null vectors, by the program: NullVectors. -/
import Derived.Test.YthjbfdifeffilaaGreatNulV
import Derived.Test.YthjbfdifeffilaaGreatEA
import Derived.Test.YthjbfdifeffilaaGreatElimF
namespace Go.Proofs.YthjbfdifeffilaaGreat
set_option maxRecDepth 100000
open Go.RowKit

theorem null_no {p k : Int} {rs : List RD} (h : ¬ Elim p k rs) : NullVectorsIs p k rs [] false := .inr ⟨h, rfl, rfl⟩
set_option maxHeartbeats 6400000 in
theorem impl_nullVectors0 (p k : Int) (A : Option Addr) (n c : Nat) (rs : List RD) (w : World) (h : InV w A n rs) (hp : -9223372036854775808 ≤ p ∧ p ≤ 9223372036854775807) (hk : -9223372036854775808 ≤ k ∧ k ≤ 9223372036854775807) (hc : n ≤ c) :
    Calls Tryz.prog 47 #[.agg #[.int .i64 p, .int .i64 k, .slice A n c]] w fun e w' => NullEnd (NullVectorsIs p k rs) w w' e := by
  obtain ⟨j0, hj, hy0, hy1, hy2⟩ := infoV_parts
  obtain ⟨W0, hW0⟩ : ∃ W, W = (w.alloc (.cells #[.int .i64 p, .int .i64 k, .slice A n c] 25)) := ⟨_, rfl⟩
  have hm0_0 : Hid (Box W0 (w.heap.size) 25 #[.int .i64 p, .int .i64 k, .slice A n c]) := by rw [hW0]; exact (Box.at' (by simp))
  have BW_0 : Hid (Below w.heap.size w W0) := by rw [hW0]; exact ((Below.refl w.heap.size w).alloc (by simp) _)
  have hsz0 : w.heap.size + 1 ≤ W0.heap.size := by rw [hW0]; simp
  have HV := Lib.hid (h.below BW_0.out)
  clear h
  go_enter Tryz.func47, Tryz.ntmps47
  go_wp2_with fail
  rw [← hW0]
  clear hW0
  refine (impl_reduce0 p k A n c rs _ HV.out hp hk hc).mono ?_
  rintro e w1 ⟨q, j, rr, V, l, v, b, rfl, hqr, ⟨hl1, hl2, hl3, L2, ho, hh, hv, hof⟩, hb⟩
  obtain ⟨A1, c1, rfl⟩ := ho.slice
  obtain ⟨B1, d1, rfl⟩ := own_slice hv
  obtain ⟨N4, hN4⟩ : ∃ N4, N4 = rr.length := ⟨_, rfl⟩
  obtain ⟨n4, hn4⟩ : ∃ N4, N4 = l.length := ⟨_, rfl⟩
  rw [← hN4] at ho ⊢
  rw [← hn4] at hv ⊢
  have HQR := Lib.hid hqr
  have hcap := own_le ho.2.1
  have HI1 : Hid (InV w1 A1 N4 rr) := ho.in_ hh (by omega) hl2
  have HR1 : Hid (Reads w1 B1 (l.map (.int .i64))) := Reads.of_own hv
  have HN4 := Lib.hid hN4
  have Hn4 := Lib.hid hn4
  obtain ⟨W2, hW2⟩ : ∃ W, W = w1.alloc (.cells #[.int .i64 q, .int .i64 j, .slice A1 N4 c1] 25) := ⟨_, rfl⟩
  have hbx : Below w1.heap.size w1 W2 := by rw [hW2]; exact (Below.refl _ _).alloc (Nat.le_refl _) _
  have X_2 : Hid (Box W2 w1.heap.size 25 #[.int .i64 q, .int .i64 j, .slice A1 N4 c1]) := by rw [hW2]; exact Box.new _ _ _
  have hb := hb.trans (hbx.mono hb.size)
  have HI2 := Lib.hid (HI1.out.below hbx)
  have HR2 := Lib.hid (HR1.out.below hbx)
  have hm0_2 := Lib.hid (hm0_0.out.below hb hm0_0.out.lt)
  have BW_2 := Lib.hid (BW_0.out.trans (hb.mono BW_0.out.size))
  clear hb
  have hn420 : n4 ≤ 1048576 := by omega
  have hem := hm0_2
  rw [hW2] at hem
  have em0 := hem.out.cell 0
  have em1 := hem.out.cell 1
  have em2 := hem.out.cell 2
  simp at em0 em1 em2
  clear hqr hl1 hl2 hl3 ho hh hv hof hbx hN4 hn4 hem HI1 HR1
  cases b
  case false =>
    have HF : Hid (∀ W, W = W2 → NullEnd (NullVectorsIs p k rs) w W (.returned (.tuple #[.slice none 0 0, .bool false]))) := by
      rintro W rfl
      exact ⟨[], _, false, rfl, null_no (by rcases HQR.out with ⟨_, _, _, _, _, h1⟩ | ⟨h1, _⟩; cases h1; exact h1), resVV_nil _ _, BW_2.out⟩
    go_wp2_with fail
    go_ret2
    exact HF.out _ hW2.symm
  obtain ⟨HEL, rfl, rfl, hrr, hll⟩ : Elim p k rs ∧ q = p ∧ j = k ∧ rr = (fin p k rs).rs ∧ l = pvs (fin p k rs).pv := by
    rcases HQR.out with ⟨h1, h2, h3, h4, h5, _⟩ | ⟨_, _, _, _, _, h6⟩
    · exact ⟨h1, h2, h3, h4, h5⟩
    · cases h6
  have hp2 := HEL.1.1
  have hk2 := HEL.1.2.1
  obtain ⟨P, rfl⟩ : ∃ P : Nat, q = P := ⟨q.toNat, by omega⟩
  obtain ⟨K, rfl⟩ : ∃ P : Nat, j = P := ⟨j.toNat, by omega⟩
  have hP24 : P ≤ 24 := by omega
  have hK24 : K ≤ 24 := by omega
  rw [fin_nat'] at hrr hll
  obtain ⟨pv, hpv⟩ : ∃ pv, pv = (est P K rs K).pv := ⟨_, rfl⟩
  obtain ⟨R, hR⟩ : ∃ R, R = (est P K rs K).rs := ⟨_, rfl⟩
  rw [← hpv] at hll
  rw [← hR] at hrr
  have HM : MOk P K rs := HEL.1
  have HRL : Hid (N4 = P * K) := by
    have h1 := (est_good HM K (Nat.le_refl _)).2
    rw [← hR, ← hrr] at h1
    unfold Hid
    rw [HN4.out, h1]
  have HRK : Hid (∀ r ∈ R, r.ok) := by rw [hR]; exact (Elim.nat.1 HEL).2
  have HPN : Hid (pv.length = n4) := by unfold Hid; rw [Hn4.out, hll, pvs_length]
  have HPP : Hid (n4 ≤ P) := by have h1 := est_pv_le' (P := P) (K := K) rs K; rw [← hpv, HPN.out] at h1; exact h1
  have HPK : Hid (∀ x ∈ pv, x < K) := by rw [hpv]; exact (est_asc (P := P) rs K).2
  have HR3 : Hid (Reads W2 B1 (ivals pv)) := by have h1 := HR2.out; rw [hll, pvs_vals] at h1; exact h1
  have HI3 : Hid (InV W2 A1 N4 R) := by have h1 := HI2.out; rw [hrr] at h1; exact h1
  have HEE := Lib.hid HEL
  have HPVE := Lib.hid hpv
  have HRE := Lib.hid hR
  have hs02 := BW_2.out.size
  clear HEL hrr hll hpv hR HM HQR HR2 HI2
  have hm0s := hm0_2.out.lt
  go_wp2_with fail
  rw [← hW2]
  clear em0 em1 em2 hW2
  go_loopw [7, 19] (fun x y wr => ∃ (i m : Nat) (Rs : List (Value × List El)) (A3 : Option Addr) (c3 : Nat), i ≤ K ∧ m ≤ i ∧ y = .int .i64 i ∧ x = .slice A3 m c3 ∧ Hid (OwnVV wr W2.heap.size (.slice A3 m c3) m Rs) ∧ Hid (HasVV Rs (nulls K R pv i)) ∧ Hid (Below W2.heap.size W2 wr)) (fun _ y _ => K - (intOf y).toNat)
  case atStart => exact ⟨0, 0, [], none, 0, Nat.zero_le _, Nat.le_refl _, rfl, rfl, OwnVV.none_ _ _, trivial, Below.refl _ _⟩
  case round =>
    obtain ⟨i, m, Rs, A3, c3, hle, hmi, rfl, rfl, ho, hh, hb⟩ := hrel
    by_cases hlt : i < K
    · have hi0 : (0 : Int) ≤ (i : Int) := by omega
      have hi1 : (i : Int) < (K : Int) := by omega
      have HRr := Lib.hid (HR3.out.below hb.out)
      go_wp2_with fail
      refine (contains_int B1 n4 d1 pv i _ HPN.out hn420 HRr.out).mono ?_
      rintro e w3 ⟨bc, rfl, hbc, rfl⟩
      cases bc
      case true =>
        have HH : Hid (HasVV Rs (nulls K R pv (i + 1))) := by unfold Hid; rw [nulls_in (hbc.1 rfl)]; exact hh.out
        clear hbc
        go_wp2_with fail
        go_roundw
        case rel => exact ⟨i + 1, m, Rs, A3, c3, by omega, by omega, by go_num, rfl, ho, HH, hb⟩
        case measure => simp [intOf]; omega
      have HNI : Hid (¬ i ∈ pv) := fun h => (by have h1 := hbc.2 h; cases h1)
      have HIr := Lib.hid (HI3.out.below hb.out)
      have X_r := Lib.hid (X_2.out.below hb.out X_2.out.lt)
      have ex0 := X_r.out.cell 0
      have ex1 := X_r.out.cell 1
      have ex2 := X_r.out.cell 2
      simp at ex0 ex1 ex2
      clear hbc
      go_wp2_with fail
      clear ex0 ex1 ex2
      refine (impl_nullVector P K A1 N4 c1 R B1 n4 d1 pv i _ HIr.out HRL.out hcap HRK.out HRr.out HPN.out HPP.out HPK.out hP24 hK24 hlt).mono ?_
      rintro e w4 ⟨rv, Vv, rfl, hrv, ⟨hl1, hf1, Lv, hov, hhv⟩, hb4⟩
      have HOv := Lib.hid (hov.lower hb.out.size)
      have HHv : Hid (HasVV (Rs ++ [(Vv, Lv)]) (nulls K R pv (i + 1))) := by
        unfold Hid
        rw [nulls_new HNI.out]
        refine hh.out.append ⟨?_, trivial⟩
        rw [HPN.out, ← hrv]
        exact hhv
      have HFv : Hid (∀ q ∈ Rs, ∀ k, footV q.1 q.2 k → ¬ footV Vv Lv k) := fun q hq k hk hk' => by
        obtain ⟨mq, hoq⟩ := ho.out.2.2.1 q hq
        have h1 := (hoq.lt k hk).2
        have h2 := (hov.lt k hk').1
        omega
      have HO4 := Lib.hid (ho.out.below hb4)
      have HB4 := Lib.hid (hb.out.trans (hb4.mono hb.out.size))
      obtain ⟨Nv, hNv⟩ : ∃ Nv, Nv = rv.length := ⟨_, rfl⟩
      rw [← hNv] at HOv
      obtain ⟨A6, c6, rfl⟩ := HOv.out.slice
      clear hrv hl1 hf1 hov hhv hb4 hNv
      go_wp2_with (at_builtin; refine wpList_append_vv rfl _ _ 64 rfl W2.heap.size j0 Tryz.underlying64 hj hy0 hy1 hy2 _ m Rs rfl HO4.out (.slice A6 Nv c6, Lv) rfl ⟨_, HOv.out⟩ HFv.out rfl (by unfold maxLen; omega) (by omega) HB4.out.size _ ?_)
      intro V' w5 s1 hg
      obtain ⟨A5, c5, rfl⟩ := s1.slice
      have HO5 := Lib.hid s1
      have HB5 : Hid (Below W2.heap.size W2 w5) := by
        have h1 : Below W2.heap.size W2 (w4.alloc (.cells #[.slice A6 Nv c6] 23)) := HB4.out.alloc HB4.out.size _
        exact h1.grown hg h1.size (fun k hk => (HO4.out.2.1.lt k hk).1)
      clear s1 hg
      go_wp2_with fail
      go_roundw
      case rel => exact ⟨i + 1, m + 1, _, A5, c5, by omega, by omega, by go_num, rfl, HO5, HHv, HB5⟩
      case measure => simp [intOf]; omega
    · obtain rfl : i = K := by omega
      have hml : m = (nulls i R pv i).length := by rw [← hh.out.length]; exact ho.out.1.symm
      have HF : Hid (NullEnd (NullVectorsIs P i rs) w wr (.returned (.tuple #[.slice A3 m c3, .bool true]))) := by
        refine ⟨nulls i R pv i, _, true, rfl, .inl ⟨HEE.out, by rw [fin_nat', ← HPVE.out, ← HRE.out]; rfl, rfl⟩, ⟨by have := nulls_le i R pv i; omega, nulls_goods hK24 R pv i, Rs, ?_, hh.out⟩, BW_2.out.trans (hb.out.mono BW_2.out.size)⟩
        rw [← hml]
        exact ho.out.lower hs02
      clear hml
      go_wp2_with fail
      go_ret2
      exact HF.out
end Go.Proofs.YthjbfdifeffilaaGreat
