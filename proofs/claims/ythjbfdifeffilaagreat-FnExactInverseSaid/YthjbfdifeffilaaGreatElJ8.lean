/- Contracts of the elimination, by the program: Inverse, SolveSystem. -/
import Derived.Test.YthjbfdifeffilaaGreatElJ7
namespace Go.Proofs.YthjbfdifeffilaaGreat
set_option maxRecDepth 100000
open Go.RowKit

/-- A list that a call has handed back, to be handed on. -/
theorem resV_in8 {w w' : World} {V : Value} {rs : List RD} {n : Nat} (h : ResV w w' V rs) (hn : rs.length = n) : ∃ A c, V = .slice A n c ∧ n ≤ c ∧ InV w' A n rs := by
  obtain ⟨h1, h2, L, ho, hh⟩ := h
  rw [hn] at ho h1
  obtain ⟨A, c, rfl⟩ := ho.slice
  exact ⟨A, c, rfl, own_le ho.2.1, ho.in_ hh (by omega) h2⟩
theorem ident_all {n : Nat} : ∀ x ∈ ident n, x.ok := by
  intro x hx
  unfold ident at hx
  obtain ⟨t, _, rfl⟩ := List.mem_map.1 hx
  split
  · rw [rint1]; exact R1_ok
  · rw [rint0]; exact R0_ok
theorem ident_mok {n : Nat} (h : n ≤ 24) : MOk n n (ident n) := mok_of h h (by simp [ident]) ident_all
theorem inverse_of {p k : Int} {rs : List RD} {q j : Int} {ss : List RD} {a b : Int} {r : List RD} {ok : Bool} (hi : IdentityMatrixIs p q j ss) (h : SolveForIs p k rs q j ss a b r ok) : InverseIs p k rs a b r ok := by
  rcases hi with ⟨⟨h0, h24⟩, rfl, rfl, rfl⟩ | ⟨hno, rfl, rfl, rfl⟩
  · have hid : MOk j j (ident j.toNat) := by
      obtain ⟨n, rfl⟩ : ∃ n : Nat, j = n := ⟨j.toNat, by omega⟩
      exact ident_mok (by omega)
    rcases h with ⟨⟨⟨h1, _, h3, h4⟩, h5⟩, h6⟩ | ⟨h1, h6⟩
    · exact .inl ⟨⟨⟨h1, h3, h4⟩, h5⟩, h6⟩
    · exact .inr ⟨fun h => h1 ⟨⟨h.1.1, hid, h.1.2.1, h.1.2.2⟩, h.2⟩, h6⟩
  · rcases h with ⟨⟨⟨h1, _⟩, _⟩, _⟩ | ⟨_, h6⟩
    · exact absurd h1.1 hno
    · exact .inr ⟨fun h => hno h.1.1.1, h6⟩
theorem ident_rng {p q j : Int} {ss : List RD} (hp : -9223372036854775808 ≤ p ∧ p ≤ 9223372036854775807) (hi : IdentityMatrixIs p q j ss) : (-9223372036854775808 ≤ q ∧ q ≤ 9223372036854775807) ∧ (-9223372036854775808 ≤ j ∧ j ≤ 9223372036854775807) := by
  rcases hi with ⟨_, rfl, rfl, _⟩ | ⟨_, rfl, rfl, _⟩
  · exact ⟨hp, hp⟩
  · exact ⟨by omega, by omega⟩
theorem ident_q {p q j : Int} {ss : List RD} (k : Int) (rs : List RD) (hi : IdentityMatrixIs p q j ss) : MOk p k rs → MOk q j ss → q = p := fun h1 _ => by
  rcases hi with ⟨_, h, _⟩ | ⟨h2, _⟩
  · exact h
  · exact absurd h1.1 h2
theorem ident_j {p q j : Int} {ss : List RD} (k : Int) (rs : List RD) (hi : IdentityMatrixIs p q j ss) : MOk p k rs → MOk q j ss → p ≤ 12 → j ≤ 12 ∧ (0 < p → 0 < j) := fun h1 _ h12 => by
  rcases hi with ⟨_, _, h, _⟩ | ⟨h2, _⟩
  · rw [h]; exact ⟨h12, fun h => h⟩
  · exact absurd h1.1 h2
theorem solve_of {p k : Int} {rs vs : List RD} {a b : Int} {r : List RD} {ok : Bool} (h : SolveForIs p k rs p 1 vs a b r ok) : SolveSystemIs p k rs vs r ok := by
  have key : MOk p k rs → (MOk p 1 vs ↔ VOk vs ∧ (vs.length : Int) = p) := fun hm => by
    have hp := hm.1
    constructor
    · intro h1
      have h2 := h1.2.2.1
      rw [Int.mul_one] at h2
      exact ⟨⟨by omega, h1.2.2.2⟩, h2⟩
    · intro h1
      exact ⟨hp, by omega, by rw [Int.mul_one]; exact h1.2, h1.1.2⟩
  rcases h with ⟨⟨⟨h1, h2, h3, h4⟩, h5⟩, _, _, h6⟩ | ⟨h1, _, _, h6⟩
  · have h7 := (key h1).1 h2
    exact .inl ⟨⟨⟨h1, h3, h4, h7.1, h7.2⟩, h5⟩, h6⟩
  · exact .inr ⟨fun h => h1 ⟨⟨h.1.1, (key h.1.1).2 ⟨h.1.2.2.2.1, h.1.2.2.2.2⟩, h.1.2.1, h.1.2.2.1⟩, h.2⟩, h6⟩
set_option maxHeartbeats 6400000 in
theorem impl_inverse0 (p k : Int) (A : Option Addr) (n c : Nat) (rs : List RD) (w : World) (h : InV w A n rs) (hp : -9223372036854775808 ≤ p ∧ p ≤ 9223372036854775807) (hk : -9223372036854775808 ≤ k ∧ k ≤ 9223372036854775807) (hc : n ≤ c) :
    Calls Tryz.prog 43 #[.agg #[.int .i64 p, .int .i64 k, .slice A n c]] w fun e w' => MatOkEnd (InverseIs p k rs) w w' e := by
  obtain ⟨W0, hW0⟩ : ∃ W, W = ((w.alloc (.cells #[.int .i64 p, .int .i64 k, .slice A n c] 25)).alloc (.cells #[.int .i64 0, .int .i64 0, .slice none 0 0] 25)) := ⟨_, rfl⟩
  have hm0_0 : Hid (Box W0 (w.heap.size) 25 #[.int .i64 p, .int .i64 k, .slice A n c]) := by rw [hW0]; exact ((Box.at' (by simp)).alloc _)
  have ht_0 : Hid (Box W0 (w.heap.size + 1) 25 #[.int .i64 0, .int .i64 0, .slice none 0 0]) := by rw [hW0]; exact (Box.at' (by simp))
  have BW_0 : Hid (Below w.heap.size w W0) := by rw [hW0]; exact (((Below.refl w.heap.size w).alloc (by simp) _).alloc (by simp) _)
  have hsz0 : w.heap.size + 1 + 1 ≤ W0.heap.size := by rw [hW0]; simp
  have HV := Lib.hid (h.below BW_0.out)
  clear h
  go_enter Tryz.func43, Tryz.ntmps43
  go_upto_region 1 with fail
  rw [← hW0]
  clear hW0
  have D_0 := Lib.hid hm0_0.out.drew
  have T_0 := Lib.hid ht_0.out.drew
  have B_0 := Lib.hid BW_0.out.drew
  have V_0 : Hid (InV W0.drew A n rs) := HV.out.below (Below.refl _ _).drew
  have hne : w.heap.size ≠ w.heap.size + 1 := by omega
  go_region_held3 (fun w' => w'.cell? ⟨w.heap.size, 0, none⟩ = some (.int .i64 p) ∧ w'.cell? ⟨w.heap.size, 1, none⟩ = some (.int .i64 k) ∧ w'.cell? ⟨w.heap.size, 2, none⟩ = some (.slice A n c)) (first | with_reducible exact box3_far D_3 | with_reducible exact box3_far D_2 | with_reducible exact box3_far D_1 | with_reducible exact box3_far D_0) (first | (go_at_call 54; (with_reducible refine (impl_identityMatrix0 p _ hp).mono ?_); rintro e w1 ⟨q, j, r, V, rfl, hq1, hr1, hb1⟩; obtain ⟨N1, hN1⟩ : ∃ N1, r.length = N1 := ⟨_, rfl⟩; obtain ⟨A1, c1, rfl, hc1, hi1⟩ := resV_in8 hr1 hN1; have HQ1 := Lib.hid hq1; have HI1 := Lib.hid hi1; obtain ⟨hqr, hjr⟩ := ident_rng hp hq1; have HQP := Lib.hid (ident_q k rs hq1); have HJJ := Lib.hid (ident_j k rs hq1); have V_1 := Lib.hid (V_0.out.below hb1); have D_1 := Lib.hid (D_0.out.below hb1 D_0.out.lt); have T_1 := Lib.hid (T_0.out.below hb1 T_0.out.lt); have B_1 := Lib.hid (B_0.out.trans (hb1.mono B_0.out.size)); clear hq1 hr1 hN1 hi1 hb1) | (go_at_call 97; (with_reducible refine (impl_solveFor p k A n c rs q j A1 N1 c1 r _ V_1.out hp hk hc HI1.out hqr hjr hc1 HQP.out HJJ.out).mono ?_); rintro e w2 ⟨a, b, rr, V, ok, rfl, hq2, ⟨hl2, hf2, L2, ho2, hh2⟩, hb2⟩; obtain ⟨N2, hN2⟩ : ∃ N2, N2 = rr.length := ⟨_, rfl⟩; rw [← hN2] at ho2; obtain ⟨A2, c2, rfl⟩ := ho2.slice; have HQ2 := Lib.hid (inverse_of HQ1.out hq2); have ht_2 := Lib.hid (T_1.out.below hb2 T_1.out.lt); have BW_2 := Lib.hid (B_1.out.trans (hb2.mono B_1.out.size)); have HO2 := Lib.hid (ho2.lower B_1.out.size); have HH2 := Lib.hid hh2; have HL2 := Lib.hid hl2; have HF2 := Lib.hid hf2; have HN2 := Lib.hid hN2; have D_2 := Lib.hid (D_1.out.below hb2 D_1.out.lt); have D_3 := Lib.hid (D_2.out.set3 hne 0 1 2 (.int .i64 a) (.int .i64 b) (.slice A2 N2 c2)); have eht0 := ht_2.out.cell 0; have eht1 := ht_2.out.cell 1; have eht2 := ht_2.out.cell 2; simp at eht0 eht1 eht2; have fht0 := ht_2.out.free 0; have fht1 := ht_2.out.free 1; have fht2 := ht_2.out.free 2; clear hq2 hl2 hf2 ho2 hh2 hb2 hN2))
  all_goals
    go_wp2_with fail
    refine bodyPost_ret (v := .tuple #[.agg #[.int .i64 a, .int .i64 b, .slice A2 N2 c2], .bool ok]) (by simp [results, Tryz.results43, eht0, eht1, eht2, go_sem]) rfl ?_
    exact ⟨a, b, rr, _, ok, rfl, HQ2.out, ⟨HL2.out, HF2.out, L2, by rw [← HN2.out]; exact HO2.out.box_set3 ht_2.out _ _ _, HH2.out⟩, below_store3 BW_2.out (by omega) _ _ _⟩
theorem impl_inverse (p k : Int) (A : Option Addr) (n c : Nat) (rs : List RD) (w : World) (h : InV w A n rs) (hp : -9223372036854775808 ≤ p ∧ p ≤ 9223372036854775807) (hk : -9223372036854775808 ≤ k ∧ k ≤ 9223372036854775807) (hc : n ≤ c) :
    Calls Tryz.prog 43 #[.agg #[.int .i64 p, .int .i64 k, .slice A n c]] w fun e w' => ∃ q j r V b, e = .returned (.tuple #[.agg #[.int .i64 q, .int .i64 j, V], .bool b]) ∧ InverseIs p k rs q j r b ∧ ResV w w' V r ∧ Below w.heap.size w w' := (impl_inverse0 p k A n c rs w h hp hk hc).mono fun _ _ h => h
set_option maxHeartbeats 3200000 in
theorem impl_solveSystem0 (p k : Int) (A : Option Addr) (n c : Nat) (rs : List RD) (B : Option Addr) (m d : Nat) (vs : List RD) (w : World) (h1 : InV w A n rs) (hp : -9223372036854775808 ≤ p ∧ p ≤ 9223372036854775807) (hk : -9223372036854775808 ≤ k ∧ k ≤ 9223372036854775807) (hc : n ≤ c) (h2 : InV w B m vs) (hd : m ≤ d) :
    Calls Tryz.prog 45 #[.agg #[.int .i64 p, .int .i64 k, .slice A n c], .slice B m d] w fun e w' => VecOkEnd (SolveSystemIs p k rs vs) w w' e := by
  obtain ⟨W0, hW0⟩ : ∃ W, W = (w.alloc (.cells #[.int .i64 p, .int .i64 k, .slice A n c] 25)) := ⟨_, rfl⟩
  have hm0_0 : Hid (Box W0 (w.heap.size) 25 #[.int .i64 p, .int .i64 k, .slice A n c]) := by rw [hW0]; exact (Box.at' (by simp))
  have BW_0 : Hid (Below w.heap.size w W0) := by rw [hW0]; exact ((Below.refl w.heap.size w).alloc (by simp) _)
  have hsz0 : w.heap.size + 1 ≤ W0.heap.size := by rw [hW0]; simp
  have HV := Lib.hid (h1.below BW_0.out)
  have HW := Lib.hid (h2.below BW_0.out)
  clear h1 h2
  go_enter Tryz.func45, Tryz.ntmps45
  go_wp2_with fail
  rw [← hW0]
  clear hW0
  refine (impl_solveFor p k A n c rs p 1 B m d vs _ HV.out hp hk hc HW.out hp (by omega) hd (fun _ _ => rfl) (fun _ _ _ => ⟨by omega, fun _ => by omega⟩)).mono ?_
  rintro e w2 ⟨a, b, rr, V, ok, rfl, hq2, ⟨hl2, hf2, L2, ho2, hh2⟩, hb2⟩
  obtain ⟨N2, hN2⟩ : ∃ N2, N2 = rr.length := ⟨_, rfl⟩
  rw [← hN2] at ho2
  obtain ⟨A2, c2, rfl⟩ := ho2.slice
  have BW_2 := Lib.hid (BW_0.out.trans (hb2.mono BW_0.out.size))
  have HF : Hid (∀ W, Below w2.heap.size w2 W → VecOkEnd (SolveSystemIs p k rs vs) w W (.returned (.tuple #[.slice A2 N2 c2, .bool ok]))) := fun W hW => ⟨rr, _, ok, rfl, solve_of hq2, ⟨hl2, hf2, L2, by rw [← hN2]; exact (ho2.lower BW_0.out.size).below hW, hh2⟩, BW_2.out.trans (hW.mono BW_2.out.size)⟩
  obtain ⟨W3, hW3⟩ : ∃ W, W = w2.alloc (.cells #[.int .i64 a, .int .i64 b, .slice A2 N2 c2] 25) := ⟨_, rfl⟩
  have hbx : Hid (Below w2.heap.size w2 W3) := by rw [hW3]; exact (Below.refl _ _).alloc (Nat.le_refl _) _
  clear hq2 hl2 hf2 ho2 hh2 hb2 hN2
  go_wp2_with fail
  rw [← hW3]
  go_ret2
  exact HF.out _ hbx.out
theorem impl_solveSystem (p k : Int) (A : Option Addr) (n c : Nat) (rs : List RD) (B : Option Addr) (m d : Nat) (vs : List RD) (w : World) (h1 : InV w A n rs) (hp : -9223372036854775808 ≤ p ∧ p ≤ 9223372036854775807) (hk : -9223372036854775808 ≤ k ∧ k ≤ 9223372036854775807) (hc : n ≤ c) (h2 : InV w B m vs) (hd : m ≤ d) :
    Calls Tryz.prog 45 #[.agg #[.int .i64 p, .int .i64 k, .slice A n c], .slice B m d] w fun e w' => ∃ r V b, e = .returned (.tuple #[V, .bool b]) ∧ SolveSystemIs p k rs vs r b ∧ ResV w w' V r ∧ Below w.heap.size w w' := (impl_solveSystem0 p k A n c rs B m d vs w h1 hp hk hc h2 hd).mono fun _ _ h => h
end Go.Proofs.YthjbfdifeffilaaGreat
