/- Contracts of symmetric matrices: QuadraticForm, by the program and by the model. -/
import Derived.Test.YthjbfdifeffilaaGreatSym
import Derived.Test.YthjbfdifeffilaaGreatMatI6
import Derived.Test.YthjbfdifeffilaaGreatMatS6
import Derived.Test.YthjbfdifeffilaaGreatVecB2
import Derived.Test.YthjbfdifeffilaaGreatVecB3
namespace Go.Proofs.YthjbfdifeffilaaGreat
set_option maxRecDepth 100000
open Go.RowKit

/-- A fraction and a truth, handed back: the fraction came from a call. -/
theorem ratOkEnd_store {Q : Bool → List Int → List Int → Bool → Prop} {w W : World} {gb base : Nat} {cs : Array Value} {g : Bool} {r dd : List Int} {A B : Option Addr} {c d : Nat} {b : Bool} (hbx : Box W gb 35 cs) (hg : w.heap.size ≤ gb) (hb : Below w.heap.size w W) (hQ : Q g r dd b) (h4 : r.length ≤ 4194304) (h4' : dd.length ≤ 4194304)
    (h1 : W.ownsRow base 3 1 (.slice A r.length c) r.length (r.map (.int .i64))) (h2 : W.ownsRow base 3 1 (.slice B dd.length d) dd.length (dd.map (.int .i64))) (hba : w.heap.size ≤ base) (hap : Apart (.slice B dd.length d) (.slice A r.length c)) :
    RatOkEnd Q w (((W.setCell ⟨gb, 0, none⟩ (.bool g)).setCell ⟨gb, 1, none⟩ (.slice A r.length c)).setCell ⟨gb, 2, none⟩ (.slice B dd.length d)) (.returned (.tuple #[.agg #[.bool g, .slice A r.length c, .slice B dd.length d], .bool b])) := by
  obtain ⟨g, l, v, e, u, h1, h2, h3, h4, h5, h6⟩ := ratEnd_store (Q := fun g l d => Q g l d b) hbx hg hb hQ rfl rfl h4 h4' h1 hba h2 hba hap
  cases h1
  exact ⟨_, l, _, e, _, b, rfl, h2, h3, h4, h5, h6⟩
set_option maxHeartbeats 3200000 in
theorem impl_quadraticForm0 (p k : Int) (A : Option Addr) (n c : Nat) (rs : List RD) (B : Option Addr) (m d : Nat) (vs : List RD) (w : World) (h1 : InV w A n rs) (hp : -9223372036854775808 ≤ p ∧ p ≤ 9223372036854775807) (hk : -9223372036854775808 ≤ k ∧ k ≤ 9223372036854775807) (hc : n ≤ c) (h2 : InV w B m vs) :
    Calls Tryz.prog 21 #[.agg #[.int .i64 p, .int .i64 k, .slice A n c], .slice B m d] w fun e w' => RatOkEnd (QuadraticFormIs p k rs vs) w w' e := by
  obtain ⟨W0, hW0⟩ : ∃ W, W = ((w.alloc (.cells #[.int .i64 p, .int .i64 k, .slice A n c] 25)).alloc (.cells #[.bool false, .slice none 0 0, .slice none 0 0] 35)) := ⟨_, rfl⟩
  have hm0_0 : Hid (Box W0 (w.heap.size) 25 #[.int .i64 p, .int .i64 k, .slice A n c]) := by rw [hW0]; exact ((Box.at' (by simp)).alloc _)
  have hs_0 : Hid (Box W0 (w.heap.size + 1) 35 #[.bool false, .slice none 0 0, .slice none 0 0]) := by rw [hW0]; exact (Box.at' (by simp))
  have BW_0 : Hid (Below w.heap.size w W0) := by rw [hW0]; exact (((Below.refl w.heap.size w).alloc (by simp) _).alloc (by simp) _)
  have hsz0 : w.heap.size + 1 + 1 ≤ W0.heap.size := by rw [hW0]; simp
  have HV := Lib.hid (h1.below BW_0.out)
  have HW := Lib.hid (h2.below BW_0.out)
  clear h1 h2
  go_enter Tryz.func21, Tryz.ntmps21
  go_wp2_with fail
  rw [← hW0]
  clear hW0
  refine (impl_applyMatrix0 p k A n c rs B m d vs _ HV.out hp hk hc HW.out).mono ?_
  rintro e w1 ⟨r, V, b, rfl, hq, hr, hb⟩
  obtain ⟨N1, hN1⟩ : ∃ N1, r.length = N1 := ⟨_, rfl⟩
  obtain ⟨A1, c1, rfl, hc1, hi1⟩ := resV_in hr hN1
  have HI := Lib.hid hi1
  have HQ := Lib.hid hq
  have hs_1 := Lib.hid (hs_0.out.below hb hs_0.out.lt)
  have BW_1 := Lib.hid (BW_0.out.trans (hb.mono BW_0.out.size))
  replace HW := Lib.hid (HW.out.below hb)
  clear hb
  clear hq hr hN1 hi1
  cases b
  case false =>
    have ehs0 := hs_1.out.cell 0
    have ehs1 := hs_1.out.cell 1
    have ehs2 := hs_1.out.cell 2
    have fhs0 := hs_1.out.free 0
    have fhs1 := hs_1.out.free 1
    have fhs2 := hs_1.out.free 2
    simp at ehs0 ehs1 ehs2
    have HZ : Hid (QuadraticFormIs p k rs vs false [] [] false) := quad_no HQ.out
    go_wp2_with fail
    refine bodyPost_ret (v := .tuple #[.agg #[.bool false, .slice none 0 0, .slice none 0 0], .bool false]) (by simp [results, Tryz.results21, ehs0, ehs1, ehs2, go_sem]) rfl ?_
    exact ratOkEnd_zero HZ.out (below_store3 BW_1.out (by omega) _ _ _)
  go_wp2_with fail
  refine (impl_innerProduct0 B m d vs A1 N1 c1 r _ HW.out HI.out).mono ?_
  rintro e w2 ⟨g, rr, v, dd, u, b, rfl, hq, q1, q2, hap, hb⟩
  obtain ⟨A6, c6, rfl⟩ := own_slice q1.2
  obtain ⟨B6, d6, rfl⟩ := own_slice q2.2
  have HQ2 : Hid (QuadraticFormIs p k rs vs g rr dd b) := quad_of HQ.out hq
  have hsz1 := BW_1.out.size
  have HO1 := Lib.hid q1
  have HO2 := Lib.hid q2
  have HAP := Lib.hid hap
  have hs_2 := Lib.hid (hs_1.out.below hb hs_1.out.lt)
  have BW_2 := Lib.hid (BW_1.out.trans (hb.mono BW_1.out.size))
  clear hb
  have ehs0 := hs_2.out.cell 0
  have ehs1 := hs_2.out.cell 1
  have ehs2 := hs_2.out.cell 2
  have fhs0 := hs_2.out.free 0
  have fhs1 := hs_2.out.free 1
  have fhs2 := hs_2.out.free 2
  simp at ehs0 ehs1 ehs2
  have hl1 := q1.1
  have hl2 := q2.1
  clear hq q1 q2 hap
  go_wp2_with fail
  refine bodyPost_ret (v := .tuple #[.agg #[.bool g, .slice A6 rr.length c6, .slice B6 dd.length d6], .bool b]) (by simp [results, Tryz.results21, ehs0, ehs1, ehs2, go_sem]) rfl ?_
  exact ratOkEnd_store hs_2.out (by omega) BW_2.out HQ2.out HO1.out.1 HO2.out.1 HO1.out.2 HO2.out.2 hsz1 HAP.out
theorem impl_quadraticForm (p k : Int) (A : Option Addr) (n c : Nat) (rs : List RD) (B : Option Addr) (m d : Nat) (vs : List RD) (w : World) (h1 : InV w A n rs) (hp : -9223372036854775808 ≤ p ∧ p ≤ 9223372036854775807) (hk : -9223372036854775808 ≤ k ∧ k ≤ 9223372036854775807) (hc : n ≤ c) (h2 : InV w B m vs) :
    Calls Tryz.prog 21 #[.agg #[.int .i64 p, .int .i64 k, .slice A n c], .slice B m d] w fun e w' => ∃ g r v d u b, e = .returned (.tuple #[.agg #[.bool g, v, u], .bool b]) ∧ QuadraticFormIs p k rs vs g r d b ∧ ResI w w' v r ∧ ResI w w' u d ∧ Apart u v ∧ Below w.heap.size w w' := (impl_quadraticForm0 p k A n c rs B m d vs w h1 hp hk hc h2).mono fun _ _ h => h.said
set_option maxHeartbeats 3200000 in
theorem spec_quadraticForm0 (p k : Int) (A : Option Addr) (n c : Nat) (rs : List RD) (B : Option Addr) (m d : Nat) (vs : List RD) (w : World) (h1 : InV w A n rs) (hp : -9223372036854775808 ≤ p ∧ p ≤ 9223372036854775807) (hk : -9223372036854775808 ≤ k ∧ k ≤ 9223372036854775807) (hc : n ≤ c) (h2 : InV w B m vs) :
    Calls Tryz.prog 37 #[.agg #[.int .i64 p, .int .i64 k, .slice A n c], .slice B m d] w fun e w' => RatOkEnd (QuadraticFormIs p k rs vs) w w' e := by
  obtain ⟨W0, hW0⟩ : ∃ W, W = ((w.alloc (.cells #[.int .i64 p, .int .i64 k, .slice A n c] 25)).alloc (.cells #[.bool false, .slice none 0 0, .slice none 0 0] 35)) := ⟨_, rfl⟩
  have hm0_0 : Hid (Box W0 (w.heap.size) 25 #[.int .i64 p, .int .i64 k, .slice A n c]) := by rw [hW0]; exact ((Box.at' (by simp)).alloc _)
  have hs_0 : Hid (Box W0 (w.heap.size + 1) 35 #[.bool false, .slice none 0 0, .slice none 0 0]) := by rw [hW0]; exact (Box.at' (by simp))
  have BW_0 : Hid (Below w.heap.size w W0) := by rw [hW0]; exact (((Below.refl w.heap.size w).alloc (by simp) _).alloc (by simp) _)
  have hsz0 : w.heap.size + 1 + 1 ≤ W0.heap.size := by rw [hW0]; simp
  have HV := Lib.hid (h1.below BW_0.out)
  have HW := Lib.hid (h2.below BW_0.out)
  clear h1 h2
  go_enter Tryz.func37, Tryz.ntmps37
  go_wp2_with fail
  rw [← hW0]
  clear hW0
  refine (spec_applyMatrix0 p k A n c rs B m d vs _ HV.out hp hk hc HW.out).mono ?_
  rintro e w1 ⟨r, V, b, rfl, hq, hr, hb⟩
  obtain ⟨N1, hN1⟩ : ∃ N1, r.length = N1 := ⟨_, rfl⟩
  obtain ⟨A1, c1, rfl, hc1, hi1⟩ := resV_in hr hN1
  have HI := Lib.hid hi1
  have HQ := Lib.hid hq
  have hm0_1 := Lib.hid (hm0_0.out.below hb hm0_0.out.lt)
  have hs_1 := Lib.hid (hs_0.out.below hb hs_0.out.lt)
  have BW_1 := Lib.hid (BW_0.out.trans (hb.mono BW_0.out.size))
  replace HW := Lib.hid (HW.out.below hb)
  clear hb
  clear hq hr hN1 hi1
  have ehm00 := hm0_1.out.cell 0
  have ehm01 := hm0_1.out.cell 1
  have ehm02 := hm0_1.out.cell 2
  have ehs0 := hs_1.out.cell 0
  have ehs1 := hs_1.out.cell 1
  have ehs2 := hs_1.out.cell 2
  have fhs0 := hs_1.out.free 0
  have fhs1 := hs_1.out.free 1
  have fhs2 := hs_1.out.free 2
  simp at ehm00 ehm01 ehm02 ehs0 ehs1 ehs2
  cases b
  case false =>
    have HZ : Hid (QuadraticFormIs p k rs vs false [] [] false) := quad_no HQ.out
    go_wp2_with fail
    refine bodyPost_ret (v := .tuple #[.agg #[.bool false, .slice none 0 0, .slice none 0 0], .bool false]) (by simp [results, Tryz.results37, ehs0, ehs1, ehs2, go_sem]) rfl ?_
    exact ratOkEnd_zero HZ.out (below_store3 BW_1.out (by omega) _ _ _)
  by_cases hpk : p = k
  case neg =>
    have hf : (p != k) = true := by simp; exact hpk
    have HZ : Hid (QuadraticFormIs p k rs vs false [] [] false) := ratDone_no fun h => hpk h.2.1
    clear hpk
    go_wp2_with fail
    refine bodyPost_ret (v := .tuple #[.agg #[.bool false, .slice none 0 0, .slice none 0 0], .bool false]) (by simp [results, Tryz.results37, ehs0, ehs1, ehs2, go_sem]) rfl ?_
    exact ratOkEnd_zero HZ.out (below_store3 BW_1.out (by omega) _ _ _)
  subst hpk
  have hf : (p != p) = false := by simp
  have HC : Hid (((MOk p p rs ∧ VOk vs ∧ (vs.length : Int) = p) ∧ p = p ∧ ∀ x ∈ mapp p.toNat p.toNat rs vs, x.ok) ∧ r = mapp p.toNat p.toNat rs vs) := by
    rcases HQ.out with ⟨⟨h1, h2⟩, h3, _⟩ | ⟨_, _, h⟩
    · exact ⟨⟨h1, rfl, h2⟩, h3⟩
    · cases h
  have HP : Hid (PairOk vs r) := by
    obtain ⟨⟨⟨h1, h2, h3⟩, _, h4⟩, h5⟩ := HC.out
    have hp2 := h1.1
    have hlen : (mapp p.toNat p.toNat rs vs).length = p.toNat := by simp [mapp]
    rw [h5]
    exact ⟨h2, ⟨by rw [hlen]; omega, h4⟩, by rw [hlen]; omega⟩
  go_wp2_with fail
  clear ehm00 ehm01 ehm02 ehs0 fhs0 ehs1 fhs1 ehs2 fhs2
  refine (spec_l05Inner B m d vs A1 N1 c1 r _ HW.out HI.out HP.out).mono ?_
  rintro e w3 ⟨g, rr, v, dd, u, rfl, hq, q1, q2, hap, hb⟩
  obtain ⟨A6, c6, rfl⟩ := own_slice q1.2
  obtain ⟨B6, d6, rfl⟩ := own_slice q2.2
  have hs_3 := Lib.hid (hs_1.out.below hb hs_1.out.lt)
  have BW_3 := Lib.hid (BW_1.out.trans (hb.mono BW_1.out.size))
  clear hb
  obtain ⟨q, hqq⟩ : ∃ q, q = RD.mk g rr dd := ⟨_, rfl⟩
  have HG : Hid (q.ok ∨ q = RD.zero) := by rw [hqq, hq]; exact rsum_good _ _
  have HIN : Hid (rinner vs (mapp p.toNat p.toNat rs vs) = q) := by rw [hqq, ← HC.out.2]; exact hq.symm
  have S0 : Hid (RSum (w3.alloc (.cells #[.bool g, .slice A6 rr.length c6, .slice B6 dd.length d6] 35)).drew w.heap.size w3.heap.size q A6 c6 B6 d6) := by
    rw [hqq]
    exact RSum.drew ⟨Box.new _ _ _, own_base (q1.2.alloc _) BW_1.out.size, own_base (q2.2.alloc _) BW_1.out.size, hap⟩
  have eg : g = q.g := by rw [hqq]
  have er : rr = q.xs := by rw [hqq]
  have ed : dd = q.ds := by rw [hqq]
  have hs_4 := Lib.hid (hs_3.out.alloc (.cells #[.bool q.g, .slice A6 q.xs.length c6, .slice B6 q.ds.length d6] 35)).drew
  have BW_4 := Lib.hid (BW_3.out.alloc BW_3.out.size (.cells #[.bool q.g, .slice A6 q.xs.length c6, .slice B6 q.ds.length d6] 35)).drew
  have HNE : Hid (w3.heap.size ≠ w.heap.size + 1) := by have := hs_3.out.lt; unfold Hid; omega
  have hsh := (RD.gr HG.out).short
  have hsh1 := hsh.1
  have hsh2 := hsh.2
  clear hq q1 q2 hap hqq hsh
  subst eg er ed
  go_wp2_with fail
  go_region_held3 (fun w' => w'.cell? ⟨w3.heap.size, 0, none⟩ = some (.bool q.g) ∧ w'.cell? ⟨w3.heap.size, 1, none⟩ = some (.slice A6 q.xs.length c6) ∧ w'.cell? ⟨w3.heap.size, 2, none⟩ = some (.slice B6 q.ds.length d6)) (first | with_reducible exact sum3far S_1 HNE _ _ _ | with_reducible exact sum3 S_1 | with_reducible exact sum3 S0) (first | (go_at_call 89; (with_reducible refine (spec_l05Bad q.g A6 q.xs.length c6 B6 q.ds.length d6 q.ds _ rfl (by omega)).mono ?_); rintro e w5 ⟨b, rfl, hi, hb5⟩; have HI5 := Lib.hid hi; have S_1 := Lib.hid (S0.out.below hb5); have hs_6 := Lib.hid (hs_4.out.below hb5 hs_4.out.lt); have BW_6 := Lib.hid (BW_4.out.trans (hb5.mono BW_4.out.size)); clear hi hb5; have ehs0 := hs_6.out.cell 0; have fhs0 := hs_6.out.free 0; have ehs1 := hs_6.out.cell 1; have fhs1 := hs_6.out.free 1; have ehs2 := hs_6.out.cell 2; have fhs2 := hs_6.out.free 2; simp at ehs0 ehs1 ehs2))
  have HQF : Hid (QuadraticFormIs p p rs vs q.g q.xs q.ds (!b)) := ratDone_of ⟨HC.out.1.1, rfl, HC.out.1.2.2⟩ HIN.out HG.out (by
    have hi := HI5.out
    have hgn := good_nil HG.out
    cases b
    · exact ⟨fun _ => Classical.byContradiction fun hn => (by have h1 := hi.2 (hgn.2 hn); cases h1), fun _ => rfl⟩
    · exact ⟨fun h => by simp at h, fun h => absurd h (hgn.1 (hi.1 rfl))⟩)
  go_wp2_with fail
  refine bodyPost_ret (v := .tuple #[.agg #[.bool q.g, .slice A6 q.xs.length c6, .slice B6 q.ds.length d6], .bool (!b)]) (by simp [results, Tryz.results37, ehs0, ehs1, ehs2, go_sem]) rfl ?_
  exact ratOkEnd_sum hs_6.out (by omega) BW_6.out HQF.out HG.out S_1.out
theorem spec_quadraticForm (p k : Int) (A : Option Addr) (n c : Nat) (rs : List RD) (B : Option Addr) (m d : Nat) (vs : List RD) (w : World) (h1 : InV w A n rs) (hp : -9223372036854775808 ≤ p ∧ p ≤ 9223372036854775807) (hk : -9223372036854775808 ≤ k ∧ k ≤ 9223372036854775807) (hc : n ≤ c) (h2 : InV w B m vs) :
    Calls Tryz.prog 37 #[.agg #[.int .i64 p, .int .i64 k, .slice A n c], .slice B m d] w fun e w' => ∃ g r v d u b, e = .returned (.tuple #[.agg #[.bool g, v, u], .bool b]) ∧ QuadraticFormIs p k rs vs g r d b ∧ ResI w w' v r ∧ ResI w w' u d ∧ Apart u v ∧ Below w.heap.size w w' := (spec_quadraticForm0 p k A n c rs B m d vs w h1 hp hk hc h2).mono fun _ _ h => h.said
end Go.Proofs.YthjbfdifeffilaaGreat
