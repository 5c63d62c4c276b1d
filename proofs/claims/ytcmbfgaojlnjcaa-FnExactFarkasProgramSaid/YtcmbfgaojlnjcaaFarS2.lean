/- The programs that search for certificates, by the model. -/
import Derived.Test.YtcmbfgaojlnjcaaFarS
import Derived.Test.YtcmbfgaojlnjcaaFarM
import Derived.Test.YtcmbfgaojlnjcaaLpI
import Derived.Test.YtcmbfgaojlnjcaaMakeF
import Derived.Test.YtcmbfgaojlnjcaaMkR
import Derived.Test.YtcmbfgaojlnjcaaTA
namespace Go.Proofs.Ytcmbfgaojlnjcaa
set_option maxRecDepth 100000
open Go.RowKit

theorem made_zeros' (K : Nat) : (madeCells (Value.int .i64 0).cells (K * 1)).toList = (List.replicate K (0 : Int)).map (.int .i64) := by
  apply List.ext_getElem
  · simp [madeCells, Value.cells]
  · intro i h1 h2
    simp [madeCells, Value.cells, Nat.mod_one]
theorem box5 {w : World} {g : Nat} {t : TypeId} {a0 a1 a2 a3 a4 : Value} (h : Hid (Box w g t #[a0, a1, a2, a3, a4])) :
    w.cell? ⟨g, 0, none⟩ = some a0 ∧ w.cell? ⟨g, 1, none⟩ = some a1 ∧ w.cell? ⟨g, 2, none⟩ = some a2 ∧ w.cell? ⟨g, 3, none⟩ = some a3 ∧ w.cell? ⟨g, 4, none⟩ = some a4 :=
  ⟨h.out.cell 0, h.out.cell 1, h.out.cell 2, h.out.cell 3, h.out.cell 4⟩
theorem box5_far {w : World} {g R : Nat} {t : TypeId} {a0 a1 a2 a3 a4 : Value} (h : Hid (Box w g t #[a0, a1, a2, a3, a4])) (hne : g ≠ R) {u0 u1 u2 u3 u4 : Value} :
    (((((w.setCell ⟨R, 0, none⟩ u0).setCell ⟨R, 1, none⟩ u1).setCell ⟨R, 2, none⟩ u2).setCell ⟨R, 3, none⟩ u3).setCell ⟨R, 4, none⟩ u4).cell? ⟨g, 0, none⟩ = some a0 ∧
    (((((w.setCell ⟨R, 0, none⟩ u0).setCell ⟨R, 1, none⟩ u1).setCell ⟨R, 2, none⟩ u2).setCell ⟨R, 3, none⟩ u3).setCell ⟨R, 4, none⟩ u4).cell? ⟨g, 1, none⟩ = some a1 ∧
    (((((w.setCell ⟨R, 0, none⟩ u0).setCell ⟨R, 1, none⟩ u1).setCell ⟨R, 2, none⟩ u2).setCell ⟨R, 3, none⟩ u3).setCell ⟨R, 4, none⟩ u4).cell? ⟨g, 2, none⟩ = some a2 ∧
    (((((w.setCell ⟨R, 0, none⟩ u0).setCell ⟨R, 1, none⟩ u1).setCell ⟨R, 2, none⟩ u2).setCell ⟨R, 3, none⟩ u3).setCell ⟨R, 4, none⟩ u4).cell? ⟨g, 3, none⟩ = some a3 ∧
    (((((w.setCell ⟨R, 0, none⟩ u0).setCell ⟨R, 1, none⟩ u1).setCell ⟨R, 2, none⟩ u2).setCell ⟨R, 3, none⟩ u3).setCell ⟨R, 4, none⟩ u4).cell? ⟨g, 4, none⟩ = some a4 :=
  box5 (Lib.hid (((((h.out.far (p := ⟨R, 0, none⟩) hne u0).far (p := ⟨R, 1, none⟩) hne u1).far (p := ⟨R, 2, none⟩) hne u2).far (p := ⟨R, 3, none⟩) hne u3).far (p := ⟨R, 4, none⟩) hne u4))
theorem pm_store5 {w : World} {g base : Nat} {z0 z1 z2 z3 z4 : Value} {A B C : Option Addr} {n c m d l e : Nat} {la lb lc : List Int} (h : Box w g 26 #[z0, z1, z2, z3, z4]) (ho : OwnP w base A n c (la.map (.int .i64)) B m d (lb.map (.int .i64)) C l e (lc.map (.int .i64))) (p k : Int) :
    PM base (((((w.setCell ⟨g, 0, none⟩ (.int .i64 p)).setCell ⟨g, 1, none⟩ (.int .i64 k)).setCell ⟨g, 2, none⟩ (.slice A n c)).setCell ⟨g, 3, none⟩ (.slice B m d)).setCell ⟨g, 4, none⟩ (.slice C l e)) g p k A n c la B m d lb C l e lc := by
  have h1 := h.set_ 0 (.int .i64 p)
  have h2 := h1.set_ 1 (.int .i64 k)
  have h3 := h2.set_ 2 (.slice A n c)
  have h4 := h3.set_ 3 (.slice B m d)
  exact ⟨by simpa using h4.set_ 4 (.slice C l e), ((((ho.boxSet h (by decide) 0 _).boxSet h1 (by decide) 1 _).boxSet h2 (by decide) 2 _).boxSet h3 (by decide) 3 _).boxSet h4 (by decide) 4 _⟩
set_option maxHeartbeats 12800000 in
theorem spec_farkasProgram0 (p k : Int) (A : Option Addr) (n c : Nat) (la : List Int) (B : Option Addr) (m d : Nat) (lb : List Int) (C : Option Addr) (l f : Nat) (lc : List Int) (w : World) (h : InP w A n la B m lb C l lc) :
    Calls Try.prog 15 #[.agg #[.int .i64 p, .int .i64 k, .slice A n c, .slice B m d, .slice C l f]] w fun e w' => ProgEnd (SearchIs ⟨p, k, la, lb, lc⟩ (farkasP ⟨p, k, la, lb, lc⟩)) w w' e := by
  obtain ⟨i0, hi, hz0, hz1, hz2⟩ := info_parts Try.infoI
  obtain ⟨j0, hj', hy0, hy1, hy2⟩ := info_parts Try.infoLP
  obtain ⟨W0, hW0⟩ : ∃ W, W = ((w.alloc (.cells #[.int .i64 p, .int .i64 k, .slice A n c, .slice B m d, .slice C l f] 26)).alloc (.cells #[.int .i64 0, .int .i64 0, .slice none 0 0, .slice none 0 0, .slice none 0 0] 26)) := ⟨_, rfl⟩
  have hp0_0 : Hid (Box W0 (w.heap.size) 26 #[.int .i64 p, .int .i64 k, .slice A n c, .slice B m d, .slice C l f]) := by rw [hW0]; exact ((Box.at' (by simp)).alloc _)
  have hpr_0 : Hid (Box W0 (w.heap.size + 1) 26 #[.int .i64 0, .int .i64 0, .slice none 0 0, .slice none 0 0, .slice none 0 0]) := by rw [hW0]; exact (Box.at' (by simp))
  have BW_0 : Hid (Below w.heap.size w W0) := by rw [hW0]; exact (((Below.refl w.heap.size w).alloc (by simp) _).alloc (by simp) _)
  have hsz0 : w.heap.size + 1 + 1 ≤ W0.heap.size := by rw [hW0]; simp
  have HI := Lib.hid (h.below BW_0.out)
  clear h
  go_enter Try.func15, Try.ntmps15
  go_upto_region 1 with fail
  rw [← hW0]
  clear hW0
  have ehp00 := hp0_0.out.cell 0
  have ehp01 := hp0_0.out.cell 1
  have ehp02 := hp0_0.out.cell 2
  have ehp03 := hp0_0.out.cell 3
  have ehp04 := hp0_0.out.cell 4
  simp at ehp00 ehp01 ehp02 ehp03 ehp04
  go_wp2_with fail
  clear ehp00 ehp01 ehp02 ehp03 ehp04
  refine (spec_l11Fits p k A n c la B m d lb C l f lc _ HI.out).mono ?_
  rintro e w1 ⟨b1, rfl, h1, hb⟩
  have hp0_1 := Lib.hid (hp0_0.out.below hb hp0_0.out.lt)
  have hpr_1 := Lib.hid (hpr_0.out.below hb hpr_0.out.lt)
  have BW_1 := Lib.hid (BW_0.out.trans (hb.mono BW_0.out.size))
  replace HI := Lib.hid (HI.out.below hb)
  clear hb
  have H1 := Lib.hid h1
  clear h1
  cases b1
  case false =>
    have HZ : Hid (ProgEnd (SearchIs ⟨p, k, la, lb, lc⟩ (farkasP ⟨p, k, la, lb, lc⟩)) w (((((w1.setCell ⟨w.heap.size + 1, 0, none⟩ (.int .i64 0)).setCell ⟨w.heap.size + 1, 1, none⟩ (.int .i64 0)).setCell ⟨w.heap.size + 1, 2, none⟩ (.slice none 0 0)).setCell ⟨w.heap.size + 1, 3, none⟩ (.slice none 0 0)).setCell ⟨w.heap.size + 1, 4, none⟩ (.slice none 0 0)) (.returned (.agg #[.int .i64 0, .int .i64 0, .slice none 0 0, .slice none 0 0, .slice none 0 0]))) := progEnd_zero (.inr ⟨fun q => (by have := H1.out.2 q; cases this), rfl⟩) (below_store5 BW_1.out (by omega) _ _ _ _ _)
    have ehpr0 := hpr_1.out.cell 0
    have ehpr1 := hpr_1.out.cell 1
    have ehpr2 := hpr_1.out.cell 2
    have ehpr3 := hpr_1.out.cell 3
    have ehpr4 := hpr_1.out.cell 4
    have fhpr0 := hpr_1.out.free 0
    have fhpr1 := hpr_1.out.free 1
    have fhpr2 := hpr_1.out.free 2
    have fhpr3 := hpr_1.out.free 3
    have fhpr4 := hpr_1.out.free 4
    simp at ehpr0 ehpr1 ehpr2 ehpr3 ehpr4
    go_wp2_with fail
    refine bodyPost_ret (v := .agg #[.int .i64 0, .int .i64 0, .slice none 0 0, .slice none 0 0, .slice none 0 0]) (by simp [results, Try.results15, ehpr0, ehpr1, ehpr2, ehpr3, ehpr4, go_sem]) rfl ?_
    exact HZ.out
  have HOK : Hid (Fits ⟨p, k, la, lb, lc⟩) := H1.out.1 rfl
  obtain ⟨P, K, hP, hK, _, _, hla, hlb, _⟩ := HOK.out.1.nats
  simp only at hP hK hla hlb
  subst hP hK
  have HL : Hid (n = P * K) := by rw [← HI.out.1.1]; exact hla
  obtain rfl : P = m := by rw [← HI.out.2.1.1]; exact hlb.symm
  have HE : Hid (Ent la) := HOK.out.1.1.2.2.2
  have HEB : Hid (Ent lb) := HOK.out.1.2.1.2
  have hP9 : P ≤ 9 := by have := HOK.out.2.1; simp only at this; omega
  have hK16 : K ≤ 16 := by have := HOK.out.2.2; simp only at this; omega
  clear hla hlb H1
  have hwp1 : IntKind.i64.wrap (2 * (P : Int)) = 2 * (P : Int) := by rw [IntKind.wrap_i64]; omega
  have hwp2 : IntKind.i64.wrap (2 * (P : Int) + (K : Int)) = 2 * (P : Int) + (K : Int) := by rw [IntKind.wrap_i64]; omega
  have hwp3 : IntKind.i64.wrap ((K : Int) + 1) = (K : Int) + 1 := by rw [IntKind.wrap_i64]; omega
  have hL2 : 2 * (P : Int) + (K : Int) = ((2 * P + K : Nat) : Int) := by omega
  have hmK : K ≤ 1048576 := by omega
  have hmN : 2 * P + K ≤ 1048576 := by omega
  have HL2 := Lib.hid hL2
  clear hL2
  go_upto_region 3 with fail
  go_cut [3] (fun s3 wx => ∃ (g NA : Nat) (A1 : Option Addr) (c1 : Nat) (B1 : Option Addr) (c2 : Nat) (C1 : Option Addr) (c3 : Nat), s3 = .pointer (some ⟨g, 0, none⟩) ∧ w1.heap.size ≤ g ∧ Hid (NA = (frows K la P K).length) ∧ PM w1.heap.size wx g (K + 1) (2 * P + K) A1 NA c1 (frows K la P K) B1 K c2 (List.replicate K 0) C1 (2 * P + K) c3 (List.replicate (2 * P + K) 0) ∧ Below w1.heap.size w1 wx)
  case first =>
    obtain ⟨W0, rfl⟩ : ∃ q, q = w1 := ⟨_, rfl⟩
    have BD : Hid (Below W0.heap.size W0 W0.drew) := (Below.refl _ _).drew
    have XB := Lib.hid hp0_1.out.drew
    have XI : Hid (InP W0.drew A n la B P lb C l lc) := HI.out.below (Below.refl _ _).drew
    have hw1 : w.heap.size + 1 < W0.heap.size := hpr_1.out.lt
    clear hp0_1 HI hpr_1 BW_1 HOK HEB
    refine wp_region_held_drew (S := (fun w' => w'.cell? ⟨w.heap.size, 0, none⟩ = some (.int .i64 P) ∧ w'.cell? ⟨w.heap.size, 1, none⟩ = some (.int .i64 K) ∧ w'.cell? ⟨w.heap.size, 2, none⟩ = some (.slice A n c) ∧ w'.cell? ⟨w.heap.size, 3, none⟩ = some (.slice B P d) ∧ w'.cell? ⟨w.heap.size, 4, none⟩ = some (.slice C l f))) (by kernel_rfl) ?_ (fun hHeld => ?_)
    · (try dsimp only); (first | with_reducible exact box5 XZ | with_reducible exact box5 XB | with_reducible exact box5_far XZ hnb)
    refine wpAnyH_go (i := 0) (d := some 10) (v := ?_) (by rfl) (by kernel_rfl) (by kernel_rfl) (by kernel_rfl) (fun _ _ _ h => h) (by assumption) ?_ ?_
    rotate_left 1
    · (intro oS hoS wS hSw; obtain rfl := Option.some.inj hoS; (try dsimp only at hSw); go_simp; try with_reducible rfl)
    (try simp only [Act.put, List.setIfInBounds_toArray, List.set_cons_zero, List.set_cons_succ])
    refine wpAnyH_go (i := 1) (d := some 11) (v := ?_) (by rfl) (by kernel_rfl) (by kernel_rfl) (by kernel_rfl) (fun _ _ _ h => h) (by assumption) ?_ ?_
    rotate_left 1
    · (intro oS hoS wS hSw; obtain rfl := Option.some.inj hoS; (try dsimp only at hSw); go_simp; try with_reducible rfl)
    (try simp only [Act.put, List.setIfInBounds_toArray, List.set_cons_zero, List.set_cons_succ])
    refine wpAnyH_go (i := 2) (d := some 12) (v := ?_) (by rfl) (by kernel_rfl) (by kernel_rfl) (by kernel_rfl) (fun _ _ _ h => h) (by assumption) ?_ ?_
    rotate_left 1
    · (intro oS hoS wS hSw; obtain rfl := Option.some.inj hoS; (try dsimp only at hSw); go_simp; try with_reducible rfl)
    (try simp only [Act.put, List.setIfInBounds_toArray, List.set_cons_zero, List.set_cons_succ])
    refine wpAnyH_go (i := 3) (d := some 13) (v := ?_) (by rfl) (by kernel_rfl) (by kernel_rfl) (by kernel_rfl) (fun _ _ _ h => h) (by assumption) ?_ ?_
    rotate_left 1
    · (intro oS hoS wS hSw; obtain rfl := Option.some.inj hoS; (try dsimp only at hSw); go_simp; try with_reducible rfl)
    (try simp only [Act.put, List.setIfInBounds_toArray, List.set_cons_zero, List.set_cons_succ])
    refine wpAnyH_go (i := 4) (d := some 14) (v := ?_) (by rfl) (by kernel_rfl) (by kernel_rfl) (by kernel_rfl) (fun _ _ _ h => h) (by assumption) ?_ ?_
    rotate_left 1
    · (intro oS hoS wS hSw; obtain rfl := Option.some.inj hoS; (try dsimp only at hSw); go_simp; try with_reducible rfl)
    (try simp only [Act.put, List.setIfInBounds_toArray, List.set_cons_zero, List.set_cons_succ])
    refine wpAnyH_go (i := 5) (d := some 15) (v := ?_) (by rfl) (by kernel_rfl) (by kernel_rfl) (by kernel_rfl) (fun _ _ _ h => h) (by assumption) ?_ ?_
    rotate_left 1
    · (intro oS hoS wS hSw; obtain rfl := Option.some.inj hoS; (try dsimp only at hSw); go_simp; try with_reducible rfl)
    (try simp only [Act.put, List.setIfInBounds_toArray, List.set_cons_zero, List.set_cons_succ])
    refine wpAnyH_go (i := 6) (d := some 16) (v := ?_) (by rfl) (by kernel_rfl) (by kernel_rfl) (by kernel_rfl) (fun _ _ _ h => h) (by assumption) ?_ ?_
    rotate_left 1
    · (intro oS hoS wS hSw; obtain rfl := Option.some.inj hoS; (try dsimp only at hSw); go_simp; try with_reducible rfl)
    (try simp only [Act.put, List.setIfInBounds_toArray, List.set_cons_zero, List.set_cons_succ])
    refine wpAnyH_go (i := 7) (d := some 17) (v := ?_) (by rfl) (by kernel_rfl) (by kernel_rfl) (by kernel_rfl) (fun _ _ _ h => h) (by assumption) ?_ ?_
    rotate_left 1
    · (intro oS hoS wS hSw; obtain rfl := Option.some.inj hoS; (try dsimp only at hSw); go_simp; try with_reducible rfl)
    (try simp only [Act.put, List.setIfInBounds_toArray, List.set_cons_zero, List.set_cons_succ])
    refine wpAnyH_go (i := 8) (d := some 18) (v := ?_) (by rfl) (by kernel_rfl) (by kernel_rfl) (by kernel_rfl) (fun _ _ _ h => h) (by assumption) ?_ ?_
    rotate_left 1
    · (intro oS hoS wS hSw; obtain rfl := Option.some.inj hoS; (try dsimp only at hSw); go_simp; try with_reducible rfl)
    (try simp only [Act.put, List.setIfInBounds_toArray, List.set_cons_zero, List.set_cons_succ])
    refine wpAnyH_go (i := 9) (d := some 19) (v := ?_) (by rfl) (by kernel_rfl) (by kernel_rfl) (by kernel_rfl) (fun _ _ _ h => h) (by assumption) ?_ ?_
    rotate_left 1
    · (intro oS hoS wS hSw; obtain rfl := Option.some.inj hoS; (try dsimp only at hSw); go_simp; try with_reducible rfl)
    (try simp only [Act.put, List.setIfInBounds_toArray, List.set_cons_zero, List.set_cons_succ])
    refine wpAnyH_go (i := 11) (d := some 21) (v := ?_) (by rfl) (by kernel_rfl) (by kernel_rfl) (by kernel_rfl) (fun _ _ _ h => h) (by assumption) ?_ ?_
    rotate_left 1
    · (intro oS hoS wS hSw; obtain rfl := Option.some.inj hoS; (try dsimp only at hSw); go_simp; try with_reducible rfl)
    (try simp only [Act.put, List.setIfInBounds_toArray, List.set_cons_zero, List.set_cons_succ])
    refine wpAnyH_go (i := 12) (d := some 22) (v := ?_) (by rfl) (by kernel_rfl) (by kernel_rfl) (by kernel_rfl) (fun _ _ _ h => h) (by assumption) ?_ ?_
    rotate_left 1
    · (intro oS hoS wS hSw; obtain rfl := Option.some.inj hoS; (try dsimp only at hSw); go_simp; try with_reducible rfl)
    (try simp only [Act.put, List.setIfInBounds_toArray, List.set_cons_zero, List.set_cons_succ])
    refine wpAnyH_go (i := 14) (d := some 24) (v := ?_) (by rfl) (by kernel_rfl) (by kernel_rfl) (by kernel_rfl) (fun _ _ _ h => h) (by assumption) ?_ ?_
    rotate_left 1
    · (intro oS hoS wS hSw; obtain rfl := Option.some.inj hoS; (try dsimp only at hSw); go_simp; try with_reducible rfl)
    (try simp only [Act.put, List.setIfInBounds_toArray, List.set_cons_zero, List.set_cons_succ])
    refine wpAnyH_go (i := 15) (d := some 25) (v := ?_) (by rfl) (by kernel_rfl) (by kernel_rfl) (by kernel_rfl) (fun _ _ _ h => h) (by assumption) ?_ ?_
    rotate_left 1
    · (intro oS hoS wS hSw; obtain rfl := Option.some.inj hoS; (try dsimp only at hSw); go_simp; try with_reducible rfl)
    (try simp only [Act.put, List.setIfInBounds_toArray, List.set_cons_zero, List.set_cons_succ])
    refine wpAnyH_go (i := 16) (d := some 26) (v := ?_) (by rfl) (by kernel_rfl) (by kernel_rfl) (by kernel_rfl) (fun _ _ _ h => h) (by assumption) ?_ ?_
    rotate_left 1
    · (intro oS hoS wS hSw; obtain rfl := Option.some.inj hoS; (try dsimp only at hSw); go_simp; try with_reducible rfl)
    (try simp only [Act.put, List.setIfInBounds_toArray, List.set_cons_zero, List.set_cons_succ])
    refine wpAnyH_go (i := 17) (d := some 27) (v := ?_) (by rfl) (by kernel_rfl) (by kernel_rfl) (by kernel_rfl) (fun _ _ _ h => h) (by assumption) ?_ ?_
    rotate_left 1
    · (intro oS hoS wS hSw; obtain rfl := Option.some.inj hoS; (try dsimp only at hSw); go_simp; try with_reducible rfl)
    (try simp only [Act.put, List.setIfInBounds_toArray, List.set_cons_zero, List.set_cons_succ])
    refine wpAnyH_go (i := 18) (d := some 28) (v := ?_) (by rfl) (by kernel_rfl) (by kernel_rfl) (by kernel_rfl) (fun _ _ _ h => h) (by assumption) ?_ ?_
    rotate_left 1
    · (intro oS hoS wS hSw; obtain rfl := Option.some.inj hoS; (try dsimp only at hSw); go_simp; try with_reducible rfl)
    (try simp only [Act.put, List.setIfInBounds_toArray, List.set_cons_zero, List.set_cons_succ])
    refine wpAnyH_go (i := 19) (d := some 29) (v := ?_) (by rfl) (by kernel_rfl) (by kernel_rfl) (by kernel_rfl) (fun _ _ _ h => h) (by assumption) ?_ ?_
    rotate_left 1
    · (intro oS hoS wS hSw; obtain rfl := Option.some.inj hoS; (try dsimp only at hSw); go_simp; try with_reducible rfl)
    (try simp only [Act.put, List.setIfInBounds_toArray, List.set_cons_zero, List.set_cons_succ])
    refine wpAnyH_makers (fuel := 2) 4 [10, 13, 20, 22] [20, 23, 30, 3] [0, 1, 2] (fun j => match j with | 0 => RRow (frows K la P K).length ((frows K la P K).map (.int .i64)) | 1 => RRow K ((List.replicate K 0).map (.int .i64)) | 2 => RRow (2 * P + K) ((List.replicate (2 * P + K) 0).map (.int .i64)) | _ => RBox 26 (Value.cells (.agg #[.int .i64 0, .int .i64 0, .slice none 0 0, .slice none 0 0, .slice none 0 0]))) (by kernel_rfl) (by kernel_rfl) (fun w1 hb1 => box5 (Lib.hid (XB.out.below hb1 XB.out.lt))) ?_ ?_ ?_
    · intro j hj lo hi v w1 w2 h1 h2 h3
      match j, hj with
      | 0, _ => exact RRow.keep h1 h3
      | 1, _ => exact RRow.keep h1 h3
      | 2, _ => exact RRow.keep h1 h3
      | 3, _ => exact RBox.keep h1 h3
    · intro j hj
      match j, hj with
      | 0, _ =>
        intro oS hoS Y wy hby K' hK
        simp only [List.getD_cons_zero, List.getElem?_toArray, List.getElem?_cons_zero, List.getElem?_cons_succ, Option.some.injEq] at hoS
        subst hoS
        refine step_call1_at rfl 54 Try.func54 (by kernel_rfl) (.tmp 19) _ rfl (.agg #[.int .i64 P, .int .i64 K, .slice A n c, .slice B P d, .slice C l f]) ((actB_off (by kernel_rfl)).trans rfl) ?_
        refine (spec_l11Rows P K A n c la B P d C l f _ (XI.out.below hby).ia HL.out hP9 hK16 HE.out).mono ?_
        rintro e wv ⟨v, rfl, ⟨_, ho⟩, hb⟩
        exact ⟨v, rfl, hK.out _ _ hb (RRow.of ho)⟩
      | 1, _ =>
        intro oS hoS Y wy hby K' hK
        simp only [List.getD_cons_zero, List.getD_cons_succ, List.getElem?_toArray, List.getElem?_cons_zero, List.getElem?_cons_succ, Option.some.injEq] at hoS
        subst hoS
        exact step_makeI rfl 22 (.tmp 22) rfl i0 Try.underlying22 hi hz0 hz1 hz2 K (K : Int) ((actB_off (by kernel_rfl)).trans rfl) rfl hmK fun v wv hbv hro => hK.out _ _ hbv hro
      | 2, _ =>
        intro oS hoS Y wy hby K' hK
        simp only [List.getD_cons_zero, List.getD_cons_succ, List.getElem?_toArray, List.getElem?_cons_zero, List.getElem?_cons_succ, Option.some.injEq] at hoS
        subst hoS
        exact step_makeI rfl 22 (.tmp 29) rfl i0 Try.underlying22 hi hz0 hz1 hz2 (2 * P + K) (2 * (P : Int) + (K : Int)) ((actB_off (by kernel_rfl)).trans rfl) HL2.out hmN fun v wv hbv hro => hK.out _ _ hbv hro
      | 3, _ =>
        intro oS hoS Y wy hby K' hK
        simp only [List.getD_cons_zero, List.getD_cons_succ, List.getElem?_toArray, List.getElem?_cons_zero, List.getElem?_cons_succ, Option.some.injEq] at hoS
        subst hoS
        exact need_alloc rfl 26 rfl j0 _ hj' hy0 fun v wv hbv hro => hK.out _ _ hbv hro
    · intro D Y LO HI wz hstop hbz hres hdis
      simp only [stopB, List.all_cons, List.all_nil, Bool.and_true, Bool.and_eq_true] at hstop
      obtain ⟨hdone0, hdone1, hdone2⟩ := hstop
      have hr0 := hres 0 (by decide) hdone0
      have hr1 := hres 1 (by decide) hdone1
      have hr2 := hres 2 (by decide) hdone2
      have hd01 := hdis 0 1 (by decide) (by decide) (by decide) hdone0 hdone1
      have hd02 := hdis 0 2 (by decide) (by decide) (by decide) hdone0 hdone2
      have hd12 := hdis 1 2 (by decide) (by decide) (by decide) hdone1 hdone2
      cases hdone3 : D 3
      case true =>
        simp only [leftB, lstB, hdone0, hdone1, hdone2, hdone3, if_true, List.getD_cons_zero, List.getD_cons_succ]
        simp only [actB, List.getD_cons_zero, List.getD_cons_succ, Act.put, List.setIfInBounds_toArray, List.set_cons_zero, List.set_cons_succ]
        have hr3 := hres 3 (by decide) hdone3
        have hd03 := hdis 0 3 (by decide) (by decide) (by decide) hdone0 hdone3
        have hd13 := hdis 1 3 (by decide) (by decide) (by decide) hdone1 hdone3
        have hd23 := hdis 2 3 (by decide) (by decide) (by decide) hdone2 hdone3
        generalize Y 0 = y0 at hr0 ⊢
        generalize Y 1 = y1 at hr1 ⊢
        generalize Y 2 = y2 at hr2 ⊢
        generalize Y 3 = y3 at hr3 ⊢
        clear hres hdis
        obtain ⟨hA, hA1, hA2, hA3⟩ := hr0
        obtain ⟨hB, hB1, hB2, hB3⟩ := hr1
        obtain ⟨hC, hC1, hC2, hC3⟩ := hr2
        have PBA := Lib.hid (hB.apart hA hd01.symm)
        have PCA := Lib.hid (hC.apart hA hd02.symm)
        have PCB := Lib.hid (hC.apart hB hd12.symm)
        obtain ⟨NA, hNA⟩ : ∃ N, N = (frows K la P K).length := ⟨_, rfl⟩
        have HNA := Lib.hid hNA
        have hA0 := hA.1
        rw [← hNA] at hA0
        obtain ⟨A1, c1, rfl⟩ := own_slice hA0
        obtain ⟨B1, c2, rfl⟩ := own_slice hB.1
        obtain ⟨C1, c3, rfl⟩ := own_slice hC.1
        have OA := Lib.hid (own_base hA0 hA1)
        have OB := Lib.hid (own_base hB.1 hB1)
        have OC := Lib.hid (own_base hC.1 hC1)
        have BD' := Lib.hid (BD.out.trans (hbz.mono BD.out.size))
        have XZ := Lib.hid (XB.out.below hbz XB.out.lt)
        have hHeld := box5 XZ
        clear hA hA0 hB hC hNA hA1 hA2 hA3 hB1 hB2 hB3 hC1 hC2 hC3 hd01 hd02 hd12 hbz
        obtain ⟨⟨g, rfl, hg1, hg2, hN⟩, hN1, hN2, hN3⟩ := hr3
        have NN := Lib.hid hN
        have hg0 : W0.heap.size ≤ g := Nat.le_trans hN1 hg1
        have hnb : w.heap.size ≠ g := by omega
        clear hN hN1 hN2 hN3 hg1 hg2
        refine wpAnyH_go (i := 21) (d := some 31) (v := ?_) (by rfl) (by kernel_rfl) (by kernel_rfl) (by kernel_rfl) (fun _ _ _ h => h) (by assumption) ?_ ?_
        rotate_left 1
        · (intro oS hoS wS hSw; obtain rfl := Option.some.inj hoS; (try dsimp only at hSw); go_simp; try with_reducible rfl)
        (try simp only [Act.put, List.setIfInBounds_toArray])
        have eN0 := NN.out.cell 0
        have eN1 := NN.out.cell 1
        have eN2 := NN.out.cell 2
        have eN3 := NN.out.cell 3
        have eN4 := NN.out.cell 4
        simp [Value.cells] at eN0 eN1 eN2 eN3 eN4
        have fN0 := NN.out.free 0
        have fN1 := NN.out.free 1
        have fN2 := NN.out.free 2
        have fN3 := NN.out.free 3
        have fN4 := NN.out.free 4
        refine wpAnyH_ready (rs := [23]) (by kernel_rfl) (by simp) ?_
        refine AllReadyH.cons rfl (fun KK hK => ?_) AllReadyH.nil
        go_simp
        refine hK.out _ _ ?_ (fun hHeld => ?_)
        · (try dsimp only); (first | with_reducible exact box5 XZ | with_reducible exact box5 XB | with_reducible exact box5_far XZ hnb)
        clear hK KK
        (try simp only [Act.put, List.setIfInBounds_toArray])
        refine wpAnyH_done (by kernel_rfl) ?_ _
        go_wp2_with fail
        go_meet
        exact ⟨g, NA, A1, c1, B1, c2, C1, c3, rfl, hg0, HNA, pm_store5 NN.out ⟨OA.out, OB.out, OC.out, PBA.out, PCA.out, PCB.out⟩ _ _, below_store5 BD'.out hg0 _ _ _ _ _⟩
      case false =>
        simp only [leftB, lstB, hdone0, hdone1, hdone2, hdone3, if_true, if_false, Bool.false_eq_true, List.getD_cons_zero, List.getD_cons_succ]
        simp only [actB, List.getD_cons_zero, List.getD_cons_succ, Act.put, List.setIfInBounds_toArray, List.set_cons_zero, List.set_cons_succ]
        generalize Y 0 = y0 at hr0 ⊢
        generalize Y 1 = y1 at hr1 ⊢
        generalize Y 2 = y2 at hr2 ⊢
        generalize Y 3 = y3 at ⊢
        clear hres hdis
        obtain ⟨hA, hA1, hA2, hA3⟩ := hr0
        obtain ⟨hB, hB1, hB2, hB3⟩ := hr1
        obtain ⟨hC, hC1, hC2, hC3⟩ := hr2
        have PBA := Lib.hid (hB.apart hA hd01.symm)
        have PCA := Lib.hid (hC.apart hA hd02.symm)
        have PCB := Lib.hid (hC.apart hB hd12.symm)
        obtain ⟨NA, hNA⟩ : ∃ N, N = (frows K la P K).length := ⟨_, rfl⟩
        have HNA := Lib.hid hNA
        have hA0 := hA.1
        rw [← hNA] at hA0
        obtain ⟨A1, c1, rfl⟩ := own_slice hA0
        obtain ⟨B1, c2, rfl⟩ := own_slice hB.1
        obtain ⟨C1, c3, rfl⟩ := own_slice hC.1
        have OA := Lib.hid (own_base hA0 hA1)
        have OB := Lib.hid (own_base hB.1 hB1)
        have OC := Lib.hid (own_base hC.1 hC1)
        have BD' := Lib.hid (BD.out.trans (hbz.mono BD.out.size))
        have XZ := Lib.hid (XB.out.below hbz XB.out.lt)
        have hHeld := box5 XZ
        clear hA hA0 hB hC hNA hA1 hA2 hA3 hB1 hB2 hB3 hC1 hC2 hC3 hd01 hd02 hd12 hbz
        refine wpAnyH_go (i := 21) (d := some 31) (v := ?_) (by rfl) (by kernel_rfl) (by kernel_rfl) (by kernel_rfl) (fun _ _ _ h => h) (by assumption) ?_ ?_
        rotate_left 1
        · (intro oS hoS wS hSw; obtain rfl := Option.some.inj hoS; (try dsimp only at hSw); go_simp; try with_reducible rfl)
        (try simp only [Act.put, List.setIfInBounds_toArray])
        refine wpAnyH_ready (rs := [22]) (by kernel_rfl) (by simp) ?_
        refine AllReadyH.cons rfl (fun K' hK => ?_) AllReadyH.nil
        go_simp
        obtain ⟨wN, hwN⟩ : ∃ W, W = wz.alloc (.cells #[.int .i64 0, .int .i64 0, .slice none 0 0, .slice none 0 0, .slice none 0 0] 26) := ⟨_, rfl⟩
        obtain ⟨g, hg⟩ : ∃ g, g = wz.heap.size := ⟨_, rfl⟩
        have hb : Below wz.heap.size wz wN := by rw [hwN]; exact (Below.refl _ _).alloc (Nat.le_refl _) _
        have NB : Box wN g 26 #[.int .i64 0, .int .i64 0, .slice none 0 0, .slice none 0 0, .slice none 0 0] := by rw [hwN, hg]; exact Box.new _ _ _
        have hg1 : wz.heap.size ≤ g := by omega
        rw [← hwN, ← hg]
        clear hwN hg
        have hg0 : W0.heap.size ≤ g := Nat.le_trans BD'.out.size hg1
        have hnb : w.heap.size ≠ g := by omega
        have NN := Lib.hid NB
        replace XZ := Lib.hid (XZ.out.below hb XZ.out.lt)
        replace OA := Lib.hid (own_below OA.out hb)
        replace OB := Lib.hid (own_below OB.out hb)
        replace OC := Lib.hid (own_below OC.out hb)
        replace BD' := Lib.hid (BD'.out.trans (hb.mono BD'.out.size))
        clear hg1 NB hb
        refine hK.out _ _ ?_ (fun hHeld => ?_)
        · (try dsimp only); (first | with_reducible exact box5 XZ | with_reducible exact box5 XB | with_reducible exact box5_far XZ hnb)
        clear hK K'
        (try simp only [Act.put, List.setIfInBounds_toArray, List.set_cons_zero, List.set_cons_succ])
        have eN0 := NN.out.cell 0
        have eN1 := NN.out.cell 1
        have eN2 := NN.out.cell 2
        have eN3 := NN.out.cell 3
        have eN4 := NN.out.cell 4
        simp at eN0 eN1 eN2 eN3 eN4
        have fN0 := NN.out.free 0
        have fN1 := NN.out.free 1
        have fN2 := NN.out.free 2
        have fN3 := NN.out.free 3
        have fN4 := NN.out.free 4
        refine wpAnyH_ready (rs := [23]) (by kernel_rfl) (by simp) ?_
        refine AllReadyH.cons rfl (fun KK hK => ?_) AllReadyH.nil
        go_simp
        refine hK.out _ _ ?_ (fun hHeld => ?_)
        · (try dsimp only); (first | with_reducible exact box5 XZ | with_reducible exact box5 XB | with_reducible exact box5_far XZ hnb)
        clear hK KK
        (try simp only [Act.put, List.setIfInBounds_toArray])
        refine wpAnyH_done (by kernel_rfl) ?_ _
        go_wp2_with fail
        go_meet
        exact ⟨g, NA, A1, c1, B1, c2, C1, c3, rfl, hg0, HNA, pm_store5 NN.out ⟨OA.out, OB.out, OC.out, PBA.out, PCA.out, PCB.out⟩ _ _, below_store5 BD'.out hg0 _ _ _ _ _⟩
  obtain ⟨g, NA, A1, c1, B1, c2, C1, c3, rfl, hg0, HNA, hpm, hbw⟩ := hcut
  obtain ⟨wx, rfl⟩ : ∃ q, q = wc := ⟨_, rfl⟩
  have hNA : NA ≤ 544 := by rw [HNA.out]; exact frows_le (Nat.le_refl _) hP9 hK16
  have hw1 : w.heap.size + 1 < w1.heap.size := hpr_1.out.lt
  have hngp : w.heap.size ≠ g := by omega
  have hngr : w.heap.size + 1 ≠ g := by omega
  have HPX := Lib.hid hpm
  have HBX := Lib.hid hbw
  have XP := Lib.hid (hp0_1.out.below hbw hp0_1.out.lt)
  have XI := Lib.hid (HI.out.below hbw)
  have hsx : w1.heap.size ≤ wx.heap.size := hbw.size
  clear hpm hbw
  have q2 := HPX.out.box.cell 2
  have q3 := XP.out.cell 3
  simp at q2 q3
  -- append(out.A, p.B...)
  go_wp2_with (at_builtin; refine wpList_append_reads_at rfl _ _ 22 rfl w1.heap.size 3 i0 (.int .i64 0) 8 Try.underlying22 hi hz0 hz1 hz2 rfl _ _ _ rfl HPX.out.own.1 B P d (lb.map (.int .i64)) rfl (by rw [List.length_map]; exact XI.out.ib.1) XI.out.ib.2.2.1 (by simp [Value.oneCell']) (by unfold maxLen; omega) (by omega) hsx ?_)
  intro v3 w3 hown hg hat
  obtain ⟨A3, c4, rfl⟩ := own_slice hown
  have hb3 := HPX.out.box.grown hg HPX.out.ne.1
  have P3 : Hid (PM w1.heap.size (w3.setCell ⟨g, 2, none⟩ (.slice A3 (NA + P) c4)) g (K + 1) (2 * P + K) A3 (NA + P) c4 (frows K la P K ++ lb ++ (ineg lb).take 0) B1 K c2 (List.replicate K 0) C1 (2 * P + K) c3 (List.replicate (2 * P + K) 0)) := HPX.out.setA (by rw [List.take_zero, List.append_nil, List.map_append]; exact hown) hg hat
  have B3 : Hid (Below w1.heap.size w1 (w3.setCell ⟨g, 2, none⟩ (.slice A3 (NA + P) c4))) := ((HBX.out.grown hg hsx (fun k hk => (HPX.out.own.1.lt k hk).1)).setCell hg0 _)
  have q2 := hb3.cell 2
  have q2f := hb3.free 2
  have q3' := (hp0_1.out.below (HBX.out.grown hg hsx (fun k hk => (HPX.out.own.1.lt k hk).1)) hp0_1.out.lt).cell 3
  simp at q2 q3'
  clear hown hg hat hb3 HPX HBX XP XI hsx q3
  go_wp2_with fail
  clear q2 q2f q3'
  obtain ⟨w4, hw4⟩ : ∃ W, W = w3.setCell ⟨g, 2, none⟩ (.slice A3 (NA + P) c4) := ⟨_, rfl⟩
  rw [← hw4] at P3 B3 ⊢
  clear hw4
  -- the negatives
  go_loopw [41] (fun y wr => ∃ (i : Nat) (A4 : Option Addr) (c5 : Nat), i ≤ P ∧ y = .int .i64 i ∧ Hid (PM w1.heap.size wr g (K + 1) (2 * P + K) A4 (NA + P + i) c5 (frows K la P K ++ lb ++ (ineg lb).take i) B1 K c2 (List.replicate K 0) C1 (2 * P + K) c3 (List.replicate (2 * P + K) 0)) ∧ Hid (Below w1.heap.size w1 wr)) (fun y _ => P - (intOf y).toNat)
  case atStart => exact ⟨0, A3, c4, Nat.zero_le _, rfl, P3, B3⟩
  case round =>
    clear P3 B3
    obtain ⟨i, A4, c5, hiP, rfl, hpm, hb⟩ := hrel
    obtain ⟨wi, rfl⟩ : ∃ wi : World, wi = wr := ⟨_, rfl⟩
    have hsi : w1.heap.size ≤ wi.heap.size := hb.out.size
    by_cases hli : i < P
    · obtain ⟨b2, o2, z, rfl, hz, hcell, hb2, _, _⟩ := (HI.out.below hb.out).ib.get hli
      have hzr := HEB.out z (List.mem_of_getElem? hz)
      have hz0' := hzr.1
      have hz1' := hzr.2
      have hi0 : (0 : Int) ≤ (i : Int) := by omega
      have hi1 : (i : Int) < (P : Int) := by omega
      have HN : Hid ((frows K la P K ++ lb ++ (ineg lb).take (i + 1)).map (Value.int .i64) = (frows K la P K ++ lb ++ (ineg lb).take i).map (.int .i64) ++ [.int .i64 (-z)]) := by unfold Hid; rw [ineg_take hz]; simp
      have hwn : IntKind.i64.wrap (-z) = -z := by rw [IntKind.wrap_i64]; omega
      obtain ⟨wa, hwa⟩ : ∃ W, W = wi.alloc (.cells #[.int .i64 (-z)] 3) := ⟨_, rfl⟩
      have hba : Below wi.heap.size wi wa := by rw [hwa]; exact (Below.refl _ _).alloc (Nat.le_refl _) _
      have PA := Lib.hid (hpm.out.below hba)
      have q2 := hpm.out.box.cell 2
      simp at q2
      have HBA := Lib.hid hba
      clear hz hzr hba
      go_wp2_with (at_builtin; refine wpList_append_own_at _ rfl _ _ 22 rfl w1.heap.size 3 i0 (.int .i64 0) 1 8 Try.underlying22 hi hz0 hz1 hz2 rfl (by decide) _ _ _ rfl (hpm.out.own.1.alloc _) ⟨wi.heap.size, 0, none⟩ 1 1 [.int .i64 (-z)] rfl rfl ?c1 ?c2 ?c3 ?c4 ?c5 ?_)
      case c1 => exact cell_one_new _ _ _
      case c2 => simp [Value.oneCell']
      case c3 => unfold maxLen; omega
      case c4 => omega
      case c5 => simp; omega
      intro v' w5 hown hg hnil hat
      obtain ⟨A6, c6, rfl⟩ := own_slice hown
      rw [← hwa] at hg
      rw [show wi.heap.size + 1 = wa.heap.size by rw [hwa]; simp] at hat
      have hsa : w1.heap.size ≤ wa.heap.size := Nat.le_trans hsi HBA.out.size
      have hb3 := PA.out.box.grown hg PA.out.ne.1
      have P6 : Hid (PM w1.heap.size (w5.setCell ⟨g, 2, none⟩ (.slice A6 (NA + P + i + 1) c6)) g (K + 1) (2 * P + K) A6 (NA + P + i + 1) c6 (frows K la P K ++ lb ++ (ineg lb).take (i + 1)) B1 K c2 (List.replicate K 0) C1 (2 * P + K) c3 (List.replicate (2 * P + K) 0)) := PA.out.setA (by rw [HN.out]; simpa using hown) hg hat
      have B6 : Hid (Below w1.heap.size w1 (w5.setCell ⟨g, 2, none⟩ (.slice A6 (NA + P + i + 1) c6))) := (((hb.out.trans (HBA.out.mono hsi)).grown hg hsa (fun k hk => (PA.out.own.1.lt k hk).1)).setCell hg0 _)
      have q2 := hb3.cell 2
      have q2f := hb3.free 2
      simp at q2
      clear hown hg hat hnil hb3 PA hpm hb HBA
      go_wp2_with fail
      go_roundw
      case rel => exact ⟨i + 1, A6, c6, by omega, by go_num, P6, B6⟩
      case measure => simp [intOf]; omega
    · have HIP : i = P := by omega
      have hiP' : ¬ ((i : Int) < (P : Int)) := by omega
      have hlb : lb.length = P := HI.out.2.1.1
      obtain ⟨L, hL⟩ : ∃ L, L = frows K la P K ++ lb ++ ineg lb := ⟨_, rfl⟩
      have HLL := Lib.hid hL
      obtain ⟨N2, hN2⟩ : ∃ N2, N2 = NA + P + i := ⟨_, rfl⟩
      have PL : Hid (PM w1.heap.size wi g (K + 1) (2 * P + K) A4 N2 c5 L B1 K c2 (List.replicate K 0) C1 (2 * P + K) c3 (List.replicate (2 * P + K) 0)) := by
        have h1 := hpm.out
        rw [List.take_of_length_le (by rw [ineg_length]; omega), ← hL, ← hN2] at h1
        exact h1
      have hN2b : N2 ≤ 562 := by omega
      have XP := Lib.hid (hp0_1.out.below hb.out hp0_1.out.lt)
      clear hpm hL hN2 HIP
      have q2 := PL.out.box.cell 2
      have q3 := XP.out.cell 1
      simp at q2 q3
      go_wp2_with (at_builtin; refine wpList_app_zeros rfl _ _ 22 3 rfl w1.heap.size 3 i0 Try.underlying22 Try.underlying3 hi hz0 hz1 hz2 _ _ _ rfl PL.out.own.1 K rfl (by omega) hsi ?_)
      intro v5 w5 hown hg hat
      obtain ⟨A6, c6, rfl⟩ := own_slice hown
      have hb5 := PL.out.box.grown hg PL.out.ne.1
      have P5 : Hid (PM w1.heap.size (w5.setCell ⟨g, 2, none⟩ (.slice A6 (N2 + K) c6)) g (K + 1) (2 * P + K) A6 (N2 + K) c6 (L ++ List.replicate K 0) B1 K c2 (List.replicate K 0) C1 (2 * P + K) c3 (List.replicate (2 * P + K) 0)) := PL.out.setA (by simpa using hown) hg hat
      have B5 : Hid (Below w1.heap.size w1 (w5.setCell ⟨g, 2, none⟩ (.slice A6 (N2 + K) c6))) := ((hb.out.grown hg hsi (fun k hk => (PL.out.own.1.lt k hk).1)).setCell hg0 _)
      have q2 := hb5.cell 2
      have q2f := hb5.free 2
      simp at q2
      clear hown hg hat hb5 PL XP q3 hb
      go_upto_region 11 with fail
      clear q2 q2f
      obtain ⟨w6, hw6⟩ : ∃ W, W = w5.setCell ⟨g, 2, none⟩ (.slice A6 (N2 + K) c6) := ⟨_, rfl⟩
      rw [← hw6] at P5 B5 ⊢
      clear hw6
      have hs6 : w1.heap.size ≤ w6.heap.size := B5.out.size
      obtain ⟨wa, hwa⟩ : ∃ W, W = w6.alloc (.cells #[.int .i64 (-1)] 3) := ⟨_, rfl⟩
      have hba : Below w6.heap.size w6 wa := by rw [hwa]; exact (Below.refl _ _).alloc (Nat.le_refl _) _
      have PA := Lib.hid (P5.out.below hba)
      have HBA := Lib.hid hba
      have q3 := P5.out.box.cell 3
      simp at q3
      clear hba
      go_wp2_with (at_builtin; refine wpList_append_own_at _ rfl _ _ 22 rfl w1.heap.size 3 i0 (.int .i64 0) 1 8 Try.underlying22 hi hz0 hz1 hz2 rfl (by decide) _ _ _ rfl (P5.out.own.2.1.alloc _) ⟨w6.heap.size, 0, none⟩ 1 1 [.int .i64 (-1)] rfl rfl ?e1 ?e2 ?e3 ?e4 ?e5 ?_)
      case e1 => exact cell_one_new _ _ _
      case e2 => simp [Value.oneCell']
      case e3 => unfold maxLen; omega
      case e4 => omega
      case e5 => simp; omega
      intro v7 w7 hown hg hnil hat
      obtain ⟨A7, c7, rfl⟩ := own_slice hown
      rw [← hwa] at hg
      rw [show w6.heap.size + 1 = wa.heap.size by rw [hwa]; simp] at hat
      have hsa : w1.heap.size ≤ wa.heap.size := Nat.le_trans hs6 HBA.out.size
      have hb7 := PA.out.box.grown hg PA.out.ne.2.1
      have P7 : Hid (PM w1.heap.size (w7.setCell ⟨g, 3, none⟩ (.slice A7 (K + 1) c7)) g (K + 1) (2 * P + K) A6 (N2 + K) c6 (L ++ List.replicate K 0) A7 (K + 1) c7 (List.replicate K 0 ++ [-1]) C1 (2 * P + K) c3 (List.replicate (2 * P + K) 0)) := PA.out.setB (by simpa using hown) hg hat
      have B7 : Hid (Below w1.heap.size w1 (w7.setCell ⟨g, 3, none⟩ (.slice A7 (K + 1) c7))) := (((B5.out.trans (HBA.out.mono hs6)).grown hg hsa (fun k hk => (PA.out.own.2.1.lt k hk).1)).setCell hg0 _)
      have q3 := hb7.cell 3
      have q3f := hb7.free 3
      simp at q3
      clear hown hg hat hnil hb7 PA HBA P5 B5
      go_upto_region 12 with fail
      clear q3 q3f
      obtain ⟨w8, hw8⟩ : ∃ W, W = w7.setCell ⟨g, 3, none⟩ (.slice A7 (K + 1) c7) := ⟨_, rfl⟩
      rw [← hw8] at P7 B7 ⊢
      clear hw8
      have XR := Lib.hid (hpr_1.out.below B7.out hpr_1.out.lt)
      have HZ : Hid (ProgEnd (SearchIs ⟨(P : Int), (K : Int), la, lb, lc⟩ (farkasP ⟨(P : Int), (K : Int), la, lb, lc⟩)) w (((((w8.setCell ⟨w.heap.size + 1, 0, none⟩ (.int .i64 ((K : Int) + 1))).setCell ⟨w.heap.size + 1, 1, none⟩ (.int .i64 (2 * (P : Int) + (K : Int)))).setCell ⟨w.heap.size + 1, 2, none⟩ (.slice A6 (N2 + K) c6)).setCell ⟨w.heap.size + 1, 3, none⟩ (.slice A7 (K + 1) c7)).setCell ⟨w.heap.size + 1, 4, none⟩ (.slice C1 (2 * P + K) c3)) (.returned (.agg #[.int .i64 ((K : Int) + 1), .int .i64 (2 * (P : Int) + (K : Int)), .slice A6 (N2 + K) c6, .slice A7 (K + 1) c7, .slice C1 (2 * P + K) c3]))) := by
        have hB : Below w.heap.size w w8 := BW_1.out.trans (B7.out.mono (by omega))
        have hle := HEB.out
        have hla := ent_frows (K := K) HE.out P K
        refine progEnd_of (base := w1.heap.size) (la := L ++ List.replicate K 0) (lb := List.replicate K 0 ++ [-1]) (lc := List.replicate (2 * P + K) 0) (n := N2 + K) (m := K + 1) (l := 2 * P + K) (.inl ⟨HOK.out, ?_⟩) ?_ (by omega) (by omega) (by omega) (by omega) ?_ ?_ ?_ (below_store5 hB (by omega) _ _ _ _ _)
        · rw [HLL.out]; simp [farkasP]
        · exact PM.own (pm_store5 XR.out P7.out.own _ _)
        · rw [HLL.out]; exact (((hla.append hle).append hle.ineg).append (ent_zeros K)).i64
        · intro z hz; rcases List.mem_append.1 hz with h | h
          · exact (ent_zeros K).i64 z h
          · simp at h; omega
        · exact (ent_zeros _).i64
      have q0 := P7.out.box.cell 0
      have q1 := P7.out.box.cell 1
      have q2 := P7.out.box.cell 2
      have q3 := P7.out.box.cell 3
      have q4 := P7.out.box.cell 4
      simp at q0 q1 q2 q3 q4
      have hpr_2 := XR
      have ehpr0 := hpr_2.out.cell 0
      have ehpr1 := hpr_2.out.cell 1
      have ehpr2 := hpr_2.out.cell 2
      have ehpr3 := hpr_2.out.cell 3
      have ehpr4 := hpr_2.out.cell 4
      have fhpr0 := hpr_2.out.free 0
      have fhpr1 := hpr_2.out.free 1
      have fhpr2 := hpr_2.out.free 2
      have fhpr3 := hpr_2.out.free 3
      have fhpr4 := hpr_2.out.free 4
      simp at ehpr0 ehpr1 ehpr2 ehpr3 ehpr4
      go_wp2_with fail
      refine bodyPost_ret (v := .agg #[.int .i64 ((K : Int) + 1), .int .i64 (2 * (P : Int) + (K : Int)), .slice A6 (N2 + K) c6, .slice A7 (K + 1) c7, .slice C1 (2 * P + K) c3]) (by simp [results, Try.results15, ehpr0, ehpr1, ehpr2, ehpr3, ehpr4, go_sem]) rfl ?_
      exact HZ.out
end Go.Proofs.Ytcmbfgaojlnjcaa
