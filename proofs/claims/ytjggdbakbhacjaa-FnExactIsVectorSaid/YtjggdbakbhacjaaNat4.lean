/- Contracts of the model's natural numbers: the way back to int; division by one limb. -/
import Derived.Test.YtjggdbakbhacjaaNat3
namespace Go.Proofs.Ytjggdbakbhacjaa
set_option maxRecDepth 100000
open Go.RowKit

/-- What NatToInt returns. -/
def NatToIntIs (a : List Int) (v : Int) (b : Bool) : Prop := (b = true ∧ Ok a ∧ val a ≤ 9223372036854775807 ∧ v = val a) ∨ (b = false ∧ v = 0 ∧ ¬ (Ok a ∧ val a ≤ 9223372036854775807))
theorem natToInt_unique {a : List Int} {v v' : Int} {b b' : Bool} (h : NatToIntIs a v b) (h' : NatToIntIs a v' b') : v = v' ∧ b = b' := by
  rcases h with ⟨rfl, h1, h2, rfl⟩ | ⟨rfl, rfl, h1⟩ <;> rcases h' with ⟨rfl, h3, h4, rfl⟩ | ⟨rfl, rfl, h3⟩
  · exact ⟨rfl, rfl⟩
  · exact absurd ⟨h1, h2⟩ h3
  · exact absurd ⟨h3, h4⟩ h1
  · exact ⟨rfl, rfl⟩
/-- What NatToInt ends in. -/
def ToIntEnd (xs : List Int) (e : Ending) : Prop := ∃ v b, e = .returned (.tuple #[.int .i64 v, .bool b]) ∧ NatToIntIs xs v b
def maxI : List Int := [854775807, 223372036, 9]
theorem maxI_canon : Canon maxI := ⟨by intro d hd; simp [maxI] at hd; omega, by decide⟩
theorem maxI_val : val maxI = 9223372036854775807 := by decide
set_option maxHeartbeats 800000 in
theorem spec_natToInt' (A1 : Option Addr) (n1 c1 : Nat) (xs : List Int) (w : World) (h1 : InI w A1 n1 xs) :
    Calls Try.prog 140 #[.slice A1 n1 c1] w fun e w' => ToIntEnd xs e ∧ Below w.heap.size w w' := by
  have H1 := Lib.hid h1
  clear h1
  go_enter Try.func140, Try.ntmps140
  go_wp2_with fail
  refine (spec_natOk' A1 n1 c1 xs _ H1.out).mono ?_
  rintro e w' ⟨⟨b1, rfl, ho1⟩, rfl⟩
  cases b1
  · have hfin : Hid (NatToIntIs xs 0 false) := .inr ⟨rfl, rfl, fun h => by have := ho1.2 h.1; cases this⟩
    clear ho1
    go_wp2_with fail
    go_ret2
    exact ⟨⟨0, false, rfl, hfin.out⟩, Below.refl _ _⟩
  have k1 := Lib.hid (ho1.1 rfl)
  clear ho1
  go_wp2_with fail
  have hB : Below w.heap.size w (w.alloc (.cells #[.int .i64 854775807, .int .i64 223372036, .int .i64 9] 3)) := (Below.refl _ _).alloc (Nat.le_refl _) _
  have hrd : Reads (w.alloc (.cells #[.int .i64 854775807, .int .i64 223372036, .int .i64 9] 3)) (some ⟨w.heap.size, 0, none⟩) (maxI.map (.int .i64)) :=
    .inr ⟨w.heap.size, 0, rfl, by simp, cells_new w (maxI.map (.int .i64)) _⟩
  refine (spec_cmp A1 n1 c1 xs (some ⟨w.heap.size, 0, none⟩) 3 3 maxI _ (H1.out.below hB).canon ⟨rfl, by omega, hrd⟩ k1.out.1 maxI_canon).mono ?_
  rintro e w1 ⟨rfl, hb⟩
  have HB := Lib.hid (hB.trans (hb.mono hB.size))
  rw [maxI_val]
  clear hrd hB hb
  by_cases hbig : 9223372036854775807 < val xs
  · have hfin : Hid (NatToIntIs xs 0 false) := .inr ⟨rfl, rfl, fun h => by have := h.2; omega⟩
    rw [cmpV_gt hbig]
    clear hbig
    go_wp2_with fail
    go_ret2
    exact ⟨⟨0, false, rfl, hfin.out⟩, HB.out⟩
  have Hle := Lib.hid (show val xs ≤ 9223372036854775807 by omega)
  have hcm : cmpV (val xs) 9223372036854775807 ≤ 0 := by
    by_cases e : val xs = 9223372036854775807
    · rw [cmpV_eq e]; omega
    · rw [cmpV_lt (by omega)]; omega
  obtain ⟨cm, hcm2⟩ : ∃ cm, cm = cmpV (val xs) 9223372036854775807 := ⟨_, rfl⟩
  rw [← hcm2] at hcm ⊢
  clear hbig hcm2
  have Hn := Lib.hid H1.out.1
  have Hr := Lib.hid (H1.out.below HB.out).2.2.1
  have hn60 : n1 ≤ 60 := by have := k1.out.2; rw [Hn.out] at this; exact this
  go_wp2_with fail
  go_loop [4, 5] (fun x y => ∃ k : Nat, k ≤ n1 ∧ y = .int .i64 ((k : Int) - 1) ∧ x = .int .i64 (val (xs.drop k))) (fun _ y => (intOf y + 1).toNat)
  case atStart => exact ⟨n1, Nat.le_refl _, rfl, by rw [List.drop_eq_nil_of_le (by rw [Hn.out]; exact Nat.le_refl _)]; rfl⟩
  case round =>
    obtain ⟨k, hk, rfl, rfl⟩ := hrel
    by_cases h0 : k = 0
    · have hfin : Hid (NatToIntIs xs (val xs) true) := .inl ⟨rfl, k1.out, Hle.out, rfl⟩
      subst h0
      rw [List.drop_zero]
      go_wp2_with fail
      go_ret2
      exact ⟨⟨_, _, rfl, hfin.out⟩, HB.out⟩
    · obtain ⟨i, rfl⟩ : ∃ i, k = i + 1 := ⟨k - 1, by omega⟩
      have hix : i < xs.length := by rw [Hn.out]; omega
      obtain ⟨b1, o1, rfl, hbs1, hc1⟩ := Hr.out.at_ (by simp; omega)
      obtain ⟨x, hx⟩ : ∃ x, x = xs[i] := ⟨_, rfl⟩
      have g1 : w1.cell? ⟨b1, o1 + i, none⟩ = some (.int .i64 x) := (hc1 i (by simpa using hix)).trans (by simp [hx])
      have hsi : (((i + 1 : Nat) : Int) - 1) = (i : Int) := by omega
      rw [hsi]
      have hv := val_drop_at hix
      rw [← hx] at hv
      have hle := val_drop_le k1.out.1.1 i
      have hxr := k1.out.1.1 _ (List.getElem_mem hix)
      rw [← hx] at hxr
      obtain ⟨x0, x1⟩ := hxr
      have hnn := val_nonneg (k1.out.1.1.drop (i + 1))
      have hle2 := Hle.out
      obtain ⟨V, hV⟩ : ∃ V, V = val (xs.drop (i + 1)) := ⟨_, rfl⟩
      rw [← hV] at hv hnn ⊢
      have hsum : V * 1000000000 + x ≤ 9223372036854775807 := by omega
      have hnx : Hid (V * 1000000000 + x = val (xs.drop i)) := by unfold Hid; omega
      have hi0 : (0 : Int) ≤ (i : Int) := by omega
      have hi1 : (i : Int) < (n1 : Int) := by omega
      clear hc1 hx hsi hv hle hV h0
      go_wp2_with fail
      go_round
      case rel => exact ⟨i, by omega, rfl, congrArg (Value.int .i64) hnx.out⟩
      case measure => simp [intOf]
theorem spec_natToInt (A1 : Option Addr) (n1 c1 : Nat) (xs : List Int) (w : World) (h1 : InI w A1 n1 xs) :
    Calls Try.prog 140 #[.slice A1 n1 c1] w fun e w' => ∃ v b, e = .returned (.tuple #[.int .i64 v, .bool b]) ∧ NatToIntIs xs v b ∧ Below w.heap.size w w' :=
  (spec_natToInt' A1 n1 c1 xs w h1).mono fun _ _ ⟨⟨v, b, he, hi⟩, hb⟩ => ⟨v, b, he, hi, hb⟩

/-- What a division by one limb ends in. -/
def SmallEnd (t d : Int) (B : Nat) (w w' : World) (e : Ending) : Prop := ∃ r A c rest, e = .returned (.tuple #[.slice A r.length c, .int .i64 rest]) ∧ Canon r ∧ val r * d + rest = t ∧ 0 ≤ rest ∧ rest < d ∧ r.length ≤ B ∧ w'.ownsRow w.heap.size 3 1 (.slice A r.length c) r.length (r.map (.int .i64)) ∧ Below w.heap.size w w'
set_option maxHeartbeats 800000 in
theorem spec_small (A1 : Option Addr) (n1 c1 : Nat) (xs : List Int) (d : Int) (w : World) (h1 : xs.length = n1 ∧ n1 ≤ 1048576 ∧ Reads w A1 (xs.map (.int .i64))) (k1 : InR xs) (d0 : 1 ≤ d) (d1 : d ≤ 999999999) :
    Calls Try.prog 157 #[.slice A1 n1 c1, .int .i64 d] w fun e w' => SmallEnd (val xs) d n1 w w' e := by
  obtain ⟨i0, hi, hz0, hz1, hz2⟩ := info_parts Try.infoI
  obtain ⟨hn1, hb1, hr1⟩ := h1
  have Hn := Lib.hid hn1
  have Hr := Lib.hid hr1
  have K1 := Lib.hid k1
  clear hn1 hr1 k1
  go_enter Try.func157, Try.ntmps157
  go_wp2_with (refine wpList_make_full _ rfl _ _ 22 rfl w.heap.size 3 i0 (.int .i64 0) 1 Try.underlying22 hi hz0 hz1 _ _ _ _ n1 rfl rfl rfl rfl (by rw [hz2]; omega) (by unfold maxLen; omega) (Nat.le_refl _) ?_)
  intro w1 ho hg
  have hrep : (madeCells #[Value.int .i64 0] n1).toList = (List.replicate n1 (0 : Int)).map (.int .i64) := by simp [toList_madeCells_one]
  have O1 : Hid (w1.ownsRow w.heap.size 3 1 (.slice (some ⟨w.heap.size, 0, none⟩) n1 n1) n1 ((List.replicate n1 (0 : Int)).map (.int .i64))) := by
    unfold Hid; rw [← hrep]; simpa using ho
  have B1 := Lib.hid ((Below.refl w.heap.size w).grown hg (Nat.le_refl _) (fun k hk => by cases hk))
  have M1 : Hid (SmallAt xs d n1 0 (List.replicate n1 0)) :=
    ⟨by simp [Hn.out], fun d hd => by rw [(List.mem_replicate.1 hd).2]; decide, by rw [List.drop_eq_nil_of_le (by simp), List.drop_eq_nil_of_le (by rw [Hn.out]; exact Nat.le_refl _)]; simp [val], by omega, by omega⟩
  clear ho hg hrep
  go_wp2_with fail
  go_loopw [7, 8] (fun x y wr => ∃ (k : Nat) (rest : Int) (os : List Int), k ≤ n1 ∧ y = .int .i64 ((k : Int) - 1) ∧ x = .int .i64 rest ∧ 0 ≤ rest ∧ rest < d ∧ Hid (SmallAt xs d k rest os) ∧ Hid (wr.ownsRow w.heap.size 3 1 (.slice (some ⟨w.heap.size, 0, none⟩) n1 n1) n1 (os.map (.int .i64))) ∧ Hid (Below w.heap.size w wr)) (fun _ y _ => (intOf y + 1).toNat)
  case atStart => exact ⟨n1, 0, _, Nat.le_refl _, rfl, rfl, by omega, by omega, M1, O1, B1⟩
  case round =>
    obtain ⟨k, rest, os, hk, rfl, rfl, r0, r1, hs, ho, hb⟩ := hrel
    by_cases h0 : k = 0
    · subst h0
      have hv : Hid (InR os ∧ val os * d + rest = val xs ∧ os.length = n1) := ⟨hs.out.2.1, by have := hs.out.2.2.1; rwa [List.drop_zero, List.drop_zero] at this, hs.out.1.trans Hn.out⟩
      go_wp2_with fail
      refine (spec_trim w.heap.size _ n1 n1 os _ hv.out.2.2 (by omega) ho.out).mono ?_
      rintro e w' ⟨⟨m, rfl, ht⟩, rfl⟩
      obtain ⟨hcn, hvl⟩ := ht.canon hv.out.1
      have hmm : m ≤ n1 := by have := ht.1; rwa [hv.out.2.2] at this
      have hlm : (os.take m).length = m := by have := ht.1; simp; omega
      have hown := own_take ho.out hmm
      rw [← List.map_take] at hown
      have hend : Hid (SmallEnd (val xs) d n1 w wr (.returned (.tuple #[.slice (some ⟨w.heap.size, 0, none⟩) m n1, .int .i64 rest]))) :=
        ⟨os.take m, _, _, rest, by rw [hlm], hcn, by rw [hvl]; exact hv.out.2.1, r0, r1, by rw [hlm]; exact hmm, by rw [hlm]; exact hown, hb.out⟩
      clear ht hcn hvl hlm hown
      go_wp2_with fail
      go_ret2
      exact hend.out
    · obtain ⟨i, rfl⟩ : ∃ i, k = i + 1 := ⟨k - 1, by omega⟩
      obtain ⟨wo, rfl⟩ : ∃ wo : World, wo = wr := ⟨_, rfl⟩
      have hix : i < xs.length := by rw [Hn.out]; omega
      obtain ⟨b1, o1, rfl, hbs1, hc1⟩ := (Hr.out.below hb.out).at_ (by simp; omega)
      obtain ⟨x, hx⟩ : ∃ x, x = xs[i] := ⟨_, rfl⟩
      have g1 : wo.cell? ⟨b1, o1 + i, none⟩ = some (.int .i64 x) := (hc1 i (by simpa using hix)).trans (by simp [hx])
      have hsi : (((i + 1 : Nat) : Int) - 1) = (i : Int) := by omega
      rw [hsi]
      have hxr := K1.out _ (List.getElem_mem hix)
      rw [← hx] at hxr
      obtain ⟨x0, x1⟩ := hxr
      obtain ⟨hnx, m0, m1⟩ := hs.out.step hix hx x0 x1 d0 d1
      have Hnx := Lib.hid hnx
      have hio : i < os.length := by rw [hs.out.1]; exact hix
      obtain ⟨o, hoo⟩ : ∃ o, o = os[i] := ⟨_, rfl⟩
      have g3 : wo.cell? ⟨w.heap.size, i, none⟩ = some (.int .i64 o) := by
        rw [ho.out.cellAt i (by omega)]; simp [hio, hoo]
      have hfr := ho.out.frozenAt i
      have hst := ho.out.stored i (.int .i64 ((rest * 1000000000 + x) / d))
      rw [map_set_int] at hst
      have ho2 := Lib.hid hst.1
      have hb2 := Lib.hid (below_marked hb.out ho.out hst.2 (Nat.le_refl _) hb.out.size)
      have hi0 : (0 : Int) ≤ (i : Int) := by omega
      have hi1 : (i : Int) < (n1 : Int) := by omega
      clear hc1 hx hsi hnx hoo hst h0
      go_wp2_with fail
      go_roundw
      case rel => exact ⟨i, _, _, by omega, rfl, rfl, m0, m1, Hnx, ho2, hb2⟩
      case measure => simp [intOf]
end Go.Proofs.Ytjggdbakbhacjaa
