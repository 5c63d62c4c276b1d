/- Contracts of the model's cursor, by which the laws draw their inputs: only that what it draws lies in its range. -/
import Derived.Test.YthjbfdifeffilaaGA
import Derived.OpenShut
namespace Go.Proofs.Ythjbfdifeffilaa
set_option maxRecDepth 100000
open Go.RowKit

/-- Behind A lie n bytes, below block B. -/
def BytesIn (w : World) (B : Nat) (A : Option Addr) (n : Nat) : Prop := ∀ j, j < n → ∃ b o z, A = some ⟨b, o, none⟩ ∧ b < B ∧ w.cell? ⟨b, o + j, none⟩ = some (.int .u8 z) ∧ 0 ≤ z ∧ z ≤ 255
theorem BytesIn.keep {w w' : World} {B n : Nat} {A : Option Addr} (h : BytesIn w B A n) (hk : ∀ b, b < B → w'.heap[b]? = w.heap[b]?) : BytesIn w' B A n := fun j hj => by
  obtain ⟨b, o, z, hA, hb, hc, h0, h1⟩ := h j hj
  exact ⟨b, o, z, hA, hb, (World.cell?_of_block (a := ⟨b, o + j, none⟩) (hk b hb)).trans hc, h0, h1⟩
theorem BytesIn.keep2 {w w' : World} {n : Nat} {A : Option Addr} (h : BytesIn w w.heap.size A n) (hb : Below w.heap.size w w') : BytesIn w' w'.heap.size A n := fun j hj => by
  obtain ⟨b, o, z, hA, hlt, hc, h0, h1⟩ := h j hj
  exact ⟨b, o, z, hA, Nat.lt_of_lt_of_le hlt hb.size, (hb.cell (p := ⟨b, o + j, none⟩) hlt).trans hc, h0, h1⟩
/-- A slice of bytes that came in. -/
def IsBytes (w : World) (A : Option Addr) (len : Nat) : Prop := len ≤ maxLen ∧ BytesIn w w.heap.size A len
theorem isBytes_of {P : Program} {H : Type} {enc : TypeId × Value → H} {w : World} {t e : TypeId} {A : Option Addr} {len cap : Nat} {d : DataW H} {ps : List MemPlace} {sp : Nat → Bool} {hd : Bool}
    (ht : P.underlying t = some (.slice e)) (he : P.underlying e = some (.int .u8)) (hc : P.cellsOf e = 1) (h : DataW.Trod enc P w 0 sp hd t (Value.slice A len cap) d ps) : IsBytes w A len := by
  obtain ⟨fuel, hf⟩ := h
  rcases Go.ChangeShapes.open_ints ht he hc hf with ⟨hcs, _⟩ | ⟨x, l, c, zs, hcs, _, hl, hm, hz, _, hcell, hwz⟩
  · simp [Value.cells] at hcs
    obtain ⟨rfl, rfl, rfl⟩ := hcs
    exact ⟨Nat.zero_le _, fun j hj => absurd hj (by omega)⟩
  · simp [Value.cells] at hcs
    obtain ⟨rfl, rfl, rfl⟩ := hcs
    have hle : len ≤ zs.length := by rw [hz]; split <;> omega
    refine ⟨by omega, fun j hj => ?_⟩
    obtain ⟨b, o, spot⟩ := x
    have h1 := hcell 0 (by omega)
    have hspot : spot = none := by simpa [Addr.add] using World.cell?_spot h1
    subst hspot
    have h2 := hcell j (by omega)
    have e1 : ((⟨b, o, none⟩ : Addr).add j) = ⟨b, o + j, none⟩ := by
      by_cases hj0 : j = 0
      · subst hj0; simp [Addr.add]
      · simp [Addr.add, hj0]
    rw [e1] at h2
    have hmem : zs.getD j 0 ∈ zs := by
      rw [List.getD_eq_getElem?_getD, List.getElem?_eq_getElem (show j < zs.length by omega)]
      exact List.getElem_mem _
    have hw := bounds_u8 (hwz _ hmem)
    have hb := World.block_lt_of_cell? _ _ h2
    exact ⟨b, o, _, rfl, hb, h2, hw.1, hw.2⟩
def CurCells (w : World) (g : Nat) (A : Option Addr) (n c : Nat) (i h : Int) : Prop := w.heap[g]? = some (.cells #[.slice A n c, .int .i64 i, .int .i64 h] 80 (0, 0))
/-- Block g is a cursor over bytes that lie below block B. -/
def Cur (w : World) (B g : Nat) : Prop := ∃ A n c i h, B ≤ g ∧ CurCells w g A n c i h ∧ 0 ≤ i ∧ i ≤ (n : Int) ∧ n ≤ maxLen ∧ -9223372036854775808 ≤ h ∧ h ≤ 9223372036854775807 ∧ BytesIn w B A n
theorem CurCells.lt {w : World} {g : Nat} {A : Option Addr} {n c : Nat} {i h : Int} (hc : CurCells w g A n c i h) : g < w.heap.size := by
  rcases Nat.lt_or_ge g w.heap.size with hlt | hge
  · exact hlt
  · unfold CurCells at hc; rw [Array.getElem?_eq_none hge] at hc; cases hc
theorem CurCells.cells {w : World} {g : Nat} {A : Option Addr} {n c : Nat} {i h : Int} (hc : CurCells w g A n c i h) :
    w.cell? ⟨g, 0, none⟩ = some (.slice A n c) ∧ w.cell? ⟨g, 1, none⟩ = some (.int .i64 i) ∧ w.cell? ⟨g, 2, none⟩ = some (.int .i64 h) ∧ (∀ o, w.frozen? ⟨g, o, none⟩ = false) := by
  unfold CurCells at hc
  exact ⟨by simp [World.cell?, hc], by simp [World.cell?, hc], by simp [World.cell?, hc], fun o => by simp [World.frozen?, hc]⟩

theorem CurCells.set2 {w : World} {g : Nat} {A : Option Addr} {n c : Nat} {i h : Int} (hc : CurCells w g A n c i h) (h' : Int) : CurCells (w.setCell ⟨g, 2, none⟩ (.int .i64 h')) g A n c i h' := by
  unfold CurCells at hc ⊢
  rw [heap_setCell_same w g 2 _ _ _ hc]; rfl
theorem CurCells.set1 {w : World} {g : Nat} {A : Option Addr} {n c : Nat} {i h : Int} (hc : CurCells w g A n c i h) (i' : Int) : CurCells (w.setCell ⟨g, 1, none⟩ (.int .i64 i')) g A n c i' h := by
  unfold CurCells at hc ⊢
  rw [heap_setCell_same w g 1 _ _ _ hc]; rfl
theorem grownBy_set (w : World) (g o : Nat) (v : Value) : w.grownBy (w.setCell ⟨g, o, none⟩ v) (some g) :=
  ⟨rfl, rfl, rfl, by simp, fun k _ hk => heap_setCell_other w ⟨g, o, none⟩ k v (fun e => hk (by simp [e]))⟩
theorem grownBy_draws {w w' : World} {row : Option Nat} (h : w.grownBy w' row) (k : Nat) : w.grownBy (w'.drewN k) row := ⟨h.os, h.tape, h.output, h.size, h.block⟩
theorem BytesIn.grown {w w' : World} {B n g : Nat} {A : Option Addr} (h : BytesIn w B A n) (hg : w.grownBy w' (some g)) (hB : B ≤ g) (hs : B ≤ w.heap.size) : BytesIn w' B A n :=
  h.keep fun b hb => hg.block b (by omega) (by simp; omega)
theorem i64_and255 (n : Int) : bits .and .i64 n 255 = n % 256 := by
  have h : (BitVec.ofInt 64 255).toNat = 2 ^ 8 - 1 := by decide
  have key : (BitVec.ofInt 64 n &&& BitVec.ofInt 64 255).toNat = (n % ((2 ^ 64 : Nat) : Int)).toNat % 2 ^ 8 := by
    rw [BitVec.toNat_and, BitVec.toNat_ofInt, h, Nat.and_two_pow_sub_one_eq_mod]
  show IntKind.i64.wrap ((BitVec.ofInt 64 n &&& BitVec.ofInt 64 255).toNat : Nat) = n % 256
  rw [key, IntKind.wrap_i64]
  omega
theorem i64_and30 (n : Int) : bits .and .i64 n 1073741823 = n % 1073741824 := by
  have h : (BitVec.ofInt 64 1073741823).toNat = 2 ^ 30 - 1 := by decide
  have key : (BitVec.ofInt 64 n &&& BitVec.ofInt 64 1073741823).toNat = (n % ((2 ^ 64 : Nat) : Int)).toNat % 2 ^ 30 := by
    rw [BitVec.toNat_and, BitVec.toNat_ofInt, h, Nat.and_two_pow_sub_one_eq_mod]
  show IntKind.i64.wrap ((BitVec.ofInt 64 n &&& BitVec.ofInt 64 1073741823).toNat : Nat) = n % 1073741824
  rw [key, IntKind.wrap_i64]
  omega
theorem low255 (n : Int) : 0 ≤ bits .and .i64 n 255 ∧ bits .and .i64 n 255 ≤ 255 := by rw [i64_and255]; omega
theorem wrap64_bd (n : Int) : -9223372036854775808 ≤ wrap64 n ∧ wrap64 n ≤ 9223372036854775807 := by unfold wrap64; omega
/-- What a draw of one byte ends in. -/
def ByteEnd (B g : Nat) (w : World) (e : Ending) (w' : World) : Prop := (∃ x : Int, e = .returned (.int .i64 x) ∧ 0 ≤ x ∧ x ≤ 255) ∧ Cur w' B g ∧ w.grownBy w' (some g)

set_option maxHeartbeats 400000 in
theorem spec_byte (B g : Nat) (w : World) (hBw : B ≤ w.heap.size) (hc : Cur w B g) :
    Calls Try.prog 79 #[.pointer (some ⟨g, 0, none⟩)] w (ByteEnd B g w) := by
  obtain ⟨A, n, c, i, h, hB, hcs, hi0, hin, hn, hh0, hh1, hby⟩ := hc
  obtain ⟨c0, c1, c2, hfr⟩ := hcs.cells
  obtain ⟨h', hh'⟩ : ∃ h', h' = wrap64 (wrap64 (h * 6364136223846793005) + 1442695040888963407) := ⟨_, rfl⟩
  have hbd : -9223372036854775808 ≤ h' ∧ h' ≤ 9223372036854775807 := by rw [hh']; exact wrap64_bd _
  have hg1 := grownBy_set w g 2 (.int .i64 h')
  have hfin1 : ∀ k, Hid (Cur ((w.setCell ⟨g, 2, none⟩ (.int .i64 h')).drewN k) B g ∧ w.grownBy ((w.setCell ⟨g, 2, none⟩ (.int .i64 h')).drewN k) (some g)) := fun k =>
    ⟨⟨A, n, c, i, h', hB, hcs.set2 h', hi0, hin, hn, hbd.1, hbd.2, hby.grown (grownBy_draws hg1 k) hB hBw⟩, grownBy_draws hg1 k⟩
  have hfin2 : i < (n : Int) → ∀ k, Hid (Cur (((w.setCell ⟨g, 2, none⟩ (.int .i64 h')).drewN k).setCell ⟨g, 1, none⟩ (.int .i64 (i + 1))) B g ∧ w.grownBy (((w.setCell ⟨g, 2, none⟩ (.int .i64 h')).drewN k).setCell ⟨g, 1, none⟩ (.int .i64 (i + 1))) (some g)) := fun hlt k =>
    ⟨⟨A, n, c, i + 1, h', hB, CurCells.set1 (hcs.set2 h') (i + 1), by omega, by omega, hn, hbd.1, hbd.2, (hby.grown (grownBy_draws hg1 k) hB hBw).grown (grownBy_set ((w.setCell ⟨g, 2, none⟩ (.int .i64 h')).drewN k) g 1 (.int .i64 (i + 1))) hB (by simp; omega)⟩,
      grownBy_trans (grownBy_draws hg1 k) (grownBy_set _ g 1 _)⟩
  have Hfin1 := Lib.hid hfin1
  have Hfin2 := Lib.hid hfin2
  have Hh' := Lib.hid hh'
  have hf2 := hfr 2
  have hf1 := hfr 1
  have Hby := Lib.hid hby
  unfold maxLen at hn
  clear hcs hby hfr hfin1 hfin2 hg1 hbd hh'
  by_cases hlt : i < (n : Int)
  · obtain ⟨b, o, z, rfl, hbB, hbc, hz0, hz1⟩ := Hby.out i.toNat (by omega)
    have hbc2 : ∀ v : Value, (w.setCell ⟨g, 2, none⟩ v).cell? ⟨b, o + i.toNat, none⟩ = some (.int .u8 z) := fun v => (World.cell?_setCell_other w ⟨g, 2, none⟩ ⟨b, o + i.toNat, none⟩ v (by simp)).trans hbc
    go_enter Try.func79, Try.ntmps79
    go_wp2_with fail
    rw [← Hh'.out]
    go_quiet (fail)
    go_wp2_with fail
    go_quiet (fail)
    go_wp2_with fail
    go_quiet (fail)
    go_wp2_with fail
    go_ret
    exact ⟨⟨_, rfl, (low255 _).1, (low255 _).2⟩, (Hfin2.out (by omega) _).out⟩
  · go_enter Try.func79, Try.ntmps79
    go_wp2_with fail
    rw [← Hh'.out]
    go_quiet (fail)
    go_wp2_with fail
    go_quiet (fail)
    go_wp2_with fail
    go_ret
    exact ⟨⟨_, rfl, (low255 _).1, (low255 _).2⟩, by rw [World.drewN_drewN]; exact (Hfin1.out _).out⟩

/-- A new cursor: a new block; nothing that was there is written. -/
def NewEnd (B : Nat) (w : World) (e : Ending) (w' : World) : Prop := ∃ g, e = .returned (.pointer (some ⟨g, 0, none⟩)) ∧ w.heap.size ≤ g ∧ Cur w' B g ∧ Below w.heap.size w w'
theorem and30_bd (n : Int) : 0 ≤ bits .and .i64 n 1073741823 ∧ bits .and .i64 n 1073741823 ≤ 1073741823 := by rw [i64_and30]; omega
set_option maxHeartbeats 400000 in
theorem spec_new (A : Option Addr) (n c B : Nat) (w : World) (hn : n ≤ 1048576) (hB : B ≤ w.heap.size) (hby : BytesIn w B A n) :
    Calls Try.prog 34 #[.slice A n c] w (NewEnd B w) := by
  have Hby := Lib.hid hby
  clear hby
  go_enter Try.func34, Try.ntmps34
  go_wp2_with fail
  go_loop [3, 4] (fun x y => ∃ (k : Nat) (h : Int), k ≤ n ∧ 0 ≤ h ∧ h ≤ 1073741823 ∧ x = .int .i64 h ∧ y = .int .i64 k) (fun _ y => n - (intOf y).toNat)
  case atStart => exact ⟨0, 1975 + n, Nat.zero_le _, by omega, by omega, rfl, rfl⟩
  case round =>
    obtain ⟨k, h, hk, hh0, hh1, rfl, rfl⟩ := hrel
    have hfin : Hid (NewEnd B w (.returned (.pointer (some ⟨w.heap.size, 0, none⟩))) (w.alloc (.cells #[.slice A n c, .int .i64 0, .int .i64 h] 80))) :=
      ⟨w.heap.size, rfl, Nat.le_refl _, ⟨A, n, c, 0, h, hB, heap_alloc_new w _, Int.le_refl _, by omega, by unfold maxLen; omega, by omega, by omega, Hby.out.keep fun b hb => Below.heap_alloc w _ b (by omega)⟩,
        (Below.refl _ _).alloc (Nat.le_refl _) _⟩
    by_cases hlt : k < n
    · by_cases h4 : k < 4000
      · obtain ⟨b, o, z, rfl, hbB, hbc, hz0, hz1⟩ := Hby.out k hlt
        have hi0 : (0 : Int) ≤ (k : Int) := by omega
        have hi1 : (k : Int) < (n : Int) := by omega
        have hi4 : (k : Int) < 4000 := by omega
        have hbd := and30_bd (h * 73 + z + 7)
        have Hbd := Lib.hid hbd
        clear hbd hfin
        go_wp2_with fail
        go_round
        case rel => exact ⟨k + 1, _, by omega, Hbd.out.1, Hbd.out.2, rfl, by go_num⟩
        case measure => simp [intOf]; omega
      · have hi4 : 4000 ≤ (k : Int) := by omega
        have hd4 : decide ((k : Int) < 4000) = false := by simp; omega
        go_wp2_with fail
        go_ret
        exact hfin.out
    · go_wp2_with fail
      go_ret
      exact hfin.out

theorem Cur.below {w w' : World} {B g : Nat} (h : Cur w B g) (hb : Below w.heap.size w w') : Cur w' B g := by
  obtain ⟨A, n, c, i, x, hB, hcs, h0, h1, h2, h3, h4, h5⟩ := h
  have hlt := hcs.lt
  exact ⟨A, n, c, i, x, hB, (hb.block g hlt).trans hcs, h0, h1, h2, h3, h4, h5.keep fun b hbB => hb.block b (by omega)⟩
theorem Cur.moved {w w' : World} {B g : Nat} {row : Option Nat} (h : Cur w B g) (hg : w.grownBy w' row) (hr : ∀ j, row = some j → g < j) (hB : B ≤ g) : Cur w' B g := by
  obtain ⟨A, n, c, i, x, hB', hcs, h0, h1, h2, h3, h4, h5⟩ := h
  have hlt := hcs.lt
  have hne : ∀ b, b ≤ g → some b ≠ row := fun b hb e => by have := hr b e.symm; omega
  exact ⟨A, n, c, i, x, hB', (hg.block g hlt (hne g (Nat.le_refl _))).trans hcs, h0, h1, h2, h3, h4, h5.keep fun b hbB => hg.block b (by omega) (hne b (by omega))⟩
theorem Cur.size {w : World} {B g : Nat} (h : Cur w B g) : B ≤ w.heap.size := by
  obtain ⟨A, n, c, i, x, hB, hcs, _⟩ := h
  have := hcs.lt; omega



/-- What a draw below m ends in. -/
def BelowEnd (m : Int) (B g : Nat) (w : World) (e : Ending) (w' : World) : Prop := (∃ x : Int, e = .returned (.int .i64 x) ∧ 0 ≤ x ∧ x < m) ∧ Cur w' B g ∧ w.grownBy w' (some g)
set_option maxHeartbeats 400000 in
theorem spec_below (m : Int) (B g : Nat) (w : World) (h1 : 1 ≤ m) (h2 : m ≤ 1000000000) (hc : Cur w B g) :
    Calls Try.prog 40 #[.pointer (some ⟨g, 0, none⟩), .int .i64 m] w (BelowEnd m B g w) := by
  have Hc := Lib.hid hc
  clear hc
  have hm0 : ¬ m ≤ 0 := by omega
  by_cases hs : m ≤ 256
  · go_enter Try.func40, Try.ntmps40
    go_wp2_with fail
    refine (spec_byte B g _ Hc.out.size Hc.out).mono ?_
    rintro e w1 ⟨⟨x, rfl, hx0, hx1⟩, hc1, hg1⟩
    have hmod0 := Int.emod_nonneg x (show m ≠ 0 by omega)
    have hmod1 := Int.emod_lt_of_pos x (show 0 < m by omega)
    have Hfin : Hid (Cur w1 B g ∧ w.grownBy w1 (some g)) := ⟨hc1, hg1⟩
    clear hc1 hg1
    go_wp2_with fail
    go_ret
    exact ⟨⟨_, rfl, hmod0, hmod1⟩, Hfin.out⟩
  · go_enter Try.func40, Try.ntmps40
    go_wp2_with fail
    refine (spec_byte B g _ Hc.out.size Hc.out).mono ?_
    rintro e w1 ⟨⟨x, rfl, hx0, hx1⟩, hc1, hg1⟩
    have C1 := Lib.hid hc1
    have G1 := Lib.hid hg1
    clear hc1 hg1
    go_wp2_with fail
    refine (spec_byte B g _ C1.out.size C1.out).mono ?_
    rintro e w2 ⟨⟨y, rfl, hy0, hy1⟩, hc2, hg2⟩
    have C2 := Lib.hid hc2
    have G2 := Lib.hid (grownBy_trans G1.out hg2)
    clear hc2 hg2
    go_wp2_with fail
    refine (spec_byte B g _ C2.out.size C2.out).mono ?_
    rintro e w3 ⟨⟨z, rfl, hz0, hz1⟩, hc3, hg3⟩
    have C3 := Lib.hid hc3
    have G3 := Lib.hid (grownBy_trans G2.out hg3)
    clear hc3 hg3
    go_wp2_with fail
    refine (spec_byte B g _ C3.out.size C3.out).mono ?_
    rintro e w4 ⟨⟨u, rfl, hu0, hu1⟩, hc4, hg4⟩
    have Hfin : Hid (Cur w4 B g ∧ w.grownBy w4 (some g)) := ⟨hc4, grownBy_trans G3.out hg4⟩
    have hmod0 := Int.emod_nonneg (x * 16777216 + y * 65536 + z * 256 + u) (show m ≠ 0 by omega)
    have hmod1 := Int.emod_lt_of_pos (x * 16777216 + y * 65536 + z * 256 + u) (show 0 < m by omega)
    clear hc4 hg4
    go_wp2_with fail
    go_ret
    exact ⟨⟨_, rfl, hmod0, hmod1⟩, Hfin.out⟩


theorem Cur.lt {w : World} {B g : Nat} (h : Cur w B g) : g < w.heap.size := by
  obtain ⟨A, n, c, i, x, hB, hcs, _⟩ := h
  exact hcs.lt
def words : List ByteArray := [⟨#[97]⟩, ⟨#[98, 99]⟩, ⟨#[32]⟩, ⟨#[44]⟩, ⟨#[120, 49]⟩]
theorem words_size : ∀ s ∈ words, s.size ≤ 2 := by decide
end Go.Proofs.Ythjbfdifeffilaa
