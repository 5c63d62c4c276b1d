/- Contracts of FormatNat: the model's and the program's. -/
import Derived.Test.YtbfanjalinkmhaaDoorNat
import Derived.Test.YtbfanjalinkmhaaDoorIm1
import Derived.Test.YtbfanjalinkmhaaDoorNum3
import Derived.Test.YtbfanjalinkmhaaDoorFmt
import Derived.Test.YtbfanjalinkmhaaDoorTab
import Derived.Test.YtbfanjalinkmhaaDoorJoin
namespace Go.Proofs.YtbfanjalinkmhaaDoor
set_option maxRecDepth 100000
open Go.RowKit

/-- What FormatNat ends in. -/
def FntEnd (xs : List Int) (w w' : World) (e : Ending) : Prop := ∃ r, e = .returned (.string r) ∧ FormatNatIs xs r ∧ Below w.heap.size w w'
theorem fnt_no {xs : List Int} (h : ¬ Ok xs) (w : World) : FntEnd xs w w (.returned (.string ⟨#[]⟩)) := ⟨_, rfl, by unfold FormatNatIs; rw [fmtNat_no h], Below.refl _ _⟩
theorem fnt_zero (w : World) : FntEnd [] w w (.returned (.string ⟨#[48]⟩)) := ⟨_, rfl, by unfold FormatNatIs fmtNat; rw [if_pos ⟨canon_nil, by simp⟩, if_pos rfl], Below.refl _ _⟩
theorem itoaB_list (x : Int) : (itoaB x).data.toList = Lib.itoa x := by unfold itoaB; simp
theorem padZ_size (x : Int) (x0 : 0 ≤ x) (x1 : x ≤ 999999999) : (padZ (itoaB x) 9).size = 9 := by
  rw [padZ_nine (itoaB_list x) x0 x1]
  show (padD 9 x.toNat).toArray.size = 9
  simp [padD]
set_option maxHeartbeats 800000 in
theorem spec_formatNat' (A : Option Addr) (n c : Nat) (xs : List Int) (w : World) (h : InI w A n xs) :
    Calls Tryd.prog 14 #[.slice A n c] w fun e w' => FntEnd xs w w' e := by
  have H1 := Lib.hid h
  have Hn := Lib.hid h.1
  clear h
  go_enter Tryd.func14, Tryd.ntmps14
  go_wp2_with fail
  refine (spec_natOk' A n c xs _ H1.out).mono ?_
  rintro e w' ⟨⟨b1, rfl, ho1⟩, rfl⟩
  cases b1
  · have hfin := Lib.hid (fnt_no (xs := xs) (fun h => by have := ho1.2 h; cases this) w)
    clear ho1
    go_wp2_with fail
    go_ret
    exact hfin.out
  have k1 := Lib.hid (ho1.1 rfl)
  clear ho1
  by_cases h0 : n = 0
  · have hfin : Hid (FntEnd xs w w (.returned (.string ⟨#[48]⟩))) := by
      have hx : xs = [] := List.eq_nil_of_length_eq_zero (Hn.out.trans h0)
      subst hx
      exact fnt_zero w
    subst h0
    go_wp2_with fail
    go_ret
    exact hfin.out
  obtain ⟨m, rfl⟩ : ∃ m, n = m + 1 := ⟨n - 1, by omega⟩
  have hn60 : m + 1 ≤ 60 := by have := k1.out.2; rw [Hn.out] at this; exact this
  have hmx : m < xs.length := by rw [Hn.out]; omega
  obtain ⟨b, o, rfl, hb, hc⟩ := H1.out.2.2.1.at_ (by simp; omega)
  obtain ⟨x, hx⟩ : ∃ x, x = xs[m] := ⟨_, rfl⟩
  have hxr := k1.out.1.1 _ (List.getElem_mem hmx)
  rw [← hx] at hxr
  obtain ⟨x0, x1⟩ := hxr
  have hcell : w.cell? ⟨b, o + m, none⟩ = some (.int .i64 x) := (hc m (by simpa using hmx)).trans (by simp [hx])
  have hne : (((m + 1 : Nat) : Int) == 0) = false := by simp; omega
  have hne2 : ((m : Int) + 1 == 0) = false := by simp; omega
  have hst : Hid (itoaB x = textB (xs.drop m)) := by
    unfold Hid itoaB textB
    rw [textL_last k1.out.1 Hn.out, hx]
  clear hc hx h0
  go_wp2_with fail
  refine (spec_formatInt x _ (by omega) (by omega)).mono ?_
  rintro e w1 ⟨rfl, hb1⟩
  rw [hst.out]
  have HB1 := Lib.hid hb1
  clear hb1 hcell
  go_wp2_with fail
  go_loopw [3, 4] (fun s y wr => ∃ k : Nat, k ≤ m ∧ y = .int .i64 ((k : Int) - 1) ∧ s = .string (textB (xs.drop k)) ∧ Hid (Below w.heap.size w wr)) (fun _ y _ => (intOf y + 1).toNat)
  case atStart => exact ⟨m, Nat.le_refl _, by go_num, rfl, HB1⟩
  case round =>
    obtain ⟨k, hk, rfl, rfl, hbr⟩ := hrel
    by_cases h0 : k = 0
    · have hfin : Hid (FntEnd xs w wr (.returned (.string (textB xs)))) := ⟨_, rfl, formatNat_text k1.out, hbr.out⟩
      subst h0
      rw [List.drop_zero]
      go_wp2_with fail
      go_ret
      exact hfin.out
    · obtain ⟨i, rfl⟩ : ∃ i, k = i + 1 := ⟨k - 1, by omega⟩
      have hix : i + 1 < xs.length := by rw [Hn.out]; omega
      obtain ⟨b2, o2, he2, hbs2, hc2⟩ := (H1.out.2.2.1.below hbr.out).at_ (by simp; omega)
      cases he2
      obtain ⟨z, hz⟩ : ∃ z, z = xs[i] := ⟨_, rfl⟩
      have hzr := k1.out.1.1 _ (List.getElem_mem (show i < xs.length by omega))
      rw [← hz] at hzr
      obtain ⟨z0, z1⟩ := hzr
      have g1 : wr.cell? ⟨b, o + i, none⟩ = some (.int .i64 z) := (hc2 i (by simp; omega)).trans (by simp [hz])
      have hsi : (((i + 1 : Nat) : Int) - 1) = (i : Int) := by omega
      rw [hsi]
      have hstp : Hid (textB (xs.drop (i + 1)) ++ padZ (itoaB z) 9 = textB (xs.drop i)) := textB_step k1.out.1 hix (by rw [itoaB_list, hz])
      have hsz1 : (textB (xs.drop (i + 1))).size ≤ 540 := by
        rw [textB_size]
        have := textL_len (k1.out.1.1.drop (i + 1)) (by rw [List.length_drop]; omega)
        rw [List.length_drop, Hn.out] at this; omega
      have hsz2 := padZ_size z z0 z1
      obtain ⟨T, hT⟩ : ∃ T, T = textB (xs.drop (i + 1)) := ⟨_, rfl⟩
      obtain ⟨Z, hZ⟩ : ∃ Z, Z = padZ (itoaB z) 9 := ⟨_, rfl⟩
      rw [← hT] at hsz1 hstp ⊢
      rw [← hZ] at hsz2 hstp
      have HZ := Lib.hid hZ.symm
      have hi0 : (0 : Int) ≤ (i : Int) := by omega
      have hi1 : (i : Int) < (m : Int) + 1 := by omega
      have hZ9 : Z.size ≤ 9 := by omega
      clear hc2 hz hsi h0 hT hZ hsz2
      go_wp2_with fail
      refine (spec_formatInt z _ (by omega) (by omega)).mono ?_
      rintro e w2 ⟨rfl, hb2⟩
      have HB2 := Lib.hid (hbr.out.trans (hb2.mono hbr.out.size))
      clear hb2 g1
      go_wp2_with fail
      refine (spec_padZeros (itoaB z) 9 _).mono ?_
      rintro e w3 ⟨rfl, rfl⟩
      rw [HZ.out]
      go_wp2_with fail
      go_roundw
      case rel => exact ⟨i, by omega, rfl, congrArg Value.string hstp.out, HB2⟩
      case measure => simp [intOf]
theorem spec_formatNat (A : Option Addr) (n c : Nat) (xs : List Int) (w : World) (h : InI w A n xs) :
    Calls Tryd.prog 14 #[.slice A n c] w fun e w' => ∃ r, e = .returned (.string r) ∧ FormatNatIs xs r ∧ Below w.heap.size w w' :=
  spec_formatNat' A n c xs w h

/-- The words of the program's FormatNat: each limb with nine digits, the last limb's first. -/
def padS (x : Int) : ByteArray := padZ (itoaB x) 9
def wordsOf (xs : List Int) : List ByteArray := xs.reverse.map padS
theorem wordsOf_len (xs : List Int) : (wordsOf xs).length = xs.length := by simp [wordsOf]
theorem wordsOf_at (xs : List Int) (j i : Nat) (h : j + i + 1 = xs.length) : (wordsOf xs)[j]'(by rw [wordsOf_len]; omega) = padS (xs[i]'(by omega)) := by
  unfold wordsOf
  rw [List.getElem_map, List.getElem_reverse]
  congr 2
  omega
def allWords (xs : List Int) (m : Nat) (h : m < xs.length) : List ByteArray := (wordsOf xs).set 0 (itoaB xs[m])
theorem allWords_len (xs : List Int) (m : Nat) (h : m < xs.length) : (allWords xs m h).length = xs.length := by unfold allWords; rw [List.length_set, wordsOf_len]
theorem allWords_text (xs : List Int) (m : Nat) (hx : Canon xs) (hm : xs.length = m + 1) : ∀ k, k ≤ m → jb (allWords xs m (by omega)) ⟨#[]⟩ (k + 1) = textL (xs.drop (m - k))
  | 0, _ => by
    rw [jb_one _ _ (by rw [allWords_len]; omega), Nat.sub_zero, textL_last hx hm]
    unfold allWords
    rw [List.getElem_set_self, itoaB_list]
  | k + 1, hk => by
    have ih := allWords_text xs m hx hm k (by omega)
    rw [jb_succ _ _ _ (by omega) (by rw [allWords_len]; omega), ih]
    have hi : m - k = (m - (k + 1)) + 1 := by omega
    rw [hi, textL_drop hx (k := m - (k + 1)) (by omega)]
    have e1 : (allWords xs m (by omega))[k + 1]'(by rw [allWords_len]; omega) = padS (xs[m - (k + 1)]'(by omega)) := by
      unfold allWords
      rw [List.getElem_set_ne (by omega)]
      exact wordsOf_at xs (k + 1) (m - (k + 1)) (by omega)
    have hr := hx.1 xs[m - (k + 1)] (List.getElem_mem (by omega))
    rw [e1, padS, padZ_nine (itoaB_list _) hr.1 hr.2]
    simp
theorem allWords_join (xs : List Int) (m : Nat) (hx : Canon xs) (hm : xs.length = m + 1) : joinB (allWords xs m (by omega)) ⟨#[]⟩ (m + 1) = textB xs := by
  unfold joinB textB
  rw [allWords_text xs m hx hm m (Nat.le_refl _), Nat.sub_self, List.drop_zero]
theorem szTo_mul : ∀ (ws : List ByteArray) (B : Nat), (∀ x ∈ ws, x.size ≤ B) → ∀ k, k ≤ ws.length → szTo ws k ≤ k * B
  | _, _, _, 0, _ => by simp [szTo]
  | ws, B, h, k + 1, hk => by
    have ih := szTo_mul ws B h k (by omega)
    rw [szTo_succ ws k (by omega), Nat.succ_mul]
    have := h ws[k] (List.getElem_mem (by omega)); omega
theorem allWords_size (xs : List Int) (m : Nat) (hx : InR xs) (hm : xs.length = m + 1) (h60 : m + 1 ≤ 60) : szTo (allWords xs m (by omega)) (m + 1) + (m + 1) * (⟨#[]⟩ : ByteArray).size ≤ 140737488355328 := by
  have h1 := szTo_mul (allWords xs m (by omega)) 30 (fun x hx' => by
    unfold allWords at hx'
    rcases List.mem_or_eq_of_mem_set hx' with h | h
    · unfold wordsOf at h
      obtain ⟨z, hz, rfl⟩ := List.mem_map.1 h
      have := hx z (List.mem_reverse.1 hz)
      unfold padS
      rw [padZ_size z this.1 this.2]; omega
    · have := hx xs[m] (List.getElem_mem (by omega))
      rw [h]
      have := itoaB_size xs[m] (by omega) (by omega); omega) (m + 1) (by rw [allWords_len]; omega)
  have h2 : (⟨#[]⟩ : ByteArray).size = 0 := rfl
  rw [h2]; omega
theorem allWords_both {xs : List Int} {m k : Nat} (hk : k = m + 1) (hmx : m < xs.length) (hx : Canon xs) (hl : xs.length = k) (h60 : k ≤ 60) :
    joinB (allWords xs m hmx) ⟨#[]⟩ k = textB xs ∧ szTo (allWords xs m hmx) k + k * (⟨#[]⟩ : ByteArray).size ≤ 140737488355328 := by
  subst hk
  exact ⟨allWords_join xs m hx hl, allWords_size xs m hx.1 hl h60⟩

set_option maxHeartbeats 1600000 in
theorem impl_formatNat' (A : Option Addr) (n c : Nat) (xs : List Int) (w : World) (h : InI w A n xs) (ht : Tab w) :
    Calls Tryd.prog 32 #[.slice A n c] w fun e w' => FntEnd xs w w' e := by
  obtain ⟨i0, hi, hz0, hz1, hz2⟩ := info_parts Tryd.infoS
  have H1 := Lib.hid h
  have Hn := Lib.hid h.1
  have Ht := Lib.hid ht
  clear h ht
  go_enter Tryd.func32, Tryd.ntmps32
  go_wp2_with fail
  refine (impl_natOk' A n c xs _ H1.out).mono ?_
  rintro e w' ⟨⟨b1, rfl, ho1⟩, rfl⟩
  cases b1
  · have hfin := Lib.hid (fnt_no (xs := xs) (fun h => by have := ho1.2 h; cases this) w)
    clear ho1
    go_wp2_with fail
    go_ret
    exact hfin.out
  have k1 := Lib.hid (ho1.1 rfl)
  clear ho1
  by_cases h0 : n = 0
  · have hfin : Hid (FntEnd xs w w (.returned (.string ⟨#[48]⟩))) := by
      have hx : xs = [] := List.eq_nil_of_length_eq_zero (Hn.out.trans h0)
      subst hx
      exact fnt_zero w
    subst h0
    go_wp2_with fail
    go_ret
    exact hfin.out
  obtain ⟨m, hm⟩ : ∃ m, n = m + 1 := ⟨n - 1, by omega⟩
  have hn60 : n ≤ 60 := by have := k1.out.2; rw [Hn.out] at this; exact this
  have hne : ((n : Int) == 0) = false := by simp; omega
  have Hm := Lib.hid hm
  have hmn : m < n := by omega
  have hn0 : (0 : Int) ≤ (n : Int) := by omega
  clear h0 hm
  go_wp2_with (refine wpList_make_full _ rfl _ _ 63 rfl w.heap.size 9 i0 (.string ⟨#[]⟩) 1 Tryd.underlying63 hi hz0 hz1 _ _ _ _ n rfl rfl (by omega) (by omega) (by rw [hz2]; omega) (by unfold maxLen; omega) (Nat.le_refl _) ?_)
  intro w1 ho hg
  obtain ⟨ys, ho⟩ : ∃ ys, w1.ownsRow w.heap.size 9 1 (.slice (some ⟨w.heap.size, 0, none⟩) n n) n ys := ⟨_, ho⟩
  have hlen := ho.1
  have Hlen := Lib.hid hlen
  have B1 := Lib.hid ((Below.refl w.heap.size w).grown hg (Nat.le_refl _) (fun k hk => by cases hk))
  have O1 := Lib.hid ho
  clear ho hg hlen
  go_wp2_with fail
  go_loopw [4, 16] (fun _ y wr => ∃ k : Nat, k ≤ n ∧ y = .int .i64 (k : Int) ∧ Hid (wr.ownsRow w.heap.size 9 1 (.slice (some ⟨w.heap.size, 0, none⟩) n n) n (((wordsOf xs).map Value.string).take k ++ ys.drop k)) ∧ Hid (Below w.heap.size w wr)) (fun _ y _ => n - (intOf y).toNat)
  case atStart => exact ⟨0, Nat.zero_le _, rfl, by simpa using O1, B1⟩
  case round =>
    obtain ⟨k, hk, rfl, ho, hbr⟩ := hrel
    by_cases hlt : k < n
    · obtain ⟨i, hi'⟩ : ∃ i, i + 1 = n - k := ⟨n - k - 1, by omega⟩
      have hix : i < xs.length := by rw [Hn.out]; omega
      obtain ⟨b, o, rfl, hbs, hc⟩ := (H1.out.2.2.1.below hbr.out).at_ (by simp; omega)
      obtain ⟨z, hz⟩ : ∃ z, z = xs[i] := ⟨_, rfl⟩
      have hzr := k1.out.1.1 _ (List.getElem_mem hix)
      rw [← hz] at hzr
      obtain ⟨z0, z1⟩ := hzr
      have g1 : wr.cell? ⟨b, o + i, none⟩ = some (.int .i64 z) := (hc i (by simp; omega)).trans (by simp [hz])
      have hsi : (n : Int) - 1 - (k : Int) = (i : Int) := by omega
      have hkw : k < ((wordsOf xs).map Value.string).length := by rw [List.length_map, wordsOf_len, Hn.out]; exact hlt
      have hky : k < ys.length := by rw [Hlen.out]; omega
      have Hkw := Lib.hid hkw
      have hwd : Hid (((wordsOf xs).map Value.string)[k]'Hkw.out = .string (padZ (itoaB z) 9)) := by
        unfold Hid
        rw [List.getElem_map, wordsOf_at xs k i (by rw [Hn.out]; omega), padS, hz]
      have Hky := Lib.hid hky
      have hi0 : (0 : Int) ≤ (i : Int) := by omega
      have hi1 : (i : Int) < (n : Int) := by omega
      have hk0 : (0 : Int) ≤ (k : Int) := by omega
      have hk1 : (k : Int) < (n : Int) := by omega
      clear hc hz hi' hkw hky
      go_wp2_with fail
      refine (impl_formatInt z _ (by omega) (by omega) (Ht.out.below hbr.out)).mono ?_
      rintro e w2 ⟨rfl, hb2⟩
      have O2 := Lib.hid (own_below ho.out hb2)
      have HB2 := Lib.hid (hbr.out.trans (hb2.mono hbr.out.size))
      have hsz := itoaB_size z (by omega) (by omega)
      clear hb2 g1
      go_wp2_with fail
      refine (impl_padZeros (itoaB z) 9 _ (by unfold maxLen; omega)).mono ?_
      rintro e w3 ⟨rfl, hb3⟩
      have O3 := own_below O2.out hb3
      have B3 := HB2.out.trans (hb3.mono HB2.out.size)
      have hfr := O3.frozenAt k
      have hcl := O3.cellAt k (by omega)
      rw [List.getElem?_eq_getElem (by rw [O3.1]; omega)] at hcl
      obtain ⟨old, hold⟩ : ∃ old, w3.cell? ⟨w.heap.size, k, none⟩ = some old := ⟨_, hcl⟩
      have hst := O3.stored k (.string (padZ (itoaB z) 9))
      rw [← hwd.out, copied_set _ ys k Hkw.out Hky.out, hwd.out] at hst
      have ho2 := Lib.hid hst.1
      have hb2 := Lib.hid (below_marked B3 O3 hst.2 (Nat.le_refl _) B3.size)
      clear hst hcl O3 B3 hb3 hsi
      go_wp2_with fail
      go_roundw
      case rel => exact ⟨k + 1, by omega, by go_num, ho2, hb2⟩
      case measure => simp [intOf]; omega
    · obtain rfl : k = n := by omega
      have hmx : m < xs.length := by rw [Hn.out]; exact hmn
      have ho2 := ho.out
      rw [List.take_of_length_le (by rw [List.length_map, wordsOf_len, Hn.out]; omega), List.drop_eq_nil_of_le (by rw [Hlen.out]; omega), List.append_nil] at ho2
      obtain ⟨b, o, rfl, hbs, hc⟩ := (H1.out.2.2.1.below hbr.out).at_ (by simp; omega)
      obtain ⟨z, hz⟩ : ∃ z, z = xs[m] := ⟨_, rfl⟩
      have hzr := k1.out.1.1 _ (List.getElem_mem hmx)
      rw [← hz] at hzr
      obtain ⟨z0, z1⟩ := hzr
      have g1 : wr.cell? ⟨b, o + m, none⟩ = some (.int .i64 z) := (hc m (by simp; omega)).trans (by simp [hz])
      have hsi : (k : Int) - 1 = (m : Int) := by have := Hm.out; omega
      have O2 := Lib.hid ho2
      have hset : Hid ((((wordsOf xs).map Value.string).set 0 (.string (itoaB z))) = (allWords xs m hmx).map .string) := by
        unfold Hid allWords; rw [hz, List.map_set]
      have hjoin := Lib.hid (allWords_both Hm.out hmx k1.out.1 Hn.out hn60)
      have hmi0 : (0 : Int) ≤ (m : Int) := by omega
      have hmi1 : (m : Int) < (k : Int) := by omega
      have hk0 : (0 : Int) < (k : Int) := by omega
      clear ho2 hc hz
      go_wp2_with fail
      refine (impl_formatInt z _ (by omega) (by omega) (Ht.out.below hbr.out)).mono ?_
      rintro e w2 ⟨rfl, hb2⟩
      have O3 := own_below O2.out hb2
      have B2 := hbr.out.trans (hb2.mono hbr.out.size)
      have hfr := O3.frozenAt 0
      have hcl := O3.cellAt 0 (by omega)
      rw [List.getElem?_eq_getElem (by rw [O3.1]; omega)] at hcl
      obtain ⟨old, hold⟩ : ∃ old, w2.cell? ⟨w.heap.size, 0, none⟩ = some old := ⟨_, hcl⟩
      have hst := O3.stored 0 (.string (itoaB z))
      rw [hset.out] at hst
      have ho3 := Lib.hid hst.1
      have hb3 := Lib.hid (below_marked B2 O3 hst.2 (Nat.le_refl _) B2.size)
      clear hst hcl O3 B2 hb2 hsi g1
      go_wp2_with fail
      refine (impl_join (some ⟨w.heap.size, 0, none⟩) k k (allWords xs m hmx) ⟨#[]⟩ _ (by rw [allWords_len, Hn.out]) (Nat.le_refl _) hjoin.out.2 (by omega) (Reads.of_own ho3.out)).mono ?_
      rintro e w4 ⟨rfl, hb4⟩
      rw [hjoin.out.1]
      have hfin : Hid (FntEnd xs w w4 (.returned (.string (textB xs)))) := ⟨_, rfl, formatNat_text k1.out, hb3.out.trans (hb4.mono hb3.out.size)⟩
      clear hb4
      go_wp2_with fail
      go_ret
      exact hfin.out
theorem impl_formatNat (A : Option Addr) (n c : Nat) (xs : List Int) (w : World) (h : InI w A n xs) (ht : Tab w) :
    Calls Tryd.prog 32 #[.slice A n c] w fun e w' => ∃ r, e = .returned (.string r) ∧ FormatNatIs xs r ∧ Below w.heap.size w w' :=
  impl_formatNat' A n c xs w h ht
end Go.Proofs.YtbfanjalinkmhaaDoor
