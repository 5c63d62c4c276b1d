/- The program's ParseInt, over the library's Atoi, where the library's table and its two errors are as they are laid. -/
import Derived.Test.YtjhildnagplmbaaDoorTab
import Derived.Test.YtjhildnagplmbaaDoorText
import Derived.Stop.LaidErr
import Derived.Lib.AtoiErrMem
namespace Go.Proofs.YtjhildnagplmbaaDoor
open Go.RowKit

/-- A variable of the library's holds an error that is not nil. -/
def Held (w : World) (n : String) : Prop := ∃ tp p, w.var? Tryd.prog n = some #[.iface tp p]
theorem Held.below {w w' : World} {n : String} {g : Nat} (hg : Tryd.prog.globalNamed n = some g) (h : Held w n) (hb : Below w.heap.size w w') : Held w' n := by
  obtain ⟨tp, p, hv⟩ := h
  refine ⟨tp, p, var?_below hb hg ?_ hv⟩
  have h1 : w.cell? ⟨g, 0, none⟩ = some (.iface tp p) := by have := World.var?_cell hg hv 0; simpa using this
  exact World.block_lt_of_cell? _ _ h1
theorem gSyn : Tryd.prog.globalNamed "strconv.ErrSyntax" = some 0 := by kernel_rfl
theorem gRan : Tryd.prog.globalNamed "strconv.ErrRange" = some 1 := by kernel_rfl
/-- What ParseInt asks of the world. -/
def Errs (w : World) : Prop := Tab w ∧ Held w "strconv.ErrSyntax" ∧ Held w "strconv.ErrRange"
theorem Errs.below {w w' : World} (h : Errs w) (hb : Below w.heap.size w w') : Errs w' := ⟨h.1.below hb, h.2.1.below gSyn hb, h.2.2.below gRan hb⟩

theorem lib_atoi (s : ByteArray) (w : World) (hs : s.size ≤ 1048576) (he : Errs w) :
    Calls Tryd.prog 18 #[.string s] w fun e w' => (∃ v x, e = .returned (.tuple #[.int .i64 v, x]) ∧ ((x = .nilIface ∧ Lib.atoiAll s.data.toList = .ok v) ∨ (∃ t y, x = .iface t y) ∧ ∀ m, ¬ Num s.data.toList m)) ∧ Below w.heap.size w w' := by
  have hno : (∀ v, Lib.atoiAll s.data.toList ≠ .ok v) → ∀ m, ¬ Num s.data.toList m := fun h m hm => h m (by
    rw [← hm.2.2]; exact atoi_itoa hm.1 hm.2.1)
  cases h : Lib.atoiAll s.data.toList
  · next v =>
    refine (Any.strconv_Atoi_ok Tryd.laysC172 s (by omega) v h w).mono ?_
    rintro e w' ⟨rfl, hw⟩
    refine ⟨⟨v, _, rfl, .inl ⟨rfl, rfl⟩⟩, ?_⟩
    rcases hw with rfl | ⟨t, rfl⟩
    · exact Below.refl _ _
    · exact Lib.bytesWorld_below _ _ _
  · obtain ⟨tp, p, hv⟩ := he.2.1
    refine (Any.strconv_Atoi_syntax_var Tryd.laysC172 s (by omega) h tp p w hv).mono ?_
    rintro e w' ⟨N, rfl, _, _, hb⟩
    exact ⟨⟨0, _, rfl, .inr ⟨⟨_, _, rfl⟩, hno (fun v e => by rw [h] at e; cases e)⟩⟩, hb⟩
  · obtain ⟨tp, p, hv⟩ := he.2.2
    refine (Any.strconv_Atoi_range_var Tryd.laysC172 s (by omega) h tp p w hv).mono ?_
    rintro e w' ⟨N, rfl, _, _, hb⟩
    exact ⟨⟨_, _, rfl, .inr ⟨⟨_, _, rfl⟩, hno (fun v e => by rw [h] at e; cases e)⟩⟩, hb⟩

def isP (s : ByteArray) (e : Ending) : Prop := ∃ v b, e = .returned (.tuple #[.int .i64 v, .bool b]) ∧ ParseIs s.data.toList v b
theorem itoaB_eq {n : Int} {s : ByteArray} (h : itoaB n = s) : Lib.itoa n = s.data.toList := by rw [← h]; rfl
theorem itoaB_num {m : Int} {s : ByteArray} (h : Num s.data.toList m) : itoaB m = s := by
  unfold itoaB; rw [h.2.2]
theorem bytes_ne {a b : ByteArray} (h : a ≠ b) : (a.toList == b.toList) = false := by
  rw [beq_eq_false_iff_ne]
  intro he
  rw [Lib.toList_data, Lib.toList_data] at he
  apply h
  rw [← bytes_eta' a, ← bytes_eta' b, he]
set_option maxHeartbeats 400000 in
theorem impl_parseInt (s : ByteArray) (w : World) (hs : s.size ≤ 1048576) (he : Errs w) :
    Calls Tryd.prog 7 #[.string s] w fun e w' => isP s e ∧ Below w.heap.size w w' := by
  have He := Lib.hid he
  clear he
  go_enter Tryd.func7, Tryd.ntmps7
  go_wp2_with fail
  refine (lib_atoi s _ hs He.out).mono ?_
  rintro e w1 ⟨⟨v, x, rfl, hx⟩, hb1⟩
  have B1 := Lib.hid hb1
  clear hb1
  rcases hx with ⟨rfl, hok⟩ | ⟨⟨t, y, rfl⟩, hno⟩
  · have hbd := Lib.atoiAll_bounds hok
    have Hok := Lib.hid hok
    clear hok
    go_wp2_with fail
    refine (impl_formatInt v _ hbd.1 hbd.2 (He.out.1.below B1.out)).mono ?_
    rintro e w2 ⟨rfl, hb2⟩
    have B2 := Lib.hid (B1.out.trans (hb2.mono B1.out.size))
    clear hb2
    by_cases hq : itoaB v = s
    · have hfin : Hid (isP s (.returned (.tuple #[.int .i64 v, .bool true]))) := ⟨v, true, rfl, .inl ⟨rfl, hbd.1, hbd.2, itoaB_eq hq⟩⟩
      rw [hq]
      clear hq
      go_wp2_with fail
      go_ret2
      exact ⟨hfin.out, B2.out⟩
    · have hne := bytes_ne hq
      have hfin : Hid (isP s (.returned (.tuple #[.int .i64 0, .bool false]))) := ⟨0, false, rfl, .inr ⟨rfl, rfl, fun m hm => by
        have h1 := atoi_itoa hm.1 hm.2.1
        rw [hm.2.2, Hok.out] at h1
        injection h1 with h1
        subst h1
        exact hq (itoaB_num hm)⟩⟩
      obtain ⟨X, hX⟩ : ∃ X, X = itoaB v := ⟨_, rfl⟩
      rw [← hX] at hne ⊢
      clear hq hX
      go_wp2_with fail
      go_ret2
      exact ⟨hfin.out, B2.out⟩
  · have hfin : Hid (isP s (.returned (.tuple #[.int .i64 0, .bool false]))) := ⟨0, false, rfl, .inr ⟨rfl, rfl, hno⟩⟩
    clear hno
    go_wp2_with fail
    go_ret2
    exact ⟨hfin.out, B1.out⟩

/-- What the first k digits of t spell. -/
def valTo (t : ByteArray) (k : Nat) : Nat := valFrom 0 (t.data.toList.take k)
theorem valTo_zero (t : ByteArray) : valTo t 0 = 0 := rfl
theorem valTo_succ (t : ByteArray) (k : Nat) (h : k < t.size) : valTo t (k + 1) = valTo t k * 10 + (t[k].toNat - 48) := by
  unfold valTo; rw [take_snoc t k h, valFrom_append]; rfl
theorem valTo_all (t : ByteArray) : valTo t t.size = valFrom 0 t.data.toList := by unfold valTo; rw [take_all t _ (Nat.le_refl _)]
theorem valTo_le (t : ByteArray) (k : Nat) : valTo t k ≤ valFrom 0 t.data.toList := by
  have h := valFrom_append (t.data.toList.take k) (t.data.toList.drop k) 0
  rw [List.take_append_drop] at h
  rw [h]; exact valFrom_ge _ _
/-- s is a '-' (where neg) and t behind it. -/
def Tail (s : ByteArray) (neg : Bool) (t : ByteArray) : Prop := if neg then s.data.toList = 45 :: t.data.toList else (t = s ∧ ∀ r, s.data.toList ≠ 45 :: r)
theorem Tail.digits {s t : ByteArray} {neg : Bool} (h : Tail s neg t) {m : Int} (hm : Num s.data.toList m) : t.data.toList = Lib.decDigits m.natAbs ∧ (neg = true ↔ m < 0) := by
  have hi := hm.2.2
  unfold Lib.itoa at hi
  cases neg
  · obtain ⟨rfl, hn⟩ := h
    by_cases h0 : m < 0
    · rw [if_pos h0] at hi; exact (hn _ hi.symm).elim
    · rw [if_neg h0] at hi
      exact ⟨by rw [← hi]; congr 1; omega, by simp; omega⟩
  · have h : s.data.toList = 45 :: t.data.toList := h
    by_cases h0 : m < 0
    · rw [if_pos h0, h] at hi
      injection hi with _ hi
      exact ⟨hi.symm, by simp [h0]⟩
    · rw [if_neg h0, h] at hi
      obtain ⟨c, r, hc, hd⟩ := dec_head m.toNat
      rw [hc] at hi
      injection hi with h1 _
      rw [h1] at hd
      exact absurd hd (by decide)
/-- Where t is no row of at most 19 digits, s is no numeral. -/
theorem Tail.no {s t : ByteArray} {neg : Bool} (h : Tail s neg t) (hb : digitsB t.data.toList = false ∨ 19 < t.size) : ∀ m, ¬ Num s.data.toList m := by
  intro m hm
  obtain ⟨h1, _⟩ := h.digits hm
  rcases hb with hb | hb
  · rw [h1, digitsB_dec] at hb; cases hb
  · have h2 := decDigits_len m.natAbs 19 (by omega) (by have := hm.1; have := hm.2.1; omega)
    rw [← h1, len_size] at h2; omega
theorem Tail.over {s t : ByteArray} {neg : Bool} (h : Tail s neg t) (k : Nat) (hb : 9223372036854775808 < valTo t k) : ∀ m, ¬ Num s.data.toList m := by
  intro m hm
  obtain ⟨h1, _⟩ := h.digits hm
  have h2 := valTo_le t k
  rw [h1, val_decDigits] at h2
  have := hm.1; have := hm.2.1; omega
theorem Tail.over_pos {s t : ByteArray} (h : Tail s false t) (hb : 9223372036854775808 ≤ valTo t t.size) : ∀ m, ¬ Num s.data.toList m := by
  intro m hm
  obtain ⟨h1, h2⟩ := h.digits hm
  rw [valTo_all, h1, val_decDigits] at hb
  have h3 : ¬ m < 0 := fun h => by have := h2.2 h; cases this
  have := hm.2.1; omega
/-- The numeral of s, if it is one, is what the digits spell, with the sign. -/
theorem Tail.is {s t : ByteArray} {neg : Bool} (h : Tail s neg t) {m : Int} (hm : Num s.data.toList m) : m = if neg then -(valTo t t.size : Int) else (valTo t t.size : Int) := by
  obtain ⟨h1, h2⟩ := h.digits hm
  rw [valTo_all, h1, val_decDigits]
  cases neg
  · have h3 : ¬ m < 0 := fun h => by have := h2.2 h; cases this
    simp; omega
  · have h3 : m < 0 := h2.1 rfl
    simp; omega
theorem parsed {s : ByteArray} {n : Int} (h0 : -9223372036854775808 ≤ n) (h1 : n ≤ 9223372036854775807) (h : itoaB n = s) : isP s (.returned (.tuple #[.int .i64 n, .bool true])) :=
  ⟨n, true, rfl, .inl ⟨rfl, h0, h1, itoaB_eq h⟩⟩
theorem unparsed {s : ByteArray} (h : ∀ m, ¬ Num s.data.toList m) : isP s (.returned (.tuple #[.int .i64 0, .bool false])) := ⟨0, false, rfl, .inr ⟨rfl, rfl, h⟩⟩

theorem tail_neg (s : ByteArray) (h0 : 0 < s.size) (hc : s[0] = 45) : Tail s true (s.extract 1 s.size) := by
  show s.data.toList = 45 :: (s.extract 1 s.size).data.toList
  rw [Lib.extract_data, List.take_of_length_le (by simp)]
  have h1 : s.data.toList = s.data.toList[0]'(by simpa using h0) :: s.data.toList.drop 1 := by
    have := List.drop_eq_getElem_cons (l := s.data.toList) (i := 0) (by simpa using h0)
    simpa using this
  have h2 : s.data.toList[0]'(by simpa using h0) = 45 := hc
  rw [h2] at h1; exact h1
theorem tail_pos (s : ByteArray) (h0 : 0 < s.size) (hc : s[0] ≠ 45) : Tail s false s := by
  refine ⟨rfl, fun r h => hc ?_⟩
  have : s[0] = s.data.toList[0]'(by simpa using h0) := rfl
  rw [this]; simp only [h]; rfl
theorem td (d : Int) (h0 : 0 ≤ d) (h9 : d ≤ 9) : (-9223372036854775808 + d).tdiv 10 = -((9223372036854775808 - d) / 10) := by
  rw [show -9223372036854775808 + d = -(9223372036854775808 - d) by omega, Int.neg_tdiv, Int.tdiv_eq_ediv_of_nonneg (by omega)]
set_option maxHeartbeats 1000000 in
theorem spec_parse_neg (s : ByteArray) (w : World) (hs : s.size ≤ 1048576) (h0 : 0 < s.size) (hc : s[0] = 45) :
    Calls Tryd.prog 15 #[.string s] w fun e w' => isP s e ∧ Below w.heap.size w w' := by
  have hT : Tail s true (s.extract 1 s.size) := tail_neg s h0 hc
  have hts : (s.extract 1 s.size).size ≤ 1048576 := by simp; omega
  have hfirst : ((s[0].toNat : Int) == 45) = true := by simp [hc]
  have hs0 : (0 : Int) < (s.size : Int) := by omega
  obtain ⟨t, ht⟩ : ∃ t, t = s.extract 1 s.size := ⟨_, rfl⟩
  have Ht := Lib.hid ht
  rw [← ht] at hT hts
  have HT := Lib.hid hT
  clear hT ht hc
  go_enter Tryd.func15, Tryd.ntmps15
  go_wp2_with fail
  rw [← Ht.out]
  refine (spec_isDigits t _ (by unfold maxLen; omega)).mono ?_
  rintro e w' ⟨rfl, rfl⟩
  cases hdig : digitsB t.data.toList
  · have hfin := Lib.hid (unparsed (HT.out.no (.inl hdig)))
    clear hdig
    go_wp2_with fail
    go_ret2
    exact ⟨hfin.out, Below.refl _ _⟩
  by_cases hlong : 19 < (t.size : Int)
  · have hfin := Lib.hid (unparsed (HT.out.no (.inr (by omega))))
    clear hdig
    go_wp2_with fail
    go_ret2
    exact ⟨hfin.out, Below.refl _ _⟩
  have hall : Hid (∀ k (h : k < t.size), 48 ≤ (t[k].toNat : Int) ∧ (t[k].toNat : Int) ≤ 57) := Lib.hid (by
    intro k hk
    have h1 : digitsB t.data.toList = true := hdig
    unfold digitsB at h1
    rw [Bool.and_eq_true] at h1
    have h2 := digB_range (List.all_eq_true.1 h1.1 _ (mem_at t k hk))
    omega)
  clear hdig
  go_wp2_with fail
  go_loop [6, 7, 8] (fun x y _ => ∃ k : Nat, k ≤ t.size ∧ valTo t k ≤ 9223372036854775808 ∧ x = .int .i64 (-(valTo t k : Int)) ∧ y = .int .i64 k) (fun _ y _ => t.size - (intOf y).toNat)
  case atStart => exact ⟨0, Nat.zero_le _, by rw [valTo_zero]; omega, by rw [valTo_zero]; rfl, rfl⟩
  case round =>
    obtain ⟨k, hk, hv, rfl, rfl⟩ := hrel
    by_cases hlt : k < t.size
    · obtain ⟨d1, d2⟩ := hall.out k hlt
      have hsu := valTo_succ t k hlt
      generalize hV : valTo t k = V at *
      have HV := Lib.hid hV
      have Hsu := Lib.hid hsu
      clear hV hsu
      have hi0 : (0 : Int) ≤ (k : Int) := by omega
      have hi1 : (k : Int) < (t.size : Int) := by omega
      have htd := td ((t[k].toNat : Int) - 48) (by omega) (by omega)
      by_cases hov : -(V : Int) < (-9223372036854775808 + ((t[k].toNat : Int) - 48)).tdiv 10
      · have hbig : 9223372036854775808 < V * 10 + (t[k].toNat - 48) := by rw [htd] at hov; omega
        have hfin := Lib.hid (unparsed (HT.out.over (k + 1) (by rw [Hsu.out]; exact hbig)))
        clear htd hbig
        go_wp2_with fail
        go_ret2
        exact ⟨hfin.out, Below.refl _ _⟩
      · have hsm : V * 10 + (t[k].toNat - 48) ≤ 9223372036854775808 := by rw [htd] at hov; omega
        have Hsm := Lib.hid hsm
        have hc : (V : Int) * 10 + ((t[k].toNat : Int) - 48) ≤ 9223372036854775808 := by omega
        clear htd hsm
        go_wp2_with fail
        go_round
        case rel => exact ⟨k + 1, by omega, by rw [Hsu.out]; exact Hsm.out, by rw [Hsu.out]; go_num, by go_num⟩
        case measure => simp [intOf]; omega
    · obtain rfl : k = t.size := by omega
      have hb0 : -9223372036854775808 ≤ -(valTo t t.size : Int) := by omega
      have his := Lib.hid (fun m (hm : Num s.data.toList m) => HT.out.is hm)
      obtain ⟨n, hn⟩ : ∃ n : Int, n = -(valTo t t.size : Int) := ⟨_, rfl⟩
      rw [← hn] at hb0 ⊢
      have hn1 : n ≤ 0 := by omega
      have Hn := Lib.hid hn
      clear hn hv
      go_wp2_with fail
      refine (spec_formatInt n _ (by omega) (by omega)).mono ?_
      rintro e w1 ⟨rfl, hb1⟩
      have B1 := Lib.hid hb1
      clear hb1
      by_cases hq : itoaB n = s
      · have hfin := Lib.hid (parsed (by omega) (by omega) hq)
        rw [hq]
        clear hq
        go_wp2_with fail
        go_ret2
        exact ⟨hfin.out, B1.out⟩
      · have hne := bytes_ne hq
        have hfin := Lib.hid (unparsed (s := s) (fun m hm => by
          have h1 := his.out m hm
          simp at h1
          rw [← Hn.out] at h1
          subst h1
          exact hq (itoaB_num hm)))
        obtain ⟨X, hX⟩ : ∃ X, X = itoaB n := ⟨_, rfl⟩
        rw [← hX] at hne ⊢
        clear hq hX
        go_wp2_with fail
        go_ret2
        exact ⟨hfin.out, B1.out⟩

set_option maxHeartbeats 1000000 in
theorem spec_parse_pos (s : ByteArray) (w : World) (hs : s.size ≤ 1048576) (h0 : 0 < s.size) (hc : s[0] ≠ 45) :
    Calls Tryd.prog 15 #[.string s] w fun e w' => isP s e ∧ Below w.heap.size w w' := by
  have hT : Tail s false s := tail_pos s h0 hc
  have hts : s.size ≤ 1048576 := hs
  have hfirst : ((s[0].toNat : Int) == 45) = false := by rw [beq_eq_false_iff_ne]; intro h; exact hc (UInt8.toNat_inj.1 (by show s[0].toNat = 45; omega))
  have hs0 : (0 : Int) < (s.size : Int) := by omega
  have HT := Lib.hid hT
  clear hT hc
  go_enter Tryd.func15, Tryd.ntmps15
  go_wp2_with fail
  refine (spec_isDigits s _ (by unfold maxLen; omega)).mono ?_
  rintro e w' ⟨rfl, rfl⟩
  cases hdig : digitsB s.data.toList
  · have hfin := Lib.hid (unparsed (HT.out.no (.inl hdig)))
    clear hdig
    go_wp2_with fail
    go_ret2
    exact ⟨hfin.out, Below.refl _ _⟩
  by_cases hlong : 19 < (s.size : Int)
  · have hfin := Lib.hid (unparsed (HT.out.no (.inr (by omega))))
    clear hdig
    go_wp2_with fail
    go_ret2
    exact ⟨hfin.out, Below.refl _ _⟩
  have hall : Hid (∀ k (h : k < s.size), 48 ≤ (s[k].toNat : Int) ∧ (s[k].toNat : Int) ≤ 57) := Lib.hid (by
    intro k hk
    have h1 : digitsB s.data.toList = true := hdig
    unfold digitsB at h1
    rw [Bool.and_eq_true] at h1
    have h2 := digB_range (List.all_eq_true.1 h1.1 _ (mem_at s k hk))
    omega)
  clear hdig
  go_wp2_with fail
  go_loop [6, 7, 8] (fun x y _ => ∃ k : Nat, k ≤ s.size ∧ valTo s k ≤ 9223372036854775808 ∧ x = .int .i64 (-(valTo s k : Int)) ∧ y = .int .i64 k) (fun _ y _ => s.size - (intOf y).toNat)
  case atStart => exact ⟨0, Nat.zero_le _, by rw [valTo_zero]; omega, by rw [valTo_zero]; rfl, rfl⟩
  case round =>
    obtain ⟨k, hk, hv, rfl, rfl⟩ := hrel
    by_cases hlt : k < s.size
    · obtain ⟨d1, d2⟩ := hall.out k hlt
      have hsu := valTo_succ s k hlt
      generalize hV : valTo s k = V at *
      have HV := Lib.hid hV
      have Hsu := Lib.hid hsu
      clear hV hsu
      have hi0 : (0 : Int) ≤ (k : Int) := by omega
      have hi1 : (k : Int) < (s.size : Int) := by omega
      have htd := td ((s[k].toNat : Int) - 48) (by omega) (by omega)
      by_cases hov : -(V : Int) < (-9223372036854775808 + ((s[k].toNat : Int) - 48)).tdiv 10
      · have hbig : 9223372036854775808 < V * 10 + (s[k].toNat - 48) := by rw [htd] at hov; omega
        have hfin := Lib.hid (unparsed (HT.out.over (k + 1) (by rw [Hsu.out]; exact hbig)))
        clear htd hbig
        go_wp2_with fail
        go_ret2
        exact ⟨hfin.out, Below.refl _ _⟩
      · have hsm : V * 10 + (s[k].toNat - 48) ≤ 9223372036854775808 := by rw [htd] at hov; omega
        have Hsm := Lib.hid hsm
        have hc : (V : Int) * 10 + ((s[k].toNat : Int) - 48) ≤ 9223372036854775808 := by omega
        clear htd hsm
        go_wp2_with fail
        go_round
        case rel => exact ⟨k + 1, by omega, by rw [Hsu.out]; exact Hsm.out, by rw [Hsu.out]; go_num, by go_num⟩
        case measure => simp [intOf]; omega
    · obtain rfl : k = s.size := by omega
      have hb0 : (valTo s s.size : Int) ≤ 9223372036854775808 := by omega
      by_cases hmin : (-(valTo s s.size : Int) == -9223372036854775808) = true
      · have hfin := Lib.hid (unparsed (HT.out.over_pos (by simp at hmin; omega)))
        clear hv
        go_wp2_with fail
        go_ret2
        exact ⟨hfin.out, Below.refl _ _⟩
      have hmin2 : (-(valTo s s.size : Int) == -9223372036854775808) = false := by simpa using hmin
      have hlt2 : (valTo s s.size : Int) ≤ 9223372036854775807 := by simp at hmin2; omega
      have his := Lib.hid (fun m (hm : Num s.data.toList m) => HT.out.is hm)
      obtain ⟨n, hn⟩ : ∃ n : Int, n = (valTo s s.size : Int) := ⟨_, rfl⟩
      rw [← hn] at hmin2 hlt2 ⊢
      have hn1 : 0 ≤ n := by omega
      have Hn := Lib.hid hn
      clear hn hv hmin hb0
      go_wp2_with fail
      refine (spec_formatInt n _ (by omega) (by omega)).mono ?_
      rintro e w1 ⟨rfl, hb1⟩
      have B1 := Lib.hid hb1
      clear hb1
      by_cases hq : itoaB n = s
      · have hfin := Lib.hid (parsed (by omega) (by omega) hq)
        rw [hq]
        clear hq
        go_wp2_with fail
        go_ret2
        exact ⟨hfin.out, B1.out⟩
      · have hne := bytes_ne hq
        have hfin := Lib.hid (unparsed (s := s) (fun m hm => by
          have h1 := his.out m hm
          simp at h1
          rw [← Hn.out] at h1
          subst h1
          exact hq (itoaB_num hm)))
        obtain ⟨X, hX⟩ : ∃ X, X = itoaB n := ⟨_, rfl⟩
        rw [← hX] at hne ⊢
        clear hq hX
        go_wp2_with fail
        go_ret2
        exact ⟨hfin.out, B1.out⟩


set_option maxHeartbeats 400000 in
theorem spec_parse_nil (s : ByteArray) (w : World) (h0 : s.size = 0) :
    Calls Tryd.prog 15 #[.string s] w fun e w' => isP s e ∧ Below w.heap.size w w' := by
  have hfin := Lib.hid (unparsed (s := s) (fun m hm => by
    have h1 := congrArg List.length hm.2.2
    rw [len_size] at h1
    have h2 : 0 < (Lib.itoa m).length := by
      unfold Lib.itoa; split
      · simp
      · exact decDigits_pos _
    omega))
  have hd := digitsB_nil s h0
  have hs0 : (s.size : Int) ≤ 0 := by omega
  have H0 := Lib.hid h0
  clear h0
  go_enter Tryd.func15, Tryd.ntmps15
  go_wp2_with fail
  refine (spec_isDigits s _ (by rw [H0.out]; unfold maxLen; omega)).mono ?_
  rintro e w' ⟨rfl, rfl⟩
  rw [hd]
  go_wp2_with fail
  go_ret2
  exact ⟨hfin.out, Below.refl _ _⟩

theorem spec_parseInt (s : ByteArray) (w : World) (hs : s.size ≤ 1048576) :
    Calls Tryd.prog 15 #[.string s] w fun e w' => isP s e ∧ Below w.heap.size w w' := by
  by_cases h0 : s.size = 0
  · exact spec_parse_nil s w h0
  · by_cases hc : s[0]'(by omega) = 45
    · exact spec_parse_neg s w hs (by omega) hc
    · exact spec_parse_pos s w hs (by omega) hc

theorem star_err : "*" ++ "errors.errorString" = "*errors.errorString" := by decide
theorem row_err (u : TypeId) (h : Tryd.prog.typeName? 3 u = some "*errors.errorString") : u = 78 :=
  typeName_ptr_named (nm := "errors.errorString") (by rw [star_err]; kernel_rfl) (by kernel_rfl) (by decide) u (by rw [star_err]; exact h)
/-- What the listed variables give: the table, then the two errors. -/
theorem errs_of_laid {W : World} {r : List (String × DataW Unit)}
    (h : laidMet Tryd.prog (("internal/strconv.uint64pow10", Rows.laid_internal_strconv_uint64pow10) :: ("strconv.ErrRange", Rows.laid_strconv_ErrRange) :: ("strconv.ErrSyntax", Rows.laid_strconv_ErrSyntax) :: r) W) : Errs W := by
  have ht : Tab W := by
    obtain ⟨ps, h, _⟩ := h
    exact Tab.of_vars h
  obtain ⟨a, s, h1, _⟩ := laid_sentinel (ti := 39) (tp := 78) (te := 80) (ts := 9) h.tail gRan (by kernel_rfl) Tryd.underlying39 row_err Tryd.underlying78 Tryd.underlying80 rfl rfl Tryd.underlying9 (by kernel_rfl) (by kernel_rfl)
  obtain ⟨a2, s2, h2, _⟩ := laid_sentinel (ti := 39) (tp := 78) (te := 80) (ts := 9) h.tail.tail gSyn (by kernel_rfl) Tryd.underlying39 row_err Tryd.underlying78 Tryd.underlying80 rfl rfl Tryd.underlying9 (by kernel_rfl) (by kernel_rfl)
  exact ⟨ht, ⟨_, _, h2⟩, ⟨_, _, h1⟩⟩
end Go.Proofs.YtjhildnagplmbaaDoor
