/- Contracts of PadZeros and Join: the model's and the program's. -/
import Derived.Test.YtkigfakfadoopaaGreatDoorGA
import Derived.Test.YtkigfakfadoopaaGreatDoorShelf
import Derived.Lib.Repeat
import Derived.Lib.Join
import Derived.Deep.RegionWith
import Derived.Lib.ItoaLen
import Derived.WalkSmall
import Derived.Lib.LaidTab
import Derived.Lib.AppendIntMem
import Derived.Maps.AppendAt
import Derived.Lib.Bytealg
import Derived.Test.YtkigfakfadoopaaGreatDoorGN
import Derived.Test.YtkigfakfadoopaaGreatDoorGI
import Derived.Test.YtkigfakfadoopaaGreatDoorGC
import Derived.Test.YtkigfakfadoopaaGreatDoorGD
namespace Go.Proofs.YtkigfakfadoopaaGreatDoor
set_option maxRecDepth 100000
open Go.RowKit

/-- j zeros, then l. -/
def zs (j : Nat) (l : List UInt8) : ByteArray := ⟨(List.replicate j 48 ++ l).toArray⟩
theorem zs_zero (s : ByteArray) : zs 0 s.data.toList = s := by simp [zs]
theorem zs_succ (j : Nat) (l : List UInt8) : (⟨#[48]⟩ : ByteArray) ++ zs j l = zs (j + 1) l := by
  unfold zs
  rw [show (⟨#[48]⟩ : ByteArray) = ⟨[48].toArray⟩ from rfl, ByteArray.mk_append_mk, List.replicate_succ]; rfl
theorem zs_size (j : Nat) (l : List UInt8) : (zs j l).size = j + l.length := by
  show (List.replicate j (48 : UInt8) ++ l).toArray.size = _
  simp
def padZ (s : ByteArray) (n : Int) : ByteArray := if 2000 < n then s else zs (n - s.size).toNat s.data.toList


theorem repeat_zero : ∀ c : Nat, Lib.repeatL [48] c = List.replicate c (48 : UInt8) := fun c => by
  have := Lib.repeatL_replicate (48 : UInt8) 1 c
  simpa using this
set_option maxHeartbeats 400000 in
theorem impl_padZeros (s : ByteArray) (n : Int) (w : World) (hs : s.size ≤ maxLen) :
    Calls Tryz.prog 72 #[.string s, .int .i64 n] w fun e w' => e = .returned (.string (padZ s n)) ∧ Below w.heap.size w w' := by
  unfold maxLen at hs
  by_cases hb : 2000 < n
  · have hp : Hid (padZ s n = s) := by unfold Hid padZ; rw [if_pos hb]
    go_enter Tryz.func72, Tryz.ntmps72
    go_wp2
    go_ret
    exact ⟨ret_str hp.out.symm, Below.refl _ _⟩
  by_cases hc : n ≤ (s.size : Int)
  · have hp : Hid (padZ s n = s) := by
      unfold Hid padZ
      rw [if_neg hb, show (n - (s.size : Int)).toNat = 0 by omega, zs_zero]
    go_enter Tryz.func72, Tryz.ntmps72
    go_wp2
    go_ret
    exact ⟨ret_str hp.out.symm, Below.refl _ _⟩
  · obtain ⟨c, hcn⟩ : ∃ c : Nat, (c : Int) = n - s.size := ⟨(n - s.size).toNat, by omega⟩
    have hp : Hid ((⟨(Lib.repeatL [48] c).toArray⟩ : ByteArray) ++ s = padZ s n) := by
      unfold Hid padZ
      rw [if_neg hb, ← hcn, Int.toNat_natCast, repeat_zero]
      have e1 : s = ⟨s.data.toList.toArray⟩ := by simp
      conv => lhs; rw [e1]
      rw [ByteArray.mk_append_mk]; rfl
    have hlen : Hid ((⟨(Lib.repeatL [48] c).toArray⟩ : ByteArray).size = c) := by
      unfold Hid
      show (Lib.repeatL [48] c).toArray.size = c
      rw [repeat_zero]; simp
    have Hcn := Lib.hid hcn
    have hcb : (c : Int) ≤ 2000 := by omega
    clear hcn
    go_enter Tryz.func72, Tryz.ntmps72
    go_wp2_with fail
    rw [← Hcn.out]
    refine (Tryz.strings_Repeat ⟨#[48]⟩ c _ (by omega) (by show 1 * c ≤ _; omega)).mono ?_
    rintro e w1 ⟨rfl, hb1⟩
    obtain ⟨z, hz⟩ : ∃ z : ByteArray, z = ⟨(Lib.repeatL [48] c).toArray⟩ := ⟨_, rfl⟩
    have Hz := Lib.hid hz
    rw [show (⟨(Lib.repeatL (ByteArray.mk #[48]).data.toList c).toArray⟩ : ByteArray) = z from hz.symm]
    have hzs : z.size ≤ 2000 := by rw [hz, hlen.out]; omega
    have HB := Lib.hid hb1
    clear hz hb1
    go_wp2_with fail
    go_ret
    exact ⟨ret_str (by rw [← hp.out, Hz.out]), HB.out⟩
end Go.Proofs.YtkigfakfadoopaaGreatDoor
namespace Go.Proofs.YtkigfakfadoopaaGreatDoor
set_option maxRecDepth 100000
open Go.RowKit

/-- The last k digits of v, zeros ahead. -/
def padD : Nat → Nat → List UInt8
  | 0, _ => []
  | k + 1, v => padD k (v / 10) ++ [UInt8.ofNat (48 + v % 10)]
theorem dec_split : ∀ (k u v : Nat), 0 < u → v < 10 ^ k → Lib.decDigits (u * 10 ^ k + v) = Lib.decDigits u ++ padD k v
  | 0, u, v, _, hv => by
    obtain rfl : v = 0 := by simpa using hv
    simp [padD]
  | k + 1, u, v, hu, hv => by
    rw [Nat.pow_succ] at hv ⊢
    have h10 : 10 ^ k * 1 ≤ 10 ^ k * u := Nat.mul_le_mul_left _ hu
    have hp := Nat.pow_pos (n := k) (show 0 < 10 by omega)
    have e : u * (10 ^ k * 10) = (u * 10 ^ k) * 10 := by rw [Nat.mul_assoc]
    have hm : u * 10 ^ k = 10 ^ k * u := Nat.mul_comm _ _
    rw [decDigits_last (by omega), show (u * (10 ^ k * 10) + v) / 10 = u * 10 ^ k + v / 10 by omega, show (u * (10 ^ k * 10) + v) % 10 = v % 10 by omega,
      dec_split k u (v / 10) hu (by omega), padD, List.append_assoc]
theorem padD_zero : ∀ k, padD k 0 = List.replicate k 48
  | 0 => rfl
  | k + 1 => by rw [padD, Nat.zero_div, padD_zero k, List.replicate_succ']; rfl
theorem padD_of : ∀ (k v : Nat), v < 10 ^ (k + 1) → List.replicate (k + 1 - (Lib.decDigits v).length) 48 ++ Lib.decDigits v = padD (k + 1) v
  | 0, v, hv => by
    have h : v < 10 := by simpa using hv
    rw [Lib.decDigits_one h, padD, padD, Nat.mod_eq_of_lt h]; rfl
  | k + 1, v, hv => by
    rw [padD]
    by_cases h : v < 10
    · rw [Lib.decDigits_one h, show v / 10 = 0 by omega, padD_zero, Nat.mod_eq_of_lt h]; rfl
    · rw [Nat.pow_succ] at hv
      rw [decDigits_last h, ← padD_of k (v / 10) (by omega), List.length_append, List.append_assoc, List.length_singleton]
      congr 2; omega
/-- The decimal digits of limbs' worth. -/
def textL (l : List Int) : List UInt8 := Lib.decDigits (val l).toNat
def textB (l : List Int) : ByteArray := ⟨(textL l).toArray⟩
theorem textL_cons {x : Int} {l : List Int} (x0 : 0 ≤ x) (x1 : x ≤ 999999999) (hv : 0 < val l) : textL (x :: l) = textL l ++ padD 9 x.toNat := by
  unfold textL
  rw [← dec_split 9 _ _ (by omega) (by omega)]
  congr 1
  show (x + 1000000000 * val l).toNat = _
  omega
theorem textL_one {x : Int} (x0 : 0 ≤ x) : textL [x] = Lib.decDigits x.toNat := by
  unfold textL
  congr 1
  show (x + 1000000000 * 0).toNat = _
  omega
theorem itoaDec {x : Int} (x0 : 0 ≤ x) : Lib.itoa x = Lib.decDigits x.toNat := by
  obtain ⟨n, rfl⟩ := Int.eq_ofNat_of_zero_le x0
  rw [Lib.itoa_nonneg]; rfl
theorem padZ_nine {s : ByteArray} {x : Int} (hs : s.data.toList = Lib.itoa x) (x0 : 0 ≤ x) (x1 : x ≤ 999999999) : padZ s 9 = ⟨(padD 9 x.toNat).toArray⟩ := by
  have hl : s.size = (Lib.decDigits x.toNat).length := by rw [← len_size, hs, itoaDec x0]
  unfold padZ zs
  rw [if_neg (by omega), hs, itoaDec x0, ← padD_of 8 x.toNat (by omega), hl]
  congr 4
  omega
theorem drop_pos {xs : List Int} (h : Canon xs) {k : Nat} (hk : k < xs.length) : 0 < val (xs.drop k) := by
  refine canon_pos ⟨h.1.drop k, ?_⟩ (by rw [List.length_drop]; omega)
  rw [List.getLast?_drop, if_neg (by omega)]
  exact h.2
theorem textL_drop {xs : List Int} (h : Canon xs) {k : Nat} (hk : k + 1 < xs.length) : textL (xs.drop k) = textL (xs.drop (k + 1)) ++ padD 9 (xs[k]'(by omega)).toNat := by
  have hr := h.1 xs[k] (List.getElem_mem (by omega))
  rw [List.drop_eq_getElem_cons (by omega)]
  exact textL_cons hr.1 hr.2 (drop_pos h hk)
theorem textL_last {xs : List Int} (h : Canon xs) {m : Nat} (hm : xs.length = m + 1) : textL (xs.drop m) = Lib.itoa (xs[m]'(by omega)) := by
  have hr := h.1 xs[m] (List.getElem_mem (by omega))
  rw [List.drop_eq_getElem_cons (by omega), List.drop_eq_nil_of_le (by omega), textL_one hr.1, itoaDec hr.1]
theorem textL_len {xs : List Int} (h : InR xs) (h0 : 0 < xs.length) : (textL xs).length ≤ 9 * xs.length := by
  refine decDigits_len _ _ (by omega) ?_
  have h1 := val_lt h
  have h2 : ∀ k, pw k = ((10 ^ (9 * k) : Nat) : Int) := by
    intro k
    induction k with
    | zero => rfl
    | succ k ih =>
      rw [pw, ih, Nat.mul_succ, Nat.pow_add]; simp; omega
  rw [h2] at h1
  obtain ⟨P, hP⟩ : ∃ P : Nat, P = 10 ^ (9 * xs.length) := ⟨_, rfl⟩
  rw [← hP] at h1 ⊢
  have h3 := val_nonneg h
  omega
/-- What FormatNat returns. -/
noncomputable def fmtNat (xs : List Int) : List UInt8 := open Classical in if Ok xs then (if xs = [] then [48] else textL xs) else []
theorem fmtNat_ok {xs : List Int} (h : Ok xs) : fmtNat xs = textL xs := by
  unfold fmtNat
  rw [if_pos h]
  split
  · next e => subst e; unfold textL; rw [show (val []).toNat = 0 from rfl, Lib.decDigits_one (by omega)]; rfl
  · rfl
theorem fmtNat_no {xs : List Int} (h : ¬ Ok xs) : fmtNat xs = [] := by unfold fmtNat; rw [if_neg h]
def FormatNatIs (xs : List Int) (r : ByteArray) : Prop := r = ⟨(fmtNat xs).toArray⟩
theorem formatNat_unique {xs : List Int} {r r' : ByteArray} (h : FormatNatIs xs r) (h' : FormatNatIs xs r') : r = r' := h.trans h'.symm
theorem formatNat_text {xs : List Int} (h : Ok xs) : FormatNatIs xs (textB xs) := by unfold FormatNatIs textB; rw [fmtNat_ok h]
theorem textB_size (xs : List Int) : (textB xs).size = (textL xs).length := by
  show (textL xs).toArray.size = _; simp
theorem textB_step {xs : List Int} (h : Canon xs) {k : Nat} (hk : k + 1 < xs.length) {s : ByteArray} (hs : s.data.toList = Lib.itoa (xs[k]'(by omega))) : textB (xs.drop (k + 1)) ++ padZ s 9 = textB (xs.drop k) := by
  have hr := h.1 xs[k] (List.getElem_mem (by omega))
  unfold textB
  rw [padZ_nine hs hr.1 hr.2, ByteArray.mk_append_mk, ← textL_drop h hk]
/-- What FormatNat writes is the text of a number, and worth its value. -/
theorem format_parse {xs : List Int} {r : ByteArray} (h : Ok xs) (hr : FormatNatIs xs r) : NatText r ∧ worth r r.size = val xs := by
  have hd : r.data.toList = Lib.decDigits (val xs).toNat := by rw [hr, fmtNat_ok h]; simp [textL]
  have hv := val_nonneg h.1.1
  have hsz : r.size = (Lib.decDigits (val xs).toNat).length := by rw [← len_size, hd]
  refine ⟨⟨by rw [hd]; exact digitsB_dec _, ?_, ?_⟩, ?_⟩
  · by_cases h0 : xs = []
    · subst h0
      rw [hsz, show (val []).toNat = 0 from rfl, Lib.decDigits_one (by omega)]; simp
    · have := textL_len h.1.1 (List.length_pos_iff.2 h0)
      have h60 := h.2
      unfold textL at this
      omega
  · by_cases h1 : r.size ≤ 1
    · exact .inl h1
    · right
      rw [hd]
      have hf : ∀ u : Nat, 10 ≤ u → (Lib.decDigits u).head? ≠ some 48 := by
        intro u
        induction u using Nat.strongRecOn with
        | ind u ih =>
          intro hu
          rw [decDigits_last (by omega)]
          by_cases h10 : u / 10 < 10
          · rw [Lib.decDigits_one h10]
            simp only [List.cons_append, List.head?_cons, ne_eq, Option.some.injEq]
            intro e
            have := congrArg UInt8.toNat e
            rw [digit_byte h10] at this
            have e48 : (48 : UInt8).toNat = 48 := rfl
            omega
          · have := ih (u / 10) (by omega) (by omega)
            have hp := decDigits_pos (u / 10)
            rw [List.head?_append]
            match hl : Lib.decDigits (u / 10) with
            | [] => rw [hl] at hp; simp at hp
            | c :: l => rw [hl] at this; simpa using this
      refine hf _ ?_
      by_cases h10 : (val xs).toNat < 10
      · rw [hsz, Lib.decDigits_one h10] at h1; simp at h1
      · omega
  · unfold worth
    rw [List.take_of_length_le (by rw [len_size]; exact Nat.le_refl _), hd, val_decDigits]; omega
end Go.Proofs.YtkigfakfadoopaaGreatDoor
namespace Go.Proofs.YtkigfakfadoopaaGreatDoor
set_option maxRecDepth 100000
open Go.RowKit

theorem itoa_neg_one {u : Nat} (h0 : 0 < u) (h : u < 10) : Lib.itoa (-(u : Int)) = [45, UInt8.ofNat (48 + u)] := by
  rw [Lib.itoa_neg u h0, Lib.decDigits_one h]
theorem itoa_neg_more {u : Nat} (h : ¬ u < 10) : Lib.itoa (-(u : Int)) = Lib.itoa (-((u / 10 : Nat) : Int)) ++ [UInt8.ofNat (48 + u % 10)] := by
  rw [Lib.itoa_neg u (by omega), Lib.itoa_neg (u / 10) (by omega), decDigits_last h]; rfl
def itoaB (n : Int) : ByteArray := ⟨(Lib.itoa n).toArray⟩

theorem one_byte (n : Nat) (hn : n < 256) (w : World) : (convert 22 9 (.slice (some ⟨w.heap.size, 0, none⟩) 1 1)).run Tryz.prog (w.alloc (.cells #[.int .u8 n] 5)) = .ok (.string ⟨#[UInt8.ofNat n]⟩) (w.alloc (.cells #[.int .u8 n] 5)) :=
  run_one_byte (P := Tryz.prog) 22 9 5 5 Tryz.underlying22 Tryz.underlying5 Tryz.underlying9 n hn w
theorem ba_cons (a b : UInt8) : (⟨#[a]⟩ : ByteArray) ++ ⟨#[b]⟩ = ⟨[a, b].toArray⟩ := ByteArray.mk_append_mk [a] [b]
theorem ba_snoc (l : List UInt8) (b : UInt8) : (⟨l.toArray⟩ : ByteArray) ++ ⟨#[b]⟩ = ⟨(l ++ [b]).toArray⟩ := ByteArray.mk_append_mk l [b]
theorem itoaB_size (n : Int) (h0 : -9223372036854775808 ≤ n) (h1 : n ≤ 9223372036854775807) : (itoaB n).size ≤ 21 := by
  show (Lib.itoa n).toArray.size ≤ 21
  simpa using Lib.itoa_length_le n h0 h1
theorem dec_more {k : Nat} {out : List UInt8} (h : ¬ k < 10) : Lib.decDigits (k / 10) ++ ((48 + UInt8.ofNat (k % 10)) :: out) = Lib.decDigits k ++ out := by
  rw [decDigits_last h, List.append_assoc]; simp
theorem dec_last {k : Nat} {out : List UInt8} (h : k < 10) : (48 + UInt8.ofNat k) :: out = Lib.decDigits k ++ out := by
  rw [Lib.decDigits_one h]; simp
end Go.Proofs.YtkigfakfadoopaaGreatDoor
namespace Go.Proofs.YtkigfakfadoopaaGreatDoor
set_option maxRecDepth 100000
open Go.RowKit

theorem laid_tail {P : Program} {W : World} {x : String × DataW Unit} {r : List (String × DataW Unit)} {ps : List MemPlace} (h : DataW.LaidVars P W (x :: r) ps) : ∃ q, DataW.LaidVars P W r q := by
  obtain ⟨n, d⟩ := x
  obtain ⟨g, t, cs, fuel, p, q, _, _, _, _, hr, _⟩ := h
  exact ⟨q, hr⟩
theorem tab_of_vars {P : Program} {W : World} {name : String} {k : IntKind} {zs : List Int} {rest : List (String × DataW Unit)} {ps : List MemPlace} {g : Nat} {t e : TypeId} {n : Nat}
    (hg : P.globalNamed name = some g) (hty : (P.globals[g]?).map (·.type) = some t) (ht : P.underlying t = some (.array n e)) (he : P.underlying e = some (.int k)) (hce : P.cellsOf e = 1) (hct : P.cellsOf t = n)
    (h : DataW.LaidVars P W ((name, Lib.tabData k zs) :: rest) ps) : Lib.TabIs P W name k zs := by
  obtain ⟨g', t', cs, fuel, p, q, hg', ht', hvar, hd, _, _⟩ := h
  obtain rfl := Option.some.inj (hg.symm.trans hg')
  obtain rfl := Option.some.inj (hty.symm.trans ht')
  unfold Lib.TabIs
  rw [hvar, ← Lib.cells_of_tab ht he hce hct hd]

/-- The library's table of powers of ten, as it is laid. -/
def Tab (w : World) : Prop := Lib.TabIs Tryz.prog w "internal/strconv.uint64pow10" .u64 Lib.pow10Tab
theorem gTab : Tryz.prog.globalNamed "internal/strconv.uint64pow10" = some 1 := by kernel_rfl
theorem Tab.below {w w' : World} (h : Tab w) (hb : Below w.heap.size w w') : Tab w' :=
  var?_below hb gTab (by
    have h1 : w.cell? ⟨1, 0, none⟩ = some (.int .u64 1) := Lib.TabIs.cell h gTab 0 (by decide)
    exact World.block_lt_of_cell? _ _ h1) h
theorem Tab.of_vars {W : World} {rest : List (String × DataW Unit)} {ps : List MemPlace} (h : DataW.LaidVars Tryz.prog W (("internal/strconv.uint64pow10", Rows.laid_internal_strconv_uint64pow10) :: rest) ps) : Tab W :=
  tab_of_vars (t := 144) (e := 130) (n := 20) gTab (by kernel_rfl) Tryz.underlying144 Tryz.underlying130 (by kernel_rfl) (by kernel_rfl) h

theorem impl_formatInt (n : Int) (w : World) (h0 : -9223372036854775808 ≤ n) (h1 : n ≤ 9223372036854775807) (ht : Tab w) :
    Calls Tryz.prog 73 #[.int .i64 n] w fun e w' => e = .returned (.string (itoaB n)) ∧ Below w.heap.size w w' := by
  have con := Lib.hid (Tryz.strconv_Itoa n h0 h1 w ht)
  clear ht
  go_enter Tryz.func73, Tryz.ntmps73
  go_wp2_with fail
  refine con.out.mono ?_
  rintro e w1 ⟨rfl, k, os, hw⟩
  have hb := Lib.hid (show Below w.heap.size w w1 by rw [hw]; exact Lib.below_grow _ _ (Nat.le_refl _) _ _)
  clear hw con
  go_wp2_with fail
  go_ret
  exact ⟨rfl, hb.out⟩
end Go.Proofs.YtkigfakfadoopaaGreatDoor
namespace Go.Proofs.YtkigfakfadoopaaGreatDoor
set_option maxRecDepth 100000
open Go.RowKit

/-- The text of the first k strings, d between them. -/
def jb (xs : List ByteArray) (d : ByteArray) (k : Nat) : List UInt8 := Lib.join ((xs.take k).map (·.data.toList)) d.data.toList
theorem jb_zero (xs : List ByteArray) (d : ByteArray) : jb xs d 0 = [] := rfl
theorem jb_one (xs : List ByteArray) (d : ByteArray) (h : 0 < xs.length) : jb xs d 1 = xs[0].data.toList := by
  match xs, h with
  | x :: r, _ => simp [jb, Lib.join_one]
theorem jb_succ (xs : List ByteArray) (d : ByteArray) (k : Nat) (h0 : 0 < k) (h : k < xs.length) : jb xs d (k + 1) = jb xs d k ++ d.data.toList ++ xs[k].data.toList := by
  match xs, k, h0, h with
  | x :: r, m + 1, _, h =>
    have hm : m < r.length := by simpa using h
    unfold jb
    rw [List.take_succ_cons, List.take_succ_cons, List.map_cons, List.map_cons, Lib.join_cons, Lib.join_cons, List.map_take, List.map_take,
      Lib.joinTail_take_succ d.data.toList (r.map (·.data.toList)) m r[m].data.toList (by simp [hm])]
    simp
theorem jb_le (xs : List ByteArray) (d : ByteArray) : ∀ k, k ≤ xs.length → (jb xs d k).length ≤ szTo xs k + k * d.size
  | 0, _ => by simp [jb_zero]
  | k + 1, h => by
    have ih := jb_le xs d k (by omega)
    have hs := szTo_succ xs k (by omega)
    rw [Nat.succ_mul]
    by_cases h0 : k = 0
    · subst h0
      rw [jb_one xs d (by omega), len_size]; omega
    · rw [jb_succ xs d k (by omega) (by omega)]
      simp only [List.length_append, len_size]; omega
def joinB (xs : List ByteArray) (d : ByteArray) (k : Nat) : ByteArray := ⟨(jb xs d k).toArray⟩
theorem joinB_size (xs : List ByteArray) (d : ByteArray) (k : Nat) : (joinB xs d k).size = (jb xs d k).length := by
  show (jb xs d k).toArray.size = _; simp
theorem bytes_eta (s : ByteArray) : (⟨s.data.toList.toArray⟩ : ByteArray) = s := by simp
theorem joinB_one (xs : List ByteArray) (d : ByteArray) (h : 0 < xs.length) : joinB xs d 0 ++ xs[0] = joinB xs d 1 := by
  have e : xs[0] = ⟨xs[0].data.toList.toArray⟩ := (bytes_eta _).symm
  unfold joinB
  rw [jb_one xs d h, jb_zero]
  conv => lhs; rw [e]
  rw [ByteArray.mk_append_mk]; rfl
theorem joinB_succ (xs : List ByteArray) (d : ByteArray) (k : Nat) (h0 : 0 < k) (h : k < xs.length) : joinB xs d k ++ d ++ xs[k] = joinB xs d (k + 1) := by
  have e : xs[k] = ⟨xs[k].data.toList.toArray⟩ := (bytes_eta _).symm
  have e2 : d = ⟨d.data.toList.toArray⟩ := (bytes_eta _).symm
  unfold joinB
  rw [jb_succ xs d k h0 h]
  conv => lhs; rw [e]; arg 1; arg 2; rw [e2]
  rw [ByteArray.mk_append_mk, ByteArray.mk_append_mk]


theorem impl_joinWith (A : Option Addr) (n c : Nat) (xs : List ByteArray) (d : ByteArray) (w : World) (hn : xs.length = n) (hcap : n ≤ c) (hJ : szTo xs n + n * d.size ≤ 140737488355328) (hm : n ≤ 1048576) (hr : Reads w A (xs.map .string)) :
    Calls Tryz.prog 87 #[.string d, .slice A n c] w fun e w' => e = .returned (.string (joinB xs d n)) ∧ Below w.heap.size w w' := by
  have hlen := jb_le xs d n (by omega)
  have hall : jb xs d n = Lib.join (xs.map (·.data.toList)) d.data.toList := by unfold jb; rw [List.take_of_length_le (by omega)]
  by_cases h0 : n = 0
  · subst h0
    go_enter Tryz.func87, Tryz.ntmps87
    go_wp2_with fail
    refine (Tryz.strings_Join_none A c d _).mono ?_
    rintro e w' ⟨rfl, rfl⟩
    go_wp2_with fail
    go_ret
    exact ⟨ret_str (by unfold joinB; rw [jb_zero]), Below.refl _ _⟩
  · obtain ⟨b, o, rfl, hb, hc⟩ := hr.at_ (by simp; omega)
    subst hn
    have hcells : ∀ (j : Nat) x, xs[j]? = some x → w.cell? ⟨b, o + j, none⟩ = some (.string x) := fun j x hx => by
      obtain ⟨hj, he⟩ := List.getElem?_eq_some_iff.1 hx
      rw [hc j (by simpa using hj)]; simp [he]
    have con := Tryz.strings_Join b o c xs d w hcells hb (by omega) hcap (by rw [← hall]; omega)
    have hjj : Hid ((⟨(Lib.join (xs.map (·.data.toList)) d.data.toList).toArray⟩ : ByteArray) = joinB xs d xs.length) := by unfold Hid joinB; rw [hall]
    have Hcon := Lib.hid con
    clear con hall hcells hc hr
    go_enter Tryz.func87, Tryz.ntmps87
    go_wp2_with fail
    refine Hcon.out.mono ?_
    rintro e w' ⟨rfl, hbel⟩
    have HB := Lib.hid hbel
    clear hbel
    go_wp2_with fail
    go_ret
    exact ⟨ret_str hjj.out, HB.out⟩

theorem impl_join (A : Option Addr) (n c : Nat) (xs : List ByteArray) (d : ByteArray) (w : World) (hn : xs.length = n) (hcap : n ≤ c) (hJ : szTo xs n + n * d.size ≤ 140737488355328) (hm : n ≤ 1048576) (hr : Reads w A (xs.map .string)) :
    Calls Tryz.prog 74 #[.slice A n c, .string d] w fun e w' => e = .returned (.string (joinB xs d n)) ∧ Below w.heap.size w w' := by
  have Hcon := Lib.hid (impl_joinWith A n c xs d w hn hcap hJ hm hr)
  clear hn hr hJ
  go_enter Tryz.func74, Tryz.ntmps74
  go_wp2_with fail
  refine Hcon.out.mono ?_
  rintro e w' ⟨rfl, hbel⟩
  have HB := Lib.hid hbel
  clear hbel
  go_wp2_with fail
  go_ret
  exact ⟨rfl, HB.out⟩
end Go.Proofs.YtkigfakfadoopaaGreatDoor
namespace Go.Proofs.YtkigfakfadoopaaGreatDoor
set_option maxRecDepth 100000
open Go.RowKit

def byteAt (s : ByteArray) (k : Nat) : UInt8 := if h : k < s.size then s[k] else 0
theorem byteAt_lt {s : ByteArray} {k : Nat} (h : k < s.size) : byteAt s k = s[k] := by unfold byteAt; rw [dif_pos h]
/-- What has been cut off after k bytes, and where the next piece begins. -/
def splitS (s d : ByteArray) : Nat → List ByteArray × Nat
  | 0 => ([], 0)
  | k + 1 => if d.data.toList.contains (byteAt s k) then ((splitS s d k).1 ++ [s.extract (splitS s d k).2 k], k + 1) else splitS s d k
def pieces (s d : ByteArray) (k : Nat) : List ByteArray := (splitS s d k).1
def begins (s d : ByteArray) (k : Nat) : Nat := (splitS s d k).2
def splitAll (s d : ByteArray) : List ByteArray := pieces s d s.size ++ [s.extract (begins s d s.size) s.size]
theorem split_hit {s d : ByteArray} {k : Nat} (h : d.data.toList.contains (byteAt s k) = true) : pieces s d (k + 1) = pieces s d k ++ [s.extract (begins s d k) k] ∧ begins s d (k + 1) = k + 1 := by
  unfold pieces begins; rw [splitS, if_pos h]; exact ⟨rfl, rfl⟩
theorem split_miss {s d : ByteArray} {k : Nat} (h : d.data.toList.contains (byteAt s k) = false) : pieces s d (k + 1) = pieces s d k ∧ begins s d (k + 1) = begins s d k := by
  unfold pieces begins; rw [splitS, if_neg (by rw [h]; simp)]; exact ⟨rfl, rfl⟩
theorem begins_le (s d : ByteArray) : ∀ k, begins s d k ≤ k
  | 0 => Nat.le_refl _
  | k + 1 => by
    have := begins_le s d k
    cases h : d.data.toList.contains (byteAt s k)
    · rw [(split_miss h).2]; omega
    · rw [(split_hit h).2]; omega
theorem pieces_le (s d : ByteArray) : ∀ k, (pieces s d k).length ≤ k
  | 0 => Nat.le_refl _
  | k + 1 => by
    have := pieces_le s d k
    cases h : d.data.toList.contains (byteAt s k)
    · rw [(split_miss h).1]; omega
    · rw [(split_hit h).1]; simp; omega
theorem splitAll_length (s d : ByteArray) : (splitAll s d).length = (pieces s d s.size).length + 1 := by simp [splitAll]
theorem splitAll_le (s d : ByteArray) : (splitAll s d).length ≤ s.size + 1 := by have := pieces_le s d s.size; rw [splitAll_length]; omega

/-- None of the first k bytes of d is c. -/
def NoneTo (d : ByteArray) (c : UInt8) (k : Nat) : Prop := ∀ j (h : j < d.size), j < k → d[j] ≠ c
theorem NoneTo.zero (d : ByteArray) (c : UInt8) : NoneTo d c 0 := fun _ _ h => absurd h (by omega)
theorem NoneTo.succ {d : ByteArray} {c : UInt8} {k : Nat} (h : NoneTo d c k) (hk : k < d.size) (hc : d[k] ≠ c) : NoneTo d c (k + 1) := by
  intro j hj hlt
  by_cases e : j = k
  · subst e; exact hc
  · exact h j hj (by omega)
theorem NoneTo.no {d : ByteArray} {c : UInt8} {k : Nat} (h : NoneTo d c k) (hk : d.size ≤ k) : d.data.toList.contains c = false := by
  rw [← Bool.not_eq_true, List.contains_iff_mem]
  intro hm
  obtain ⟨j, hj, he⟩ := List.mem_iff_getElem.1 hm
  exact h j (by simpa using hj) (by have : j < d.size := by simpa using hj
                                    omega) he
theorem hit_yes {d : ByteArray} {c : UInt8} {k : Nat} (hk : k < d.size) (hc : d[k] = c) : d.data.toList.contains c = true := by
  rw [List.contains_iff_mem, ← hc]; exact mem_at d k hk

/-- What a split's loop knows after i bytes. -/
def SplitTo (s d : ByteArray) (w wr : World) (out : Value) (i : Nat) : Prop :=
  wr.ownsRow w.heap.size 9 1 out (pieces s d i).length ((pieces s d i).map .string) ∧ Below w.heap.size w wr
theorem SplitTo.draws {s d : ByteArray} {w wr : World} {out : Value} {i n : Nat} (h : SplitTo s d w wr out i) : SplitTo s d w (wr.drewN n) out i :=
  ⟨h.1, below_drewN h.2 n⟩
theorem SplitTo.miss {s d : ByteArray} {w wr : World} {out : Value} {i : Nat} (h : SplitTo s d w wr out i) (hm : d.data.toList.contains (byteAt s i) = false) : SplitTo s d w wr out (i + 1) := by
  unfold SplitTo; rw [(split_miss hm).1]; exact h
theorem SplitTo.hit {s d : ByteArray} {w wr w1 : World} {out v' : Value} {i : Nat} {o : Obj} (h : SplitTo s d w wr out i) (hm : d.data.toList.contains (byteAt s i) = true)
    (hown : w1.ownsRow w.heap.size 9 1 v' ((pieces s d i).length + 1) ((pieces s d i).map .string ++ [.string (s.extract (begins s d i) i)])) (hg : (wr.alloc o).grownBy w1 out.ownBlock) : SplitTo s d w w1 v' (i + 1) := by
  unfold SplitTo
  rw [(split_hit hm).1]
  exact ⟨by simpa using hown, (h.2.alloc h.2.size o).grown hg (by have := h.2.size; simp; omega) (fun k hk => (h.1.lt k hk).1)⟩
/-- What a split ends with: the last piece appended. -/
theorem SplitTo.last {s d : ByteArray} {w wr w1 : World} {out v' : Value} {o : Obj} (h : SplitTo s d w wr out s.size)
    (hown : w1.ownsRow w.heap.size 9 1 v' ((pieces s d s.size).length + 1) ((pieces s d s.size).map .string ++ [.string (s.extract (begins s d s.size) s.size)])) (hg : (wr.alloc o).grownBy w1 out.ownBlock) :
    w1.ownsRow w.heap.size 9 1 v' (splitAll s d).length ((splitAll s d).map .string) ∧ Below w.heap.size w w1 := by
  rw [splitAll_length]
  unfold splitAll
  exact ⟨by simpa using hown, (h.2.alloc h.2.size o).grown hg (by have := h.2.size; simp; omega) (fun k hk => (h.1.lt k hk).1)⟩


theorem indexByte_contains (c : UInt8) : ∀ (l : List UInt8), decide ((0 : Int) ≤ Lib.indexByte l c) = l.contains c
  | [] => by simp [Lib.indexByte]
  | b :: l => by
    have h := indexByte_contains c l
    have hg := Lib.indexByte_ge l c
    unfold Lib.indexByte
    rw [List.contains_cons, ← h]
    by_cases e : b = c
    · simp [e]
    · rw [if_neg (by simpa using e)]
      have e2 : (c == b) = false := by rw [beq_eq_false_iff_ne]; exact fun h => e h.symm
      rw [e2, Bool.false_or]
      split
      · next h1 => simp at h1; rw [h1]
      · next h1 => simp at h1; rw [decide_eq_decide]; omega


end Go.Proofs.YtkigfakfadoopaaGreatDoor
namespace Go.Proofs.YtkigfakfadoopaaGreatDoor
set_option maxRecDepth 100000
open Go.RowKit

/-- What FormatNat ends in. -/
def FntEnd (xs : List Int) (w w' : World) (e : Ending) : Prop := ∃ r, e = .returned (.string r) ∧ FormatNatIs xs r ∧ Below w.heap.size w w'
theorem fnt_no {xs : List Int} (h : ¬ Ok xs) (w : World) : FntEnd xs w w (.returned (.string ⟨#[]⟩)) := ⟨_, rfl, by unfold FormatNatIs; rw [fmtNat_no h], Below.refl _ _⟩
theorem fnt_zero (w : World) : FntEnd [] w w (.returned (.string ⟨#[48]⟩)) := ⟨_, rfl, by unfold FormatNatIs fmtNat; rw [if_pos ⟨canon_nil, by simp⟩, if_pos rfl], Below.refl _ _⟩
theorem itoaB_list (x : Int) : (itoaB x).data.toList = Lib.itoa x := by unfold itoaB; simp
theorem padZ_size (x : Int) (x0 : 0 ≤ x) (x1 : x ≤ 999999999) : (padZ (itoaB x) 9).size = 9 := by
  rw [padZ_nine (itoaB_list x) x0 x1]
  show (padD 9 x.toNat).toArray.size = 9
  simp [padD]

/-- The words of the program's FormatNat: each limb with nine digits, the last limb's first. -/
def padS (x : Int) : ByteArray := padZ (itoaB x) 9
def wordsOf (xs : List Int) : List ByteArray := xs.reverse.map padS
theorem wordsOf_len (xs : List Int) : (wordsOf xs).length = xs.length := by simp [wordsOf]
theorem wordsOf_at (xs : List Int) (j i : Nat) (h : j + i + 1 = xs.length) : (wordsOf xs)[j]'(by rw [wordsOf_len]; omega) = padS (xs[i]'(by omega)) := by
  unfold wordsOf
  rw [List.getElem_map, List.getElem_reverse]
  congr 2
  omega
def allWords (xs : List Int) (m : Nat) (h : m < xs.length) : List ByteArray := (wordsOf xs).set 0 (itoaB xs[m])
theorem allWords_len (xs : List Int) (m : Nat) (h : m < xs.length) : (allWords xs m h).length = xs.length := by unfold allWords; rw [List.length_set, wordsOf_len]
theorem allWords_text (xs : List Int) (m : Nat) (hx : Canon xs) (hm : xs.length = m + 1) : ∀ k, k ≤ m → jb (allWords xs m (by omega)) ⟨#[]⟩ (k + 1) = textL (xs.drop (m - k))
  | 0, _ => by
    rw [jb_one _ _ (by rw [allWords_len]; omega), Nat.sub_zero, textL_last hx hm]
    unfold allWords
    rw [List.getElem_set_self, itoaB_list]
  | k + 1, hk => by
    have ih := allWords_text xs m hx hm k (by omega)
    rw [jb_succ _ _ _ (by omega) (by rw [allWords_len]; omega), ih]
    have hi : m - k = (m - (k + 1)) + 1 := by omega
    rw [hi, textL_drop hx (k := m - (k + 1)) (by omega)]
    have e1 : (allWords xs m (by omega))[k + 1]'(by rw [allWords_len]; omega) = padS (xs[m - (k + 1)]'(by omega)) := by
      unfold allWords
      rw [List.getElem_set_ne (by omega)]
      exact wordsOf_at xs (k + 1) (m - (k + 1)) (by omega)
    have hr := hx.1 xs[m - (k + 1)] (List.getElem_mem (by omega))
    rw [e1, padS, padZ_nine (itoaB_list _) hr.1 hr.2]
    simp
theorem allWords_join (xs : List Int) (m : Nat) (hx : Canon xs) (hm : xs.length = m + 1) : joinB (allWords xs m (by omega)) ⟨#[]⟩ (m + 1) = textB xs := by
  unfold joinB textB
  rw [allWords_text xs m hx hm m (Nat.le_refl _), Nat.sub_self, List.drop_zero]
theorem szTo_mul : ∀ (ws : List ByteArray) (B : Nat), (∀ x ∈ ws, x.size ≤ B) → ∀ k, k ≤ ws.length → szTo ws k ≤ k * B
  | _, _, _, 0, _ => by simp [szTo]
  | ws, B, h, k + 1, hk => by
    have ih := szTo_mul ws B h k (by omega)
    rw [szTo_succ ws k (by omega), Nat.succ_mul]
    have := h ws[k] (List.getElem_mem (by omega)); omega
theorem allWords_size (xs : List Int) (m : Nat) (hx : InR xs) (hm : xs.length = m + 1) (h60 : m + 1 ≤ 60) : szTo (allWords xs m (by omega)) (m + 1) + (m + 1) * (⟨#[]⟩ : ByteArray).size ≤ 140737488355328 := by
  have h1 := szTo_mul (allWords xs m (by omega)) 30 (fun x hx' => by
    unfold allWords at hx'
    rcases List.mem_or_eq_of_mem_set hx' with h | h
    · unfold wordsOf at h
      obtain ⟨z, hz, rfl⟩ := List.mem_map.1 h
      have := hx z (List.mem_reverse.1 hz)
      unfold padS
      rw [padZ_size z this.1 this.2]; omega
    · have := hx xs[m] (List.getElem_mem (by omega))
      rw [h]
      have := itoaB_size xs[m] (by omega) (by omega); omega) (m + 1) (by rw [allWords_len]; omega)
  have h2 : (⟨#[]⟩ : ByteArray).size = 0 := rfl
  rw [h2]; omega
theorem allWords_both {xs : List Int} {m k : Nat} (hk : k = m + 1) (hmx : m < xs.length) (hx : Canon xs) (hl : xs.length = k) (h60 : k ≤ 60) :
    joinB (allWords xs m hmx) ⟨#[]⟩ k = textB xs ∧ szTo (allWords xs m hmx) k + k * (⟨#[]⟩ : ByteArray).size ≤ 140737488355328 := by
  subst hk
  exact ⟨allWords_join xs m hx hl, allWords_size xs m hx.1 hl h60⟩

set_option maxHeartbeats 1600000 in
theorem impl_formatNat' (A : Option Addr) (n c : Nat) (xs : List Int) (w : World) (h : InI w A n xs) (ht : Tab w) :
    Calls Tryz.prog 54 #[.slice A n c] w fun e w' => FntEnd xs w w' e := by
  obtain ⟨i0, hi, hz0, hz1, hz2⟩ := info_parts Tryz.infoS
  have H1 := Lib.hid h
  have Hn := Lib.hid h.1
  have Ht := Lib.hid ht
  clear h ht
  go_enter Tryz.func54, Tryz.ntmps54
  go_wp2_with fail
  refine (impl_natOk' A n c xs _ H1.out).mono ?_
  rintro e w' ⟨⟨b1, rfl, ho1⟩, rfl⟩
  cases b1
  · have hfin := Lib.hid (fnt_no (xs := xs) (fun h => by have := ho1.2 h; cases this) w)
    clear ho1
    go_wp2_with fail
    go_ret
    exact hfin.out
  have k1 := Lib.hid (ho1.1 rfl)
  clear ho1
  by_cases h0 : n = 0
  · have hfin : Hid (FntEnd xs w w (.returned (.string ⟨#[48]⟩))) := by
      have hx : xs = [] := List.eq_nil_of_length_eq_zero (Hn.out.trans h0)
      subst hx
      exact fnt_zero w
    subst h0
    go_wp2_with fail
    go_ret
    exact hfin.out
  obtain ⟨m, hm⟩ : ∃ m, n = m + 1 := ⟨n - 1, by omega⟩
  have hn60 : n ≤ 60 := by have := k1.out.2; rw [Hn.out] at this; exact this
  have hne : ((n : Int) == 0) = false := by simp; omega
  have Hm := Lib.hid hm
  have hmn : m < n := by omega
  have hn0 : (0 : Int) ≤ (n : Int) := by omega
  clear h0 hm
  go_wp2_with (refine wpList_make_full _ rfl _ _ 96 rfl w.heap.size 9 i0 (.string ⟨#[]⟩) 1 Tryz.underlying96 hi hz0 hz1 _ _ _ _ n rfl rfl (by omega) (by omega) (by rw [hz2]; omega) (by unfold maxLen; omega) (Nat.le_refl _) ?_)
  intro w1 ho hg
  obtain ⟨ys, ho⟩ : ∃ ys, w1.ownsRow w.heap.size 9 1 (.slice (some ⟨w.heap.size, 0, none⟩) n n) n ys := ⟨_, ho⟩
  have hlen := ho.1
  have Hlen := Lib.hid hlen
  have B1 := Lib.hid ((Below.refl w.heap.size w).grown hg (Nat.le_refl _) (fun k hk => by cases hk))
  have O1 := Lib.hid ho
  clear ho hg hlen
  go_wp2_with fail
  go_loopw [4, 16] (fun _ y wr => ∃ k : Nat, k ≤ n ∧ y = .int .i64 (k : Int) ∧ Hid (wr.ownsRow w.heap.size 9 1 (.slice (some ⟨w.heap.size, 0, none⟩) n n) n (((wordsOf xs).map Value.string).take k ++ ys.drop k)) ∧ Hid (Below w.heap.size w wr)) (fun _ y _ => n - (intOf y).toNat)
  case atStart => exact ⟨0, Nat.zero_le _, rfl, by simpa using O1, B1⟩
  case round =>
    obtain ⟨k, hk, rfl, ho, hbr⟩ := hrel
    by_cases hlt : k < n
    · obtain ⟨i, hi'⟩ : ∃ i, i + 1 = n - k := ⟨n - k - 1, by omega⟩
      have hix : i < xs.length := by rw [Hn.out]; omega
      obtain ⟨b, o, rfl, hbs, hc⟩ := (H1.out.2.2.1.below hbr.out).at_ (by simp; omega)
      obtain ⟨z, hz⟩ : ∃ z, z = xs[i] := ⟨_, rfl⟩
      have hzr := k1.out.1.1 _ (List.getElem_mem hix)
      rw [← hz] at hzr
      obtain ⟨z0, z1⟩ := hzr
      have g1 : wr.cell? ⟨b, o + i, none⟩ = some (.int .i64 z) := (hc i (by simp; omega)).trans (by simp [hz])
      have hsi : (n : Int) - 1 - (k : Int) = (i : Int) := by omega
      have hkw : k < ((wordsOf xs).map Value.string).length := by rw [List.length_map, wordsOf_len, Hn.out]; exact hlt
      have hky : k < ys.length := by rw [Hlen.out]; omega
      have Hkw := Lib.hid hkw
      have hwd : Hid (((wordsOf xs).map Value.string)[k]'Hkw.out = .string (padZ (itoaB z) 9)) := by
        unfold Hid
        rw [List.getElem_map, wordsOf_at xs k i (by rw [Hn.out]; omega), padS, hz]
      have Hky := Lib.hid hky
      have hi0 : (0 : Int) ≤ (i : Int) := by omega
      have hi1 : (i : Int) < (n : Int) := by omega
      have hk0 : (0 : Int) ≤ (k : Int) := by omega
      have hk1 : (k : Int) < (n : Int) := by omega
      clear hc hz hi' hkw hky
      go_wp2_with fail
      refine (impl_formatInt z _ (by omega) (by omega) (Ht.out.below hbr.out)).mono ?_
      rintro e w2 ⟨rfl, hb2⟩
      have O2 := Lib.hid (own_below ho.out hb2)
      have HB2 := Lib.hid (hbr.out.trans (hb2.mono hbr.out.size))
      have hsz := itoaB_size z (by omega) (by omega)
      clear hb2 g1
      go_wp2_with fail
      refine (impl_padZeros (itoaB z) 9 _ (by unfold maxLen; omega)).mono ?_
      rintro e w3 ⟨rfl, hb3⟩
      have O3 := own_below O2.out hb3
      have B3 := HB2.out.trans (hb3.mono HB2.out.size)
      have hfr := O3.frozenAt k
      have hcl := O3.cellAt k (by omega)
      rw [List.getElem?_eq_getElem (by rw [O3.1]; omega)] at hcl
      obtain ⟨old, hold⟩ : ∃ old, w3.cell? ⟨w.heap.size, k, none⟩ = some old := ⟨_, hcl⟩
      have hst := O3.stored k (.string (padZ (itoaB z) 9))
      rw [← hwd.out, copied_set _ ys k Hkw.out Hky.out, hwd.out] at hst
      have ho2 := Lib.hid hst.1
      have hb2 := Lib.hid (below_marked B3 O3 hst.2 (Nat.le_refl _) B3.size)
      clear hst hcl O3 B3 hb3 hsi
      go_wp2_with fail
      go_roundw
      case rel => exact ⟨k + 1, by omega, by go_num, ho2, hb2⟩
      case measure => simp [intOf]; omega
    · obtain rfl : k = n := by omega
      have hmx : m < xs.length := by rw [Hn.out]; exact hmn
      have ho2 := ho.out
      rw [List.take_of_length_le (by rw [List.length_map, wordsOf_len, Hn.out]; omega), List.drop_eq_nil_of_le (by rw [Hlen.out]; omega), List.append_nil] at ho2
      obtain ⟨b, o, rfl, hbs, hc⟩ := (H1.out.2.2.1.below hbr.out).at_ (by simp; omega)
      obtain ⟨z, hz⟩ : ∃ z, z = xs[m] := ⟨_, rfl⟩
      have hzr := k1.out.1.1 _ (List.getElem_mem hmx)
      rw [← hz] at hzr
      obtain ⟨z0, z1⟩ := hzr
      have g1 : wr.cell? ⟨b, o + m, none⟩ = some (.int .i64 z) := (hc m (by simp; omega)).trans (by simp [hz])
      have hsi : (k : Int) - 1 = (m : Int) := by have := Hm.out; omega
      have O2 := Lib.hid ho2
      have hset : Hid ((((wordsOf xs).map Value.string).set 0 (.string (itoaB z))) = (allWords xs m hmx).map .string) := by
        unfold Hid allWords; rw [hz, List.map_set]
      have hjoin := Lib.hid (allWords_both Hm.out hmx k1.out.1 Hn.out hn60)
      have hmi0 : (0 : Int) ≤ (m : Int) := by omega
      have hmi1 : (m : Int) < (k : Int) := by omega
      have hk0 : (0 : Int) < (k : Int) := by omega
      clear ho2 hc hz
      go_wp2_with fail
      refine (impl_formatInt z _ (by omega) (by omega) (Ht.out.below hbr.out)).mono ?_
      rintro e w2 ⟨rfl, hb2⟩
      have O3 := own_below O2.out hb2
      have B2 := hbr.out.trans (hb2.mono hbr.out.size)
      have hfr := O3.frozenAt 0
      have hcl := O3.cellAt 0 (by omega)
      rw [List.getElem?_eq_getElem (by rw [O3.1]; omega)] at hcl
      obtain ⟨old, hold⟩ : ∃ old, w2.cell? ⟨w.heap.size, 0, none⟩ = some old := ⟨_, hcl⟩
      have hst := O3.stored 0 (.string (itoaB z))
      rw [hset.out] at hst
      have ho3 := Lib.hid hst.1
      have hb3 := Lib.hid (below_marked B2 O3 hst.2 (Nat.le_refl _) B2.size)
      clear hst hcl O3 B2 hb2 hsi g1
      go_wp2_with fail
      refine (impl_join (some ⟨w.heap.size, 0, none⟩) k k (allWords xs m hmx) ⟨#[]⟩ _ (by rw [allWords_len, Hn.out]) (Nat.le_refl _) hjoin.out.2 (by omega) (Reads.of_own ho3.out)).mono ?_
      rintro e w4 ⟨rfl, hb4⟩
      rw [hjoin.out.1]
      have hfin : Hid (FntEnd xs w w4 (.returned (.string (textB xs)))) := ⟨_, rfl, formatNat_text k1.out, hb3.out.trans (hb4.mono hb3.out.size)⟩
      clear hb4
      go_wp2_with fail
      go_ret
      exact hfin.out
theorem impl_formatNat (A : Option Addr) (n c : Nat) (xs : List Int) (w : World) (h : InI w A n xs) (ht : Tab w) :
    Calls Tryz.prog 54 #[.slice A n c] w fun e w' => ∃ r, e = .returned (.string r) ∧ FormatNatIs xs r ∧ Below w.heap.size w w' :=
  impl_formatNat' A n c xs w h ht
end Go.Proofs.YtkigfakfadoopaaGreatDoor
namespace Go.Proofs.YtkigfakfadoopaaGreatDoor
set_option maxRecDepth 100000
open Go.RowKit

/-- The text of a big integer: that of its magnitude, behind a minus where it is negative. -/
def FormatBigIntIs (g : Bool) (xs : List Int) (r : ByteArray) : Prop :=
  (BOk g xs ∧ ∃ t, FormatNatIs xs t ∧ r = if g = true then ⟨#[45]⟩ ++ t else t) ∨ (¬ BOk g xs ∧ r = ⟨#[]⟩)
theorem formatBigInt_unique {g : Bool} {xs : List Int} {r r' : ByteArray} (h : FormatBigIntIs g xs r) (h' : FormatBigIntIs g xs r') : r = r' := by
  rcases h with ⟨k, t, ht, rfl⟩ | ⟨k, rfl⟩ <;> rcases h' with ⟨k', t', ht', rfl⟩ | ⟨k', rfl⟩
  · rw [formatNat_unique ht ht']
  · exact absurd k k'
  · exact absurd k' k
  · rfl
def FmtBEnd (g : Bool) (xs : List Int) (w w' : World) (e : Ending) : Prop := ∃ r, e = .returned (.string r) ∧ FormatBigIntIs g xs r ∧ Below w.heap.size w w'
theorem fmt_size {xs : List Int} {t : ByteArray} (h : BOk true xs) (ht : FormatNatIs xs t) : t.size ≤ 540 := by
  unfold FormatNatIs at ht
  subst ht
  rw [fmtNat_ok h.1]
  have h1 := textL_len h.1.1.1 (List.length_pos_iff.2 (h.2 rfl))
  have h2 := h.1.2
  show (textL xs).toArray.size ≤ 540
  simp
  omega
set_option maxHeartbeats 800000 in
theorem impl_formatBigInt' (g : Bool) (A : Option Addr) (n c : Nat) (xs : List Int) (w : World) (h : InI w A n xs) (ht : Tab w) :
    Calls Tryz.prog 53 #[.agg #[.bool g, .slice A n c]] w fun e w' => FmtBEnd g xs w w' e := by
  have hn := h.2.1
  have HT := Lib.hid ht
  clear ht
  have hx0_0 := Lib.hid (by have := Box.new w 25 #[.bool g, .slice A n c]; simpa using this : Box (w.alloc (.cells #[.bool g, .slice A n c] 25)) (w.heap.size) 25 #[.bool g, .slice A n c])
  have BW_0 := Lib.hid ((Below.refl w.heap.size w).alloc (by simp) (.cells #[.bool g, .slice A n c] 25))
  have HI := Lib.hid (h.below BW_0.out)
  clear h
  go_enter Tryz.func53, Tryz.ntmps53
  go_wp2_with fail
  refine (impl_bigOk' g A n c xs _ HI.out).mono ?_
  rintro e w1 ⟨⟨b, rfl, hi⟩, hb⟩
  have hx0_1 := Lib.hid (hx0_0.out.below hb hx0_0.out.lt)
  have BW_1 := Lib.hid (BW_0.out.trans (hb.mono BW_0.out.size))
  replace HI := Lib.hid (HI.out.below hb)
  clear hb
  have ehx00 := hx0_1.out.cell 0
  have ehx01 := hx0_1.out.cell 1
  simp at ehx00 ehx01
  cases b
  · have HF : Hid (FmtBEnd g xs w w1 (.returned (.string ⟨#[]⟩))) := ⟨_, rfl, .inr ⟨fun h => (by have := hi.2 h; cases this), rfl⟩, BW_1.out⟩
    clear hi
    go_wp2_with fail
    go_ret
    exact HF.out
  · have HOK := Lib.hid (hi.1 rfl)
    clear hi
    cases g
    · go_wp2_with fail
      refine (impl_formatNat A n c xs _ HI.out (HT.out.below BW_1.out)).mono ?_
      rintro e w2 ⟨t, rfl, ht, hb⟩
      have HF : Hid (FmtBEnd false xs w w2 (.returned (.string t))) := ⟨_, rfl, .inl ⟨HOK.out, t, ht, (by simp)⟩, BW_1.out.trans (hb.mono BW_1.out.size)⟩
      clear ht hb
      go_wp2_with fail
      go_ret
      exact HF.out
    · go_wp2_with fail
      refine (impl_formatNat A n c xs _ HI.out (HT.out.below BW_1.out)).mono ?_
      rintro e w2 ⟨t, rfl, ht, hb⟩
      have hts := fmt_size HOK.out ht
      have HF : Hid (FmtBEnd true xs w w2 (.returned (.string (⟨#[45]⟩ ++ t)))) := ⟨_, rfl, .inl ⟨HOK.out, t, ht, (by simp)⟩, BW_1.out.trans (hb.mono BW_1.out.size)⟩
      clear ht hb
      go_wp2_with fail
      go_ret
      exact HF.out
theorem impl_formatBigInt (g : Bool) (A : Option Addr) (n c : Nat) (xs : List Int) (w : World) (h : InI w A n xs) (_hR : Room A n c) (ht : Tab w) :
    Calls Tryz.prog 53 #[.agg #[.bool g, .slice A n c]] w fun e w' => ∃ r, e = .returned (.string r) ∧ FormatBigIntIs g xs r ∧ Below w.heap.size w w' :=
  (impl_formatBigInt' g A n c xs w h ht).mono fun _ _ h => h
end Go.Proofs.YtkigfakfadoopaaGreatDoor
namespace Go.Proofs.YtkigfakfadoopaaGreatDoor
set_option maxRecDepth 100000
open Go.RowKit

def FormatRatIs (g : Bool) (xs es : List Int) (t : ByteArray) : Prop :=
  (ROk g xs es ∧ ∃ a, FormatBigIntIs g xs a ∧ ((es = [1] ∧ t = a) ∨ (es ≠ [1] ∧ ∃ b, FormatNatIs es b ∧ t = a ++ ⟨#[47]⟩ ++ b))) ∨ (¬ ROk g xs es ∧ t = ⟨#[]⟩)
theorem formatRat_unique {g : Bool} {xs es : List Int} {t t' : ByteArray} (h : FormatRatIs g xs es t) (h' : FormatRatIs g xs es t') : t = t' := by
  rcases h with ⟨k, a, ha, h⟩ | ⟨k, rfl⟩ <;> rcases h' with ⟨k', a', ha', h'⟩ | ⟨k', rfl⟩
  · obtain rfl := formatBigInt_unique ha ha'
    rcases h with ⟨e, rfl⟩ | ⟨e, b, hb, rfl⟩ <;> rcases h' with ⟨e', rfl⟩ | ⟨e', b', hb', rfl⟩
    · rfl
    · exact absurd e e'
    · exact absurd e' e
    · rw [formatNat_unique hb hb']
  · exact absurd k k'
  · exact absurd k' k
  · rfl
def keyText (a b : ByteArray) : ByteArray := if b = ⟨#[49]⟩ then a else a ++ ⟨#[47]⟩ ++ b
def FRatEnd (g : Bool) (xs es : List Int) (w w' : World) (e : Ending) : Prop := ∃ r, e = .returned (.string r) ∧ FormatRatIs g xs es r ∧ Below w.heap.size w w'
theorem nat_text_size {xs : List Int} {t : ByteArray} (h : Ok xs) (ht : FormatNatIs xs t) : t.size ≤ 541 := by
  unfold FormatNatIs at ht
  subst ht
  rw [fmtNat_ok h]
  show (textL xs).toArray.size ≤ 541
  by_cases e : xs = []
  · subst e; unfold textL; rw [show (val []).toNat = 0 from rfl, Lib.decDigits_one (by omega)]; decide
  · have h1 := textL_len h.1.1 (List.length_pos_iff.2 e)
    have h2 := h.2
    simp
    omega
theorem big_text_size {g : Bool} {xs : List Int} {t : ByteArray} (h : BOk g xs) (ht : FormatBigIntIs g xs t) : t.size ≤ 542 := by
  rcases ht with ⟨_, a, ha, rfl⟩ | ⟨k, _⟩
  · have := nat_text_size h.1 ha
    have h1 : (⟨#[45]⟩ : ByteArray).size = 1 := rfl
    cases g
    · rw [if_neg (by decide)]; omega
    · rw [if_pos rfl, ByteArray.size_append]; omega
  · exact absurd h k
/-- The denominator's text is 1 just where the denominator is. -/
theorem text_one {es : List Int} {t : ByteArray} (h : Ok es) (ht : FormatNatIs es t) : t = ⟨#[49]⟩ ↔ es = [1] := by
  constructor
  · intro e
    have h1 := (format_parse h ht).2
    subst e
    exact one_of h.1 (by rw [← h1]; rfl)
  · intro e
    subst e
    unfold FormatNatIs at ht
    rw [ht, fmtNat_ok h]
    unfold textL
    rw [show (val [1]).toNat = 1 from rfl, Lib.decDigits_one (by omega)]
    rfl
theorem list49 {b : ByteArray} : b.toList = [49] ↔ b = ⟨#[49]⟩ := by
  rw [Lib.toList_data]
  constructor
  · intro e; rw [← bytes_eta' b, e]
  · intro e; rw [e]
theorem cat_fits {a b : ByteArray} (h : a.size ≤ 542) (k : b.size ≤ 541) : ¬ 9223372036854775807 < (a ++ ⟨#[47]⟩ : ByteArray).size + b.size := by
  have h1 : (⟨#[47]⟩ : ByteArray).size = 1 := rfl
  rw [ByteArray.size_append]; omega
def KeyEnd (g : Bool) (xs es : List Int) (w w' : World) (e : Ending) : Prop := ∃ a b, e = .returned (.agg #[.string a, .string b]) ∧ FormatBigIntIs g xs a ∧ FormatNatIs es b ∧ Below w.heap.size w w'
set_option maxHeartbeats 3200000 in
theorem impl_ratKeyOf (g1 : Bool) (A1 : Option Addr) (n1 c1 : Nat) (xs : List Int) (B1 : Option Addr) (m1 d1 : Nat) (es : List Int) (w : World) (h1 : InI w A1 n1 xs) (r1 : Room A1 n1 c1) (k1 : InI w B1 m1 es) (s1 : Room B1 m1 d1) (q1 : ROk g1 xs es) (ht : Tab w) :
    Calls Tryz.prog 28 #[.agg #[.bool g1, .slice A1 n1 c1, .slice B1 m1 d1]] w fun e w' => KeyEnd g1 xs es w w' e := by
  have hn1 := h1.2.1
  have hm1 := k1.2.1
  obtain ⟨W0, hW0⟩ : ∃ W, W = ((w.alloc (.cells #[.bool g1, .slice A1 n1 c1, .slice B1 m1 d1] 27)).alloc (.cells #[.string ⟨#[]⟩, .string ⟨#[]⟩] 45)) := ⟨_, rfl⟩
  have hy0_0 : Hid (Box W0 (w.heap.size) 27 #[.bool g1, .slice A1 n1 c1, .slice B1 m1 d1]) := by rw [hW0]; exact ((Box.at' (by simp)).alloc _)
  have hk_0 : Hid (Box W0 (w.heap.size + 1) 45 #[.string ⟨#[]⟩, .string ⟨#[]⟩]) := by rw [hW0]; exact (Box.at' (by simp))
  have BW_0 : Hid (Below w.heap.size w W0) := by rw [hW0]; exact (((Below.refl w.heap.size w).alloc (by simp) _).alloc (by simp) _)
  have hsz0 : w.heap.size + 1 + 1 ≤ W0.heap.size := by rw [hW0]; simp
  have HI1 := Lib.hid (h1.below BW_0.out)
  have HJ1 := Lib.hid (k1.below BW_0.out)
  have R1 := Lib.hid r1
  have S1 := Lib.hid s1
  clear h1 k1 r1 s1
  go_enter Tryz.func28, Tryz.ntmps28
  go_wp2_with fail
  rw [← hW0]
  clear hW0
  have K1 := Lib.hid q1
  have HT := Lib.hid ht
  clear q1 ht
  have hy0_1 := Lib.hid hy0_0.out.drew
  have hk_1 := Lib.hid hk_0.out.drew
  have BW_1 := Lib.hid BW_0.out.drew
  replace HI1 := Lib.hid HI1.out.drew
  replace HJ1 := Lib.hid HJ1.out.drew
  have cvhy00 : Hid ((#[.bool g1, .slice A1 n1 c1, .slice B1 m1 d1] : Array Value)[0]? = some (.bool g1)) := rfl
  have cvhy01 : Hid ((#[.bool g1, .slice A1 n1 c1, .slice B1 m1 d1] : Array Value)[1]? = some (.slice A1 n1 c1)) := rfl
  have cvhy02 : Hid ((#[.bool g1, .slice A1 n1 c1, .slice B1 m1 d1] : Array Value)[2]? = some (.slice B1 m1 d1)) := rfl
  go_region_held3 (fun w' => w'.cell? ⟨w.heap.size, 0, none⟩ = some (.bool g1) ∧ w'.cell? ⟨w.heap.size, 1, none⟩ = some (.slice A1 n1 c1) ∧ w'.cell? ⟨w.heap.size, 2, none⟩ = some (.slice B1 m1 d1)) (first | with_reducible exact ⟨cellS hy0_3 cvhy00, cellS hy0_3 cvhy01, cellS hy0_3 cvhy02⟩ | with_reducible exact ⟨cellS (hFar (hFar hy0_3 (by dsimp only; omega) _) (by dsimp only; omega) _) cvhy00, cellS (hFar (hFar hy0_3 (by dsimp only; omega) _) (by dsimp only; omega) _) cvhy01, cellS (hFar (hFar hy0_3 (by dsimp only; omega) _) (by dsimp only; omega) _) cvhy02⟩ | with_reducible exact ⟨cellS hy0_2 cvhy00, cellS hy0_2 cvhy01, cellS hy0_2 cvhy02⟩ | with_reducible exact ⟨cellS hy0_1 cvhy00, cellS hy0_1 cvhy01, cellS hy0_1 cvhy02⟩) (first | (go_at_call 54; refine (impl_formatNat B1 m1 d1 es _ HJ1.out (HT.out.below BW_2.out)).mono ?_; rintro e w3 ⟨tb, rfl, htb, hb⟩; have HTB := Lib.hid htb; clear htb; have hy0_3 := Lib.hid (hy0_2.out.below hb hy0_2.out.lt); have hk_3 := Lib.hid (hk_2.out.below hb hk_2.out.lt); have BW_3 := Lib.hid (BW_2.out.trans (hb.mono BW_2.out.size)); clear hb; have ehk0 := hk_3.out.cell 0; have ehk1 := hk_3.out.cell 1; have fhk0 := hk_3.out.free 0; have fhk1 := hk_3.out.free 1; simp at ehk0 ehk1) | (go_at_call 53; refine (impl_formatBigInt' g1 A1 n1 c1 xs _ HI1.out (HT.out.below BW_1.out)).mono ?_; rintro e w2 ⟨ta, rfl, hta, hb⟩; have HTA := Lib.hid hta; clear hta; have hy0_2 := Lib.hid (hy0_1.out.below hb hy0_1.out.lt); have hk_2 := Lib.hid (hk_1.out.below hb hk_1.out.lt); have BW_2 := Lib.hid (BW_1.out.trans (hb.mono BW_1.out.size)); replace HI1 := Lib.hid (HI1.out.below hb); replace HJ1 := Lib.hid (HJ1.out.below hb); clear hb))
  have HF : Hid (∀ W, Below w.heap.size w W → KeyEnd g1 xs es w W (.returned (.agg #[.string ta, .string tb]))) := fun W hW => ⟨ta, tb, rfl, HTA.out, HTB.out, hW⟩
  go_wp2_with fail
  refine bodyPost_ret (v := .agg #[.string ta, .string tb]) (by simp [results, Tryz.results28, ehk0, ehk1, go_sem]) rfl ?_
  exact HF.out _ ((BW_3.out.setCell (by dsimp only; omega) _).setCell (by dsimp only; omega) _)
set_option maxHeartbeats 400000 in
theorem impl_text (a b : ByteArray) (w : World) (ha : a.size ≤ 542) (hb : b.size ≤ 541) :
    Calls Tryz.prog 29 #[.agg #[.string a, .string b]] w fun e w' => e = .returned (.string (keyText a b)) ∧ Below w.heap.size w w' := by
  by_cases h : b = ⟨#[49]⟩
  · have HF : Hid (keyText a b = a) := if_pos h
    have ht : (b.toList == [49]) = true := by simpa using list49.2 h
    clear h
    go_enter Tryz.func29, Tryz.ntmps29
    go_wp2_with fail
    go_ret
    exact ⟨ret_str HF.out.symm, (Below.refl _ _).alloc (Nat.le_refl _) _⟩
  · have HF : Hid (keyText a b = a ++ ⟨#[47]⟩ ++ b) := if_neg h
    have ht : (b.toList == [49]) = false := by simpa using fun e => h (list49.1 e)
    clear h
    go_enter Tryz.func29, Tryz.ntmps29
    go_wp2_with fail
    go_ret
    exact ⟨ret_str HF.out.symm, (Below.refl _ _).alloc (Nat.le_refl _) _⟩
theorem key_text {g : Bool} {xs es : List Int} {a b : ByteArray} {w w' : World} (k : ROk g xs es) (ha : FormatBigIntIs g xs a) (hb : FormatNatIs es b) (hw : Below w.heap.size w w') : FRatEnd g xs es w w' (.returned (.string (keyText a b))) := by
  refine ⟨_, rfl, .inl ⟨k, a, ha, ?_⟩, hw⟩
  have h1 := text_one k.2.1 hb
  unfold keyText
  by_cases h : b = ⟨#[49]⟩
  · rw [if_pos h]; exact .inl ⟨h1.1 h, rfl⟩
  · rw [if_neg h]; exact .inr ⟨fun e => h (h1.2 e), b, hb, rfl⟩
set_option maxHeartbeats 3200000 in
theorem impl_formatRat0 (g1 : Bool) (A1 : Option Addr) (n1 c1 : Nat) (xs : List Int) (B1 : Option Addr) (m1 d1 : Nat) (es : List Int) (w : World) (h1 : InI w A1 n1 xs) (r1 : Room A1 n1 c1) (k1 : InI w B1 m1 es) (s1 : Room B1 m1 d1) (ht : Tab w) :
    Calls Tryz.prog 8 #[.agg #[.bool g1, .slice A1 n1 c1, .slice B1 m1 d1]] w fun e w' => FRatEnd g1 xs es w w' e := by
  have hn1 := h1.2.1
  have hm1 := k1.2.1
  obtain ⟨W0, hW0⟩ : ∃ W, W = (w.alloc (.cells #[.bool g1, .slice A1 n1 c1, .slice B1 m1 d1] 27)) := ⟨_, rfl⟩
  have hy0_0 : Hid (Box W0 (w.heap.size) 27 #[.bool g1, .slice A1 n1 c1, .slice B1 m1 d1]) := by rw [hW0]; exact (Box.at' (by simp))
  have BW_0 : Hid (Below w.heap.size w W0) := by rw [hW0]; exact ((Below.refl w.heap.size w).alloc (by simp) _)
  have hsz0 : w.heap.size + 1 ≤ W0.heap.size := by rw [hW0]; simp
  have HI1 := Lib.hid (h1.below BW_0.out)
  have HJ1 := Lib.hid (k1.below BW_0.out)
  have R1 := Lib.hid r1
  have S1 := Lib.hid s1
  clear h1 k1 r1 s1
  go_enter Tryz.func8, Tryz.ntmps8
  go_wp2_with fail
  rw [← hW0]
  clear hW0
  have HT := Lib.hid ht
  clear ht
  refine (impl_ratOk' g1 A1 n1 c1 xs B1 m1 d1 es _ HI1.out HJ1.out).mono ?_
  rintro e wa ⟨⟨b, rfl, hi⟩, hb⟩
  have hy0_1 := Lib.hid (hy0_0.out.below hb hy0_0.out.lt)
  have BW_1 := Lib.hid (BW_0.out.trans (hb.mono BW_0.out.size))
  replace HI1 := Lib.hid (HI1.out.below hb)
  replace HJ1 := Lib.hid (HJ1.out.below hb)
  clear hb
  have ehy00 := hy0_1.out.cell 0
  have ehy01 := hy0_1.out.cell 1
  have ehy02 := hy0_1.out.cell 2
  simp at ehy00 ehy01 ehy02
  cases b
  · have hno : ¬ ROk g1 xs es := fun h => by have := hi.2 h; cases this
    clear hi
    have HF : Hid (FRatEnd g1 xs es w wa (.returned (.string ⟨#[]⟩))) := ⟨_, rfl, .inr ⟨hno, rfl⟩, BW_1.out⟩
    go_wp2_with fail
    go_ret
    exact HF.out
  have K1 := Lib.hid (hi.1 rfl)
  clear hi
  have hn1 : n1 ≤ 24 := by have := K1.out.2.2.2.2.1; rwa [HI1.out.1] at this
  have hm1 : m1 ≤ 24 := by have := K1.out.2.2.2.2.2; rwa [HJ1.out.1] at this
  go_wp2_with fail
  clear ehy00 ehy01 ehy02
  refine (impl_ratKeyOf g1 A1 n1 c1 xs B1 m1 d1 es _ HI1.out R1.out HJ1.out S1.out K1.out (HT.out.below BW_1.out)).mono ?_
  rintro e wb ⟨ta, tb, rfl, hta, htb, hb⟩
  have HTA := Lib.hid hta
  have HTB := Lib.hid htb
  have hsa := big_text_size K1.out.1 hta
  have hsb := nat_text_size K1.out.2.1 htb
  have hy0_2 := Lib.hid (hy0_1.out.below hb hy0_1.out.lt)
  have BW_2 := Lib.hid (BW_1.out.trans (hb.mono BW_1.out.size))
  clear hb
  clear hta htb
  go_wp2_with fail
  refine (impl_text ta tb _ hsa hsb).mono ?_
  rintro e wc ⟨rfl, hb⟩
  have HF := Lib.hid (key_text (w := w) K1.out HTA.out HTB.out (BW_2.out.trans (hb.mono BW_2.out.size)))
  clear hb
  go_wp2_with fail
  go_ret
  exact HF.out
theorem impl_formatRat (g1 : Bool) (A1 : Option Addr) (n1 c1 : Nat) (xs : List Int) (B1 : Option Addr) (m1 d1 : Nat) (es : List Int) (w : World) (h1 : InI w A1 n1 xs) (r1 : Room A1 n1 c1) (k1 : InI w B1 m1 es) (s1 : Room B1 m1 d1) (ht : Tab w) :
    Calls Tryz.prog 8 #[.agg #[.bool g1, .slice A1 n1 c1, .slice B1 m1 d1]] w fun e w' => ∃ r, e = .returned (.string r) ∧ FormatRatIs g1 xs es r ∧ Below w.heap.size w w' :=
  (impl_formatRat0 g1 A1 n1 c1 xs B1 m1 d1 es w h1 r1 k1 s1 ht).mono fun _ _ h => h
end Go.Proofs.YtkigfakfadoopaaGreatDoor
