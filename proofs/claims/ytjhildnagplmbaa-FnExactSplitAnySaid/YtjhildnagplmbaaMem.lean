/- Slices in memory: what a slice reads as, what of it lives on, and the helpers of the laws on slices of strings (equal, marked, held, copied). -/
import Derived.Test.YtjhildnagplmbaaBase
import Derived.Test.YtjhildnagplmbaaRows
import Derived.Handy
import Derived.BigQuiet
import Derived.Deep.QuietTactic
import Derived.Deep.RegionHeld3
import Derived.Deep.Draws
import Derived.Laws.OwnMore
import Derived.SliceStrings
import Derived.ProofKit
import Derived.Lib.Join
namespace Go.Proofs.Ytjhildnagplmbaa
open Go.RowKit

/-- From place o on, block b holds the cells xs. -/
def CellsAt (w : World) (b o : Nat) (xs : List Value) : Prop := ∀ j (h : j < xs.length), w.cell? ⟨b, o + j, none⟩ = some xs[j]
/-- A slice that points to A reads as xs. -/
def Reads (w : World) (A : Option Addr) (xs : List Value) : Prop := xs = [] ∨ ∃ b o, A = some ⟨b, o, none⟩ ∧ b < w.heap.size ∧ CellsAt w b o xs

theorem Reads.none_ {w : World} {A : Option Addr} : Reads w A [] := .inl rfl
theorem Reads.at_ {w : World} {A : Option Addr} {xs : List Value} (h : Reads w A xs) (h0 : 0 < xs.length) : ∃ b o, A = some ⟨b, o, none⟩ ∧ b < w.heap.size ∧ CellsAt w b o xs := by
  rcases h with rfl | h
  · simp at h0
  · exact h
theorem Reads.keep {w w' : World} {A : Option Addr} {xs : List Value} (h : Reads w A xs) (hs : w.heap.size ≤ w'.heap.size)
    (hk : ∀ b o, A = some ⟨b, o, none⟩ → w'.heap[b]? = w.heap[b]?) : Reads w' A xs := by
  rcases h with rfl | ⟨b, o, rfl, hb, hc⟩
  · exact .inl rfl
  · exact .inr ⟨b, o, rfl, by omega, fun j hj => (World.cell?_of_block (a := ⟨b, o + j, none⟩) (hk b o rfl)).trans (hc j hj)⟩
theorem Reads.below {w w' : World} {A : Option Addr} {xs : List Value} (h : Reads w A xs) (hb : Below w.heap.size w w') : Reads w' A xs := by
  rcases h with rfl | ⟨b, o, rfl, hlt, hc⟩
  · exact .inl rfl
  · exact .inr ⟨b, o, rfl, by have := hb.size; omega, fun j hj => (hb.cell (p := ⟨b, o + j, none⟩) hlt).trans (hc j hj)⟩
theorem Reads.of_own {w : World} {base : Nat} {E : TypeId} {A : Option Addr} {n c : Nat} {xs : List Value} (h : w.ownsRow base E 1 (.slice A n c) n xs) : Reads w A xs := by
  obtain ⟨hl, h⟩ := h
  rcases h with ⟨hv, rfl⟩ | ⟨g, cap, cur, hv, hbase, hg, hn, _, hcur, htake⟩
  · left; exact List.eq_nil_of_length_eq_zero (by omega)
  · cases hv
    right
    refine ⟨g, 0, rfl, ?_, fun j hj => ?_⟩
    · rcases Nat.lt_or_ge g w.heap.size with h | h
      · exact h
      · rw [Array.getElem?_eq_none h] at hg; cases hg
    · have h1 : w.cell? ⟨g, 0 + j, none⟩ = cur[j]? := by
        rw [Nat.zero_add]; simp [World.cell?, hg]
      rw [h1]
      subst htake
      have hj' : j < cur.size := by simp at hj; omega
      rw [Array.getElem?_eq_getElem hj']
      simp
theorem Reads.own_lt {w : World} {A : Option Addr} {xs : List Value} (h : Reads w A xs) (h0 : 0 < xs.length) {b o : Nat} (hA : A = some ⟨b, o, none⟩) : b < w.heap.size := by
  obtain ⟨b', o', h1, h2, _⟩ := h.at_ h0
  rw [hA] at h1; cases h1; exact h2

set_option maxHeartbeats 400000 in
theorem eqStringS_same (A1 A2 : Option Addr) (n c1 c2 : Nat) (xs : List ByteArray) (w : World) (hn : xs.length = n) (hm : n ≤ maxLen) (h1 : Reads w A1 (xs.map .string)) (h2 : Reads w A2 (xs.map .string)) :
    Calls Try.prog 15 #[.slice A1 n c1, .slice A2 n c2] w fun e w' => e = .returned (.bool true) ∧ Below w.heap.size w w' := by
  subst hn
  unfold maxLen at hm
  go_enter Try.func15, Try.ntmps15
  go_wp2
  go_loopw [5] (fun i wr => ∃ k n : Nat, wr = w.drewN n ∧ k ≤ xs.length ∧ i = .int .i64 k) (fun i _ => xs.length - (intOf i).toNat)
  case atStart => exact ⟨0, 0, rfl, Nat.zero_le _, rfl⟩
  case round =>
    obtain ⟨k, n, rfl, hk, rfl⟩ := hrel
    by_cases hlt : k < xs.length
    · obtain ⟨b1, o1, rfl, hb1, hc1⟩ := h1.at_ (by simp; omega)
      obtain ⟨b2, o2, rfl, hb2, hc2⟩ := h2.at_ (by simp; omega)
      have g1 : w.cell? ⟨b1, o1 + k, none⟩ = some (.string xs[k]) := (hc1 k (by simpa using hlt)).trans (by simp)
      have g2 : w.cell? ⟨b2, o2 + k, none⟩ = some (.string xs[k]) := (hc2 k (by simpa using hlt)).trans (by simp)
      have hk0 : (0 : Int) ≤ (k : Int) := by omega
      have hk1 : (k : Int) < (xs.length : Int) := by omega
      have H1 := Lib.hid h1
      have H2 := Lib.hid h2
      clear hc1 hc2 h1 h2
      go_wp2
      go_quiet (fail)
      go_wp2
      go_roundw
      case rel => exact ⟨k + 1, _, rfl, by omega, by go_num⟩
      case measure => simp [intOf]; omega
    · go_wp2
      go_ret
      exact ⟨rfl, below_drewN (Below.refl _ _) _⟩

theorem grownBy_of_below {w w' : World} (h : Below w.heap.size w w') (row : Option Nat) : w.grownBy w' row := ⟨h.os, h.tape, h.output, h.size, fun k hk _ => h.block k hk⟩
theorem grownBy_trans {a b c : World} {row : Option Nat} (h : a.grownBy b row) (k : b.grownBy c row) : a.grownBy c row :=
  ⟨k.os.trans h.os, k.tape.trans h.tape, k.output.trans h.output, Nat.le_trans h.size k.size, fun j hj hne => (k.block j (Nat.lt_of_lt_of_le hj h.size) hne).trans (h.block j hj hne)⟩
theorem own_below {w w' : World} {base : Nat} {E : TypeId} {size n : Nat} {v : Value} {xs : List Value} (h : w.ownsRow base E size v n xs) (hb : Below w.heap.size w w') : w'.ownsRow base E size v n xs :=
  h.kept (grownBy_of_below hb none) (by cases hv : v.ownBlock <;> simp)
/-- An owned slice with an element: its block, the place of each element, free to be written. -/
theorem own_at {w : World} {base : Nat} {E : TypeId} {A : Option Addr} {n c : Nat} {xs : List Value} (h : w.ownsRow base E 1 (.slice A n c) n xs) (h0 : 0 < n) :
    ∃ g, A = some ⟨g, 0, none⟩ ∧ base ≤ g ∧ g < w.heap.size := by
  rcases h.2 with ⟨_, rfl⟩ | ⟨g, cap, cur, hv, hb, hg, _⟩
  · omega
  · cases hv
    refine ⟨g, rfl, hb, ?_⟩
    rcases Nat.lt_or_ge g w.heap.size with h | h
    · exact h
    · rw [Array.getElem?_eq_none h] at hg; cases hg
theorem own_slice {w : World} {base : Nat} {E : TypeId} {size n : Nat} {v : Value} {xs : List Value} (h : w.ownsRow base E size v n xs) : ∃ A c, v = .slice A n c := by
  rcases h.2 with ⟨hv, rfl⟩ | ⟨g, cap, cur, hv, _⟩
  · exact ⟨_, _, hv⟩
  · exact ⟨_, _, hv⟩
theorem own_cap {w : World} {base : Nat} {E : TypeId} {size n c : Nat} {A : Option Addr} {xs : List Value} (h : w.ownsRow base E size (.slice A n c) n xs) : n ≤ c ∧ c ≤ maxLen := by
  rcases h.2 with ⟨hv, rfl⟩ | ⟨g, cap, cur, hv, _, _, h1, h2, _⟩
  · exact ⟨Nat.zero_le _, by cases hv; exact Nat.zero_le _⟩
  · cases hv; exact ⟨h1, h2⟩
/-- What is written into a row that lies from block base on leaves what lies below. -/
theorem below_marked {B base : Nat} {a w w' : World} {E : TypeId} {size n : Nat} {v : Value} {xs : List Value} (h : Below B a w) (ho : w.ownsRow base E size v n xs) (hg : w.grownBy w' v.ownBlock) (hB : B ≤ base) (hs : B ≤ w.heap.size) : Below B a w' :=
  h.grown hg hs (fun k hk => Nat.le_trans hB (ho.lt k hk).1)
/-- A row of marks: the first n, from K on. -/
def marks (m : Nat → Value) (K n : Nat) : List Value := (List.range' K n).map m
theorem marks_length (m : Nat → Value) (K n : Nat) : (marks m K n).length = n := by simp [marks]
theorem marks_succ (m : Nat → Value) (K n : Nat) : marks m K (n + 1) = marks m K n ++ [m (K + n)] := by
  unfold marks; rw [List.range'_concat]; simp
theorem marks_get (m : Nat → Value) (K n j : Nat) (h : j < (marks m K n).length) : (marks m K n)[j] = m (K + j) := by simp [marks]
theorem marked_set (m : Nat → Value) (K i : Nat) (xs : List Value) (h : i < xs.length) : (marks m K i ++ xs.drop i).set i (m (K + i)) = marks m K (i + 1) ++ xs.drop (i + 1) := by
  rw [List.set_append, if_neg (by rw [marks_length]; omega), marks_length, Nat.sub_self, marks_succ, List.drop_eq_getElem_cons h]
  simp only [List.set_cons_zero, List.append_assoc, List.singleton_append]

/-- The decimal digits of k, put before out. -/
def markOut : Nat → Nat → List UInt8 → List UInt8
  | 0, _, out => out
  | f + 1, k, out => if k = 0 then out else markOut f (k / 10) ((48 + UInt8.ofNat (k % 10)) :: out)
def markT (k : Int) : ByteArray := if k ≤ 0 then ⟨#[109, 48]⟩ else ⟨(109 :: markOut k.toNat k.toNat []).toArray⟩
theorem markOut_zero (f : Nat) (out : List UInt8) : markOut f 0 out = out := by cases f <;> simp [markOut]
theorem markOut_step (f k : Nat) (out : List UInt8) (h : 0 < k) (hf : k ≤ f) : markOut f k out = markOut (f - 1) (k / 10) ((48 + UInt8.ofNat (k % 10)) :: out) := by
  cases f with
  | zero => omega
  | succ f => rw [markOut, if_neg (by omega)]; rfl
def MarkAt (K k : Nat) (out : List UInt8) : Prop := out.length + k ≤ K ∧ ∃ f, k ≤ f ∧ markOut f k out = markOut K K []
theorem MarkAt.start (K : Nat) : MarkAt K K [] := ⟨by simp, K, Nat.le_refl _, rfl⟩
theorem MarkAt.step {K k : Nat} {out : List UInt8} (h : MarkAt K k out) (h0 : 0 < k) : MarkAt K (k / 10) ((48 + UInt8.ofNat (k % 10)) :: out) := by
  obtain ⟨h1, f, h2, h3⟩ := h
  refine ⟨by simp; omega, f - 1, by omega, ?_⟩
  rw [← h3, markOut_step f k out h0 h2]
theorem MarkAt.done {K : Nat} {out : List UInt8} (h : MarkAt K 0 out) (h0 : 0 < K) : (⟨(109 :: out).toArray⟩ : ByteArray) = markT K := by
  obtain ⟨_, f, _, h3⟩ := h
  rw [markOut_zero] at h3
  unfold markT
  rw [if_neg (by omega), h3]; simp

/-- The same of a byte that lies where it was laid. -/
theorem run_byte_at {P : Program} (src dst e : TypeId) (hs : P.underlying src = some (.slice e)) (he : P.underlying e = some (.int .u8)) (hd : P.underlying dst = some .string) (n : Nat) (hn : n < 256) (b : Nat) (w : World) (hc : w.cell? ⟨b, 0, none⟩ = some (.int .u8 n)) :
    (convert src dst (.slice (some ⟨b, 0, none⟩) 1 1)).run P w = .ok (.string ⟨#[UInt8.ofNat n]⟩) w := by
  have h := run_convert_bytes_back (P := P) w src dst e ⟨b, 0, none⟩ 1 [UInt8.ofNat n] hs he hd (fun j hj => by
    obtain rfl : j = 0 := by simpa using hj
    have e1 : ((⟨b, 0, none⟩ : Addr).add 0) = ⟨b, 0, none⟩ := by simp [Addr.add]
    rw [e1, hc]
    simp [Nat.mod_eq_of_lt hn])
  simpa using h
theorem bcell {W w1 : World} (hb : Below W.heap.size W w1) : (∀ b o, b < W.heap.size → w1.cell? ⟨b, o, none⟩ = W.cell? ⟨b, o, none⟩) ∧ (∀ b o, b < W.heap.size → w1.frozen? ⟨b, o, none⟩ = W.frozen? ⟨b, o, none⟩) :=
  ⟨fun b o h => hb.cell (p := ⟨b, o, none⟩) h, fun b o h => hb.frozen (p := ⟨b, o, none⟩) h⟩
/-- A string of the one byte that has just been laid into new memory. -/
theorem run_one_byte {P : Program} (src dst e t : TypeId) (hs : P.underlying src = some (.slice e)) (he : P.underlying e = some (.int .u8)) (hd : P.underlying dst = some .string) (n : Nat) (hn : n < 256) (w : World) :
    (convert src dst (.slice (some ⟨w.heap.size, 0, none⟩) 1 1)).run P (w.alloc (.cells #[.int .u8 n] t)) = .ok (.string ⟨#[UInt8.ofNat n]⟩) (w.alloc (.cells #[.int .u8 n] t)) := by
  have h := run_convert_bytes_back (P := P) (w.alloc (.cells #[.int .u8 n] t)) src dst e ⟨w.heap.size, 0, none⟩ 1 [UInt8.ofNat n] hs he hd (fun j hj => by
    obtain rfl : j = 0 := by simpa using hj
    have e1 : ((⟨w.heap.size, 0, none⟩ : Addr).add 0) = ⟨w.heap.size, 0, none⟩ := by simp [Addr.add]
    rw [e1, World.cell?_alloc_at _ _ _ _ rfl]
    simp [Nat.mod_eq_of_lt hn])
  simpa using h

set_option maxHeartbeats 400000 in
theorem markText_any (K : Nat) (w : World) (h0 : 0 < K) (hK : K < maxLen) :
    Calls Try.prog 30 #[.int .i64 K] w fun e w' => e = .returned (.string (markT K)) ∧ Below w.heap.size w w' := by
  unfold maxLen at hK
  have hcv := fun (n : Nat) (hn : n < 256) (w : World) => run_one_byte (P := Try.prog) 39 9 5 5 Try.underlying39 Try.underlying5 Try.underlying9 n hn w
  have Hcv := Lib.hid hcv
  clear hcv
  go_enter Try.func30, Try.ntmps30
  go_wp2
  go_loopw [0, 3] (fun x s wr => ∃ (k : Nat) (out : List UInt8), x = .int .i64 k ∧ s = .string ⟨out.toArray⟩ ∧ Hid (MarkAt K k out) ∧ Below w.heap.size w wr) (fun x _ _ => (intOf x).toNat)
  case atStart => exact ⟨K, [], rfl, rfl, MarkAt.start K, Below.refl _ _⟩
  case round =>
    obtain ⟨k, out, rfl, rfl, hm, hb⟩ := hrel
    by_cases hlt : 0 < k
    · have hm1 := Lib.hid (hm.out.step hlt)
      have hle := hm.out.1
      have hlt' : (0 : Int) < (k : Int) := by omega
      have hcv1 := Hcv.out (48 + k % 10) (by omega) wr
      have hcast : (((48 + k % 10 : Nat)) : Int) = 48 + (k : Int) % 10 := by omega
      rw [hcast] at hcv1
      clear hcast
      go_wp2
      go_roundw
      case rel => exact ⟨k / 10, (48 + UInt8.ofNat (k % 10)) :: out, by go_num, congrArg Value.string (ByteArray.mk_append_mk [_] out), hm1, hb.alloc hb.size _⟩
      case measure => simp [intOf]; omega
    · obtain rfl : k = 0 := by omega
      have hd := Lib.hid (hm.out.done h0)
      have hle := hm.out.1
      go_wp2
      go_ret
      exact ⟨congrArg (fun s => Ending.returned (.string s)) ((ByteArray.mk_append_mk [109] out).trans hd.out), hb⟩

def markS (k : Nat) : Value := .string (markT k)

set_option maxHeartbeats 400000 in
theorem markStringS_own (base : Nat) (A : Option Addr) (n c K : Nat) (xs : List Value) (w : World) (h0 : 0 < K) (hK : K + n < maxLen) (hown : w.ownsRow base 9 1 (.slice A n c) n xs) :
    Calls Try.prog 16 #[.slice A n c, .int .i64 K] w fun e w' => e = .returned (.int .i64 ((K + n : Nat) : Int)) ∧ w'.ownsRow base 9 1 (.slice A n c) n (marks markS K n) ∧ w.grownBy w' (Value.slice A n c).ownBlock := by
  have hlen : xs.length = n := by simpa using hown.1
  have hK' := hK
  unfold maxLen at hK
  have Hlen := Lib.hid hlen
  clear hlen
  go_enter Try.func16, Try.ntmps16
  go_wp2_with fail
  go_loopw [1, 5] (fun x y wr => ∃ i : Nat, i ≤ n ∧ x = .int .i64 ((K + i : Nat) : Int) ∧ y = .int .i64 i ∧ Hid (wr.ownsRow base 9 1 (.slice A n c) n (marks markS K i ++ xs.drop i)) ∧ Hid (w.grownBy wr (Value.slice A n c).ownBlock)) (fun _ y _ => n - (intOf y).toNat)
  case atStart => exact ⟨0, Nat.zero_le _, rfl, rfl, by simpa [marks] using Lib.hid hown, World.grownBy.refl _ _⟩
  case round =>
    obtain ⟨i, hi, rfl, rfl, ho, hg⟩ := hrel
    by_cases hlt : i < n
    · obtain ⟨g, rfl, hbase, hgs⟩ := own_at ho.out (by omega)
      have hi0 : (0 : Int) ≤ (i : Int) := by omega
      have hi1 : (i : Int) < (n : Int) := by omega
      go_wp2_with fail
      refine (markText_any (K + i) _ (by omega) (by omega)).mono ?_
      rintro e w1 ⟨rfl, hb1⟩
      have ho1 := own_below ho.out hb1
      have hfr := ho1.frozenAt i
      have hcl := ho1.cellAt i (by omega)
      rw [List.getElem?_eq_getElem (by simp [marks_length, Hlen.out]; omega)] at hcl
      obtain ⟨old, hcell⟩ : ∃ old, w1.cell? ⟨g, i, none⟩ = some old := ⟨_, hcl⟩
      have hst := ho1.stored i (markS (K + i))
      rw [marked_set markS K i xs (by rw [Hlen.out]; omega)] at hst
      have hg2 := Lib.hid (grownBy_trans hg.out (grownBy_trans (grownBy_of_below hb1 _) hst.2))
      have ho2 := Lib.hid hst.1
      clear hst hcl ho1 hb1
      go_wp2_with fail
      go_roundw
      case rel => exact ⟨i + 1, by omega, by go_num, by go_num, ho2, hg2⟩
      case measure => simp [intOf]; omega
    · obtain rfl : i = n := by omega
      go_wp2_with fail
      go_ret
      exact ⟨rfl, by have := ho.out; rwa [List.drop_eq_nil_of_le (by rw [Hlen.out]; omega), List.append_nil] at this, hg.out⟩

set_option maxHeartbeats 400000 in
theorem heldStringS_same (A : Option Addr) (n c K : Nat) (w : World) (h0 : 0 < K) (hK : K + n < maxLen) (hr : Reads w A (marks markS K n)) :
    Calls Try.prog 17 #[.slice A n c, .int .i64 K] w fun e w' => e = .returned (.int .i64 ((K + n : Nat) : Int)) ∧ Below w.heap.size w w' := by
  have hK' := hK
  unfold maxLen at hK
  have Hr := Lib.hid hr
  clear hr
  go_enter Try.func17, Try.ntmps17
  go_wp2_with fail
  go_loopw [1, 5] (fun x y wr => ∃ i : Nat, i ≤ n ∧ x = .int .i64 ((K + i : Nat) : Int) ∧ y = .int .i64 i ∧ Hid (Below w.heap.size w wr)) (fun _ y _ => n - (intOf y).toNat)
  case atStart => exact ⟨0, Nat.zero_le _, rfl, rfl, Below.refl _ _⟩
  case round =>
    obtain ⟨i, hi, rfl, rfl, hb⟩ := hrel
    by_cases hlt : i < n
    · obtain ⟨b, o, rfl, hbs, hc⟩ := (Hr.out.below hb.out).at_ (by rw [marks_length]; omega)
      have hcell : wr.cell? ⟨b, o + i, none⟩ = some (markS (K + i)) := by
        have := hc i (by rw [marks_length]; exact hlt)
        rwa [marks_get] at this
      unfold markS at hcell
      have hi0 : (0 : Int) ≤ (i : Int) := by omega
      have hi1 : (i : Int) < (n : Int) := by omega
      clear hc
      go_wp2_with fail
      have hbo := hb.out
      go_region_held3 (fun w' => w'.cell? ⟨b, o + i, none⟩ = some (.string (markT ((K + i : Nat) : Int))) ∧ Below w.heap.size w w') (first | exact ⟨hcell, hbo.drew⟩ | exact ⟨(hb1.cell (p := ⟨b, o + i, none⟩) hbs).trans hcell, hbo.drew.trans (hb1.mono hbo.size)⟩ | go_keep) (first | (go_at_call 30; refine (markText_any (K + i) _ (by omega) (by omega)).mono ?_; rintro e w1 ⟨rfl, hb1⟩))
      have hbw : Hid (Below w.heap.size w w1) := hbo.drew.trans (hb1.mono hbo.size)
      go_wp2
      go_roundw
      case rel => exact ⟨i + 1, by omega, by go_num, by go_num, hbw⟩
      case measure => simp [intOf]; omega
    · obtain rfl : i = n := by omega
      go_wp2
      go_ret
      exact ⟨rfl, hb.out⟩

/-- How much a list of strings holds: its length and the lengths of its strings. -/
def szTo (xs : List ByteArray) (k : Nat) : Nat := ((xs.take k).map ByteArray.size).sum
def szL (xs : List ByteArray) : Nat := xs.length + szTo xs xs.length
theorem szTo_succ (xs : List ByteArray) (k : Nat) (h : k < xs.length) : szTo xs (k + 1) = szTo xs k + xs[k].size := by
  unfold szTo
  rw [List.take_succ_eq_append_getElem h, List.map_append, List.sum_append]; rfl
theorem szTo_mono (xs : List ByteArray) (k : Nat) : ∀ n, k + n ≤ xs.length → szTo xs k ≤ szTo xs (k + n)
  | 0, _ => Nat.le_refl _
  | n + 1, h => by
    have h1 := szTo_mono xs k n (by omega)
    have h2 := szTo_succ xs (k + n) (by omega)
    rw [← Nat.add_assoc, h2]; omega
theorem szTo_le (xs : List ByteArray) (k : Nat) (h : k ≤ xs.length) : szTo xs k ≤ szTo xs xs.length := by
  have := szTo_mono xs k (xs.length - k) (by omega)
  rwa [Nat.add_sub_cancel' h] at this

/-- A slice of strings that came in: what it reads as. -/
def IsStrs (w : World) (A : Option Addr) (len : Nat) (xs : List ByteArray) : Prop := xs.length = len ∧ len ≤ maxLen ∧ Reads w A (xs.map .string) ∧ ∀ s ∈ xs, s.size ≤ maxLen
theorem isStrs_of {P : Program} {H : Type} {enc : TypeId × Value → H} {w : World} {t e : TypeId} {A : Option Addr} {len cap : Nat} {d : DataW H} {ps : List MemPlace} {sp : Nat → Bool} {hd : Bool}
    (ht : P.underlying t = some (.slice e)) (he : P.underlying e = some .string) (hc : P.cellsOf e = 1) (h : DataW.Trod enc P w 0 sp hd t (Value.slice A len cap) d ps) : ∃ xs, IsStrs w A len xs := by
  obtain ⟨fuel, hf⟩ := h
  rcases Go.ChangeShapes.open_strings ht he hc hf with ⟨hcs, _⟩ | ⟨x, l, c, ss, hcs, _, hl, hm, hz, _, hcell, hws⟩
  · simp [Value.cells] at hcs
    obtain ⟨rfl, rfl, rfl⟩ := hcs
    exact ⟨[], rfl, Nat.zero_le _, .inl rfl, by simp⟩
  · simp [Value.cells] at hcs
    obtain ⟨rfl, rfl, rfl⟩ := hcs
    have hle : len ≤ ss.length := by rw [hz]; split <;> omega
    refine ⟨ss.take len, by simp; omega, by omega, ?_, fun s hs => hws s (List.mem_of_mem_take hs)⟩
    by_cases h0 : len = 0
    · subst h0; exact .inl (by simp)
    · obtain ⟨b, o, spot⟩ := x
      have h1 := hcell 0 (by omega)
      have hspot : spot = none := by simpa [Addr.add] using World.cell?_spot h1
      subst hspot
      refine .inr ⟨b, o, rfl, ?_, fun j hj => ?_⟩
      · have := World.block_lt_of_cell? _ _ h1
        simpa [Addr.add] using this
      · simp at hj
        have h2 := hcell j (by omega)
        have e1 : ((⟨b, o, none⟩ : Addr).add j) = ⟨b, o + j, none⟩ := by
          by_cases hj0 : j = 0
          · subst hj0; simp [Addr.add]
          · simp [Addr.add, hj0]
        rw [e1] at h2
        rw [h2]
        simp [List.getD, List.getElem?_eq_getElem (show j < ss.length by omega)]

set_option maxHeartbeats 400000 in
theorem szStringS_any (A : Option Addr) (n c : Nat) (left : Int) (xs : List ByteArray) (w : World) (h0 : 0 ≤ left) (hl2 : left ≤ 1048576) (hr : IsStrs w A n xs) :
    Calls Try.prog 20 #[.slice A n c, .int .i64 left] w fun e w' => (∃ v : Int, e = .returned (.int .i64 v) ∧ (v < 0 ∨ (0 ≤ v ∧ v + szL xs = left))) ∧ w = w' := by
  obtain ⟨hlen, hn, hrd, hsz⟩ := hr
  unfold maxLen at hn hsz
  have Hlen := Lib.hid hlen
  have Hsz := Lib.hid hsz
  have Hrd := Lib.hid hrd
  clear hlen hrd hsz
  by_cases hneg : left - n < 0
  · go_enter Try.func20, Try.ntmps20
    go_wp2_with fail
    go_ret
    exact ⟨⟨-1, rfl, .inl (by omega)⟩, rfl⟩
  · go_enter Try.func20, Try.ntmps20
    go_wp2_with fail
    go_loop [1, 5] (fun x y => ∃ i : Nat, i ≤ n ∧ ((szTo xs i : Nat) : Int) ≤ left - n ∧ x = .int .i64 (left - n - (szTo xs i : Nat)) ∧ y = .int .i64 i) (fun _ y => n - (intOf y).toNat)
    case atStart => exact ⟨0, Nat.zero_le _, by simp [szTo]; omega, by simp [szTo], rfl⟩
    case round =>
      obtain ⟨i, hi, hle, rfl, rfl⟩ := hrel
      have hs0 : (0 : Int) ≤ ((szTo xs i : Nat) : Int) := by omega
      by_cases hlt : i < n
      · have hix : i < xs.length := by rw [Hlen.out]; exact hlt
        obtain ⟨b, o, rfl, hb, hc⟩ := Hrd.out.at_ (by simp; omega)
        have hcell : w.cell? ⟨b, o + i, none⟩ = some (.string xs[i]) := (hc i (by simpa using hix)).trans (by simp)
        have hsi := Hsz.out xs[i] (List.getElem_mem _)
        have hi0 : (0 : Int) ≤ (i : Int) := by omega
        have hi1 : (i : Int) < (n : Int) := by omega
        have hsu := szTo_succ xs i hix
        have hst := szTo_le xs (i + 1) (by omega)
        generalize hS : szTo xs i = S at *
        generalize hz : xs[i].size = z at *
        have HS := Lib.hid hS
        have Hz := Lib.hid hz
        have Hsu := Lib.hid hsu
        rw [← hz] at hsi
        clear hc hsu hS hz
        by_cases hn2 : left - n - S - z < 0
        · have hn3 : left - n - S - xs[i].size < 0 := by rw [Hz.out]; exact hn2
          go_wp2_with fail
          go_ret
          exact ⟨⟨-1, rfl, .inl (by omega)⟩, rfl⟩
        · have hn3 : ¬ left - n - S - xs[i].size < 0 := by rw [Hz.out]; exact hn2
          go_wp2_with fail
          go_round
          case rel => exact ⟨i + 1, by omega, by rw [Hsu.out]; omega, by rw [Hsu.out, Hz.out]; go_num, by go_num⟩
          case measure => simp [intOf]; omega
      · obtain rfl : i = n := by omega
        go_wp2_with fail
        go_ret
        exact ⟨⟨_, rfl, .inr ⟨by omega, by unfold szL; rw [Hlen.out]; omega⟩⟩, rfl⟩

theorem Try.infoS : (Try.prog.info? 9).map (fun i => (i.zero, i.size, i.bytes)) = some (some (.string ⟨#[]⟩), 1, 16) := by kernel_rfl
theorem copied_set (xs ys : List Value) (i : Nat) (h : i < xs.length) (h2 : i < ys.length) : (xs.take i ++ ys.drop i).set i xs[i] = xs.take (i + 1) ++ ys.drop (i + 1) := by
  rw [List.set_append, if_neg (by simp; omega), List.length_take, Nat.min_eq_left (by omega), Nat.sub_self, List.drop_eq_getElem_cons h2, List.take_succ_eq_append_getElem h]
  simp only [List.set_cons_zero, List.append_assoc, List.singleton_append]

set_option maxHeartbeats 400000 in
theorem toStringS_any (A : Option Addr) (n c : Nat) (xs : List ByteArray) (w : World) (hn : xs.length = n) (hm : n ≤ 1048576) (hr : Reads w A (xs.map .string)) :
    Calls Try.prog 22 #[.slice A n c] w fun e w' => ∃ v, e = .returned v ∧ w'.ownsRow w.heap.size 9 1 v n (xs.map .string) ∧ Below w.heap.size w w' := by
  obtain ⟨i0, hi, hz0, hz1, hz2⟩ := info_parts Try.infoS
  have Hn := Lib.hid hn
  have Hr := Lib.hid hr
  clear hn hr
  go_enter Try.func22, Try.ntmps22
  go_wp2_with (refine wpList_make_full _ rfl _ _ 23 rfl w.heap.size 9 i0 (.string ⟨#[]⟩) 1 Try.underlying23 hi hz0 hz1 _ _ _ _ n rfl rfl rfl rfl ?c1 ?c2 ?c3 ?_)
  case c1 => rw [hz2]; omega
  case c2 => unfold maxLen; omega
  case c3 => exact Nat.le_refl _
  intro w1 ho hg
  obtain ⟨ys, ho⟩ : ∃ ys, w1.ownsRow w.heap.size 9 1 (.slice (some ⟨w.heap.size, 0, none⟩) n n) n ys := ⟨_, ho⟩
  have hlen := ho.1
  have Hlen := Lib.hid hlen
  have B1 := Lib.hid ((Below.refl w.heap.size w).grown hg (Nat.le_refl _) (fun k hk => by cases hk))
  have O1 := Lib.hid ho
  clear ho hg hlen
  go_wp2_with fail
  go_loopw [4] (fun y wr => ∃ i : Nat, i ≤ n ∧ y = .int .i64 i ∧ Hid (wr.ownsRow w.heap.size 9 1 (.slice (some ⟨w.heap.size, 0, none⟩) n n) n ((xs.map Value.string).take i ++ ys.drop i)) ∧ Hid (Below w.heap.size w wr)) (fun y _ => n - (intOf y).toNat)
  case atStart => exact ⟨0, Nat.zero_le _, rfl, by simpa using O1, B1⟩
  case round =>
    obtain ⟨i, hle, rfl, ho, hb⟩ := hrel
    by_cases hlt : i < n
    · obtain ⟨b, o, rfl, hbs, hc⟩ := (Hr.out.below hb.out).at_ (by simp; rw [Hn.out]; omega)
      have hix : i < (xs.map Value.string).length := by rw [List.length_map, Hn.out]; exact hlt
      have hiy : i < ys.length := by rw [Hlen.out]; omega
      obtain ⟨u, hu⟩ : ∃ u, Value.string u = (xs.map Value.string)[i] := ⟨xs[i]'(by simpa using hix), by simp⟩
      have hcell : wr.cell? ⟨b, o + i, none⟩ = some (.string u) := hu ▸ hc i hix
      have hi0 : (0 : Int) ≤ (i : Int) := by omega
      have hi1 : (i : Int) < (n : Int) := by omega
      have hfr := ho.out.frozenAt i
      have hcl := ho.out.cellAt i (by omega)
      rw [List.getElem?_eq_getElem (by simp [Hlen.out, Hn.out]; omega)] at hcl
      obtain ⟨old, hold⟩ : ∃ old, wr.cell? ⟨w.heap.size, i, none⟩ = some old := ⟨_, hcl⟩
      have hst := ho.out.stored i (.string u)
      rw [hu, copied_set _ ys i hix hiy, ← hu] at hst
      have ho2 := Lib.hid hst.1
      have hb2 := Lib.hid (below_marked hb.out ho.out hst.2 (Nat.le_refl _) hb.out.size)
      clear hst hcl hc hu
      go_wp2_with fail
      go_roundw
      case rel => exact ⟨i + 1, by omega, by go_num, ho2, hb2⟩
      case measure => simp [intOf]; omega
    · obtain rfl : i = n := by omega
      have ho2 := ho.out
      rw [List.take_of_length_le (by rw [List.length_map, Hn.out]; omega), List.drop_eq_nil_of_le (by rw [Hlen.out]; omega), List.append_nil] at ho2
      have O2 := Lib.hid ho2
      clear ho2
      go_wp2_with fail
      go_ret
      exact ⟨_, rfl, O2.out, hb.out⟩
end Go.Proofs.Ytjhildnagplmbaa
