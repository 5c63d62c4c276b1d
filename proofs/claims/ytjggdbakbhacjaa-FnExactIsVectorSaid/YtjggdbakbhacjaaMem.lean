/- Slices in memory: what a slice reads as, what of it lives on, and the helpers of the laws on slices of strings (equal, marked, held, copied). -/
import Derived.Test.YtjggdbakbhacjaaBase
import Derived.Test.YtjggdbakbhacjaaRows
import Derived.Handy
import Derived.BigQuiet
import Derived.Deep.QuietTactic
import Derived.Deep.RegionHeld3
import Derived.Deep.Draws
import Derived.Laws.OwnMore
import Derived.SliceStrings
import Derived.ProofKit
import Derived.Lib.Join
namespace Go.Proofs.Ytjggdbakbhacjaa
set_option maxRecDepth 100000
open Go.RowKit

/-- From place o on, block b holds the cells xs. -/
def CellsAt (w : World) (b o : Nat) (xs : List Value) : Prop := ∀ j (h : j < xs.length), w.cell? ⟨b, o + j, none⟩ = some xs[j]
/-- A slice that points to A reads as xs. -/
def Reads (w : World) (A : Option Addr) (xs : List Value) : Prop := xs = [] ∨ ∃ b o, A = some ⟨b, o, none⟩ ∧ b < w.heap.size ∧ CellsAt w b o xs

theorem cells_new (w : World) (xs : List Value) (t : TypeId) : CellsAt (w.alloc (.cells xs.toArray t)) w.heap.size 0 xs := fun j hj => by
  rw [Nat.zero_add, World.cell?_alloc_at _ _ _ _ rfl]; simp [hj]
theorem Reads.none_ {w : World} {A : Option Addr} : Reads w A [] := .inl rfl
theorem Reads.at_ {w : World} {A : Option Addr} {xs : List Value} (h : Reads w A xs) (h0 : 0 < xs.length) : ∃ b o, A = some ⟨b, o, none⟩ ∧ b < w.heap.size ∧ CellsAt w b o xs := by
  rcases h with rfl | h
  · simp at h0
  · exact h
theorem Reads.keep {w w' : World} {A : Option Addr} {xs : List Value} (h : Reads w A xs) (hs : w.heap.size ≤ w'.heap.size)
    (hk : ∀ b o, A = some ⟨b, o, none⟩ → w'.heap[b]? = w.heap[b]?) : Reads w' A xs := by
  rcases h with rfl | ⟨b, o, rfl, hb, hc⟩
  · exact .inl rfl
  · exact .inr ⟨b, o, rfl, by omega, fun j hj => (World.cell?_of_block (a := ⟨b, o + j, none⟩) (hk b o rfl)).trans (hc j hj)⟩
theorem Reads.below {w w' : World} {A : Option Addr} {xs : List Value} (h : Reads w A xs) (hb : Below w.heap.size w w') : Reads w' A xs := by
  rcases h with rfl | ⟨b, o, rfl, hlt, hc⟩
  · exact .inl rfl
  · exact .inr ⟨b, o, rfl, by have := hb.size; omega, fun j hj => (hb.cell (p := ⟨b, o + j, none⟩) hlt).trans (hc j hj)⟩
theorem Reads.of_own {w : World} {base : Nat} {E : TypeId} {A : Option Addr} {n c : Nat} {xs : List Value} (h : w.ownsRow base E 1 (.slice A n c) n xs) : Reads w A xs := by
  obtain ⟨hl, h⟩ := h
  rcases h with ⟨hv, rfl⟩ | ⟨g, cap, cur, hv, hbase, hg, hn, _, hcur, htake⟩
  · left; exact List.eq_nil_of_length_eq_zero (by omega)
  · cases hv
    right
    refine ⟨g, 0, rfl, ?_, fun j hj => ?_⟩
    · rcases Nat.lt_or_ge g w.heap.size with h | h
      · exact h
      · rw [Array.getElem?_eq_none h] at hg; cases hg
    · have h1 : w.cell? ⟨g, 0 + j, none⟩ = cur[j]? := by
        rw [Nat.zero_add]; simp [World.cell?, hg]
      rw [h1]
      subst htake
      have hj' : j < cur.size := by simp at hj; omega
      rw [Array.getElem?_eq_getElem hj']
      simp
theorem Reads.own_lt {w : World} {A : Option Addr} {xs : List Value} (h : Reads w A xs) (h0 : 0 < xs.length) {b o : Nat} (hA : A = some ⟨b, o, none⟩) : b < w.heap.size := by
  obtain ⟨b', o', h1, h2, _⟩ := h.at_ h0
  rw [hA] at h1; cases h1; exact h2


theorem grownBy_of_below {w w' : World} (h : Below w.heap.size w w') (row : Option Nat) : w.grownBy w' row := ⟨h.os, h.tape, h.output, h.size, fun k hk _ => h.block k hk⟩
theorem grownBy_trans {a b c : World} {row : Option Nat} (h : a.grownBy b row) (k : b.grownBy c row) : a.grownBy c row :=
  ⟨k.os.trans h.os, k.tape.trans h.tape, k.output.trans h.output, Nat.le_trans h.size k.size, fun j hj hne => (k.block j (Nat.lt_of_lt_of_le hj h.size) hne).trans (h.block j hj hne)⟩
theorem own_below {w w' : World} {base : Nat} {E : TypeId} {size n : Nat} {v : Value} {xs : List Value} (h : w.ownsRow base E size v n xs) (hb : Below w.heap.size w w') : w'.ownsRow base E size v n xs :=
  h.kept (grownBy_of_below hb none) (by cases hv : v.ownBlock <;> simp)
/-- An owned slice with an element: its block, the place of each element, free to be written. -/
theorem own_at {w : World} {base : Nat} {E : TypeId} {A : Option Addr} {n c : Nat} {xs : List Value} (h : w.ownsRow base E 1 (.slice A n c) n xs) (h0 : 0 < n) :
    ∃ g, A = some ⟨g, 0, none⟩ ∧ base ≤ g ∧ g < w.heap.size := by
  rcases h.2 with ⟨_, rfl⟩ | ⟨g, cap, cur, hv, hb, hg, _⟩
  · omega
  · cases hv
    refine ⟨g, rfl, hb, ?_⟩
    rcases Nat.lt_or_ge g w.heap.size with h | h
    · exact h
    · rw [Array.getElem?_eq_none h] at hg; cases hg
theorem own_slice {w : World} {base : Nat} {E : TypeId} {size n : Nat} {v : Value} {xs : List Value} (h : w.ownsRow base E size v n xs) : ∃ A c, v = .slice A n c := by
  rcases h.2 with ⟨hv, rfl⟩ | ⟨g, cap, cur, hv, _⟩
  · exact ⟨_, _, hv⟩
  · exact ⟨_, _, hv⟩
theorem own_cap {w : World} {base : Nat} {E : TypeId} {size n c : Nat} {A : Option Addr} {xs : List Value} (h : w.ownsRow base E size (.slice A n c) n xs) : n ≤ c ∧ c ≤ maxLen := by
  rcases h.2 with ⟨hv, rfl⟩ | ⟨g, cap, cur, hv, _, _, h1, h2, _⟩
  · exact ⟨Nat.zero_le _, by cases hv; exact Nat.zero_le _⟩
  · cases hv; exact ⟨h1, h2⟩
/-- What is written into a row that lies from block base on leaves what lies below. -/
theorem below_marked {B base : Nat} {a w w' : World} {E : TypeId} {size n : Nat} {v : Value} {xs : List Value} (h : Below B a w) (ho : w.ownsRow base E size v n xs) (hg : w.grownBy w' v.ownBlock) (hB : B ≤ base) (hs : B ≤ w.heap.size) : Below B a w' :=
  h.grown hg hs (fun k hk => Nat.le_trans hB (ho.lt k hk).1)
/-- Two owned slices of different ages lie in different blocks. -/
theorem own_apart {w : World} {lo lo' hi hi' : Nat} {E E' : TypeId} {s s' n n' : Nat} {v v' : Value} {xs xs' : List Value} (h : w.ownsRow lo E s v n xs) (u : ∀ k, v.ownBlock = some k → k < hi)
    (h' : w.ownsRow lo' E' s' v' n' xs') (u' : ∀ k, v'.ownBlock = some k → k < hi') (ho : hi ≤ lo' ∨ hi' ≤ lo) : v.ownBlock = none ∨ v.ownBlock ≠ v'.ownBlock := by
  cases hv : v.ownBlock with
  | none => exact .inl rfl
  | some k =>
    refine .inr fun e => ?_
    have h1 := (h.lt k hv).1
    have h2 := u k hv
    have h3 := (h'.lt k e.symm).1
    have h4 := u' k e.symm
    omega
/-- Two results lie in different blocks, or one of them in none. -/
def Apart (v v' : Value) : Prop := ∀ k, v.ownBlock = some k → v'.ownBlock ≠ some k
theorem Apart.symm {v v' : Value} (h : Apart v v') : Apart v' v := fun k hk hk' => h k hk' hk
theorem apart_of {v v' : Value} (h : Apart v v') : v.ownBlock = none ∨ v.ownBlock ≠ v'.ownBlock := by
  cases hv : v.ownBlock with
  | none => exact .inl rfl
  | some k => exact .inr fun e => h k hv e.symm
/-- A row of marks: the first n, from K on. -/
def marks (m : Nat → Value) (K n : Nat) : List Value := (List.range' K n).map m
theorem marks_length (m : Nat → Value) (K n : Nat) : (marks m K n).length = n := by simp [marks]
theorem marks_succ (m : Nat → Value) (K n : Nat) : marks m K (n + 1) = marks m K n ++ [m (K + n)] := by
  unfold marks; rw [List.range'_concat]; simp
theorem marks_get (m : Nat → Value) (K n j : Nat) (h : j < (marks m K n).length) : (marks m K n)[j] = m (K + j) := by simp [marks]
theorem marked_set (m : Nat → Value) (K i : Nat) (xs : List Value) (h : i < xs.length) : (marks m K i ++ xs.drop i).set i (m (K + i)) = marks m K (i + 1) ++ xs.drop (i + 1) := by
  rw [List.set_append, if_neg (by rw [marks_length]; omega), marks_length, Nat.sub_self, marks_succ, List.drop_eq_getElem_cons h]
  simp only [List.set_cons_zero, List.append_assoc, List.singleton_append]

/-- The decimal digits of k, put before out. -/
def markOut : Nat → Nat → List UInt8 → List UInt8
  | 0, _, out => out
  | f + 1, k, out => if k = 0 then out else markOut f (k / 10) ((48 + UInt8.ofNat (k % 10)) :: out)
def markT (k : Int) : ByteArray := if k ≤ 0 then ⟨#[109, 48]⟩ else ⟨(109 :: markOut k.toNat k.toNat []).toArray⟩
theorem markOut_zero (f : Nat) (out : List UInt8) : markOut f 0 out = out := by cases f <;> simp [markOut]
theorem markOut_step (f k : Nat) (out : List UInt8) (h : 0 < k) (hf : k ≤ f) : markOut f k out = markOut (f - 1) (k / 10) ((48 + UInt8.ofNat (k % 10)) :: out) := by
  cases f with
  | zero => omega
  | succ f => rw [markOut, if_neg (by omega)]; rfl
def MarkAt (K k : Nat) (out : List UInt8) : Prop := out.length + k ≤ K ∧ ∃ f, k ≤ f ∧ markOut f k out = markOut K K []
theorem MarkAt.start (K : Nat) : MarkAt K K [] := ⟨by simp, K, Nat.le_refl _, rfl⟩
theorem MarkAt.step {K k : Nat} {out : List UInt8} (h : MarkAt K k out) (h0 : 0 < k) : MarkAt K (k / 10) ((48 + UInt8.ofNat (k % 10)) :: out) := by
  obtain ⟨h1, f, h2, h3⟩ := h
  refine ⟨by simp; omega, f - 1, by omega, ?_⟩
  rw [← h3, markOut_step f k out h0 h2]
theorem MarkAt.done {K : Nat} {out : List UInt8} (h : MarkAt K 0 out) (h0 : 0 < K) : (⟨(109 :: out).toArray⟩ : ByteArray) = markT K := by
  obtain ⟨_, f, _, h3⟩ := h
  rw [markOut_zero] at h3
  unfold markT
  rw [if_neg (by omega), h3]; simp

/-- The same of a byte that lies where it was laid. -/
theorem run_byte_at {P : Program} (src dst e : TypeId) (hs : P.underlying src = some (.slice e)) (he : P.underlying e = some (.int .u8)) (hd : P.underlying dst = some .string) (n : Nat) (hn : n < 256) (b : Nat) (w : World) (hc : w.cell? ⟨b, 0, none⟩ = some (.int .u8 n)) :
    (convert src dst (.slice (some ⟨b, 0, none⟩) 1 1)).run P w = .ok (.string ⟨#[UInt8.ofNat n]⟩) w := by
  have h := run_convert_bytes_back (P := P) w src dst e ⟨b, 0, none⟩ 1 [UInt8.ofNat n] hs he hd (fun j hj => by
    obtain rfl : j = 0 := by simpa using hj
    have e1 : ((⟨b, 0, none⟩ : Addr).add 0) = ⟨b, 0, none⟩ := by simp [Addr.add]
    rw [e1, hc]
    simp [Nat.mod_eq_of_lt hn])
  simpa using h
theorem bcell {W w1 : World} (hb : Below W.heap.size W w1) : (∀ b o, b < W.heap.size → w1.cell? ⟨b, o, none⟩ = W.cell? ⟨b, o, none⟩) ∧ (∀ b o, b < W.heap.size → w1.frozen? ⟨b, o, none⟩ = W.frozen? ⟨b, o, none⟩) :=
  ⟨fun b o h => hb.cell (p := ⟨b, o, none⟩) h, fun b o h => hb.frozen (p := ⟨b, o, none⟩) h⟩
/-- A string of the one byte that has just been laid into new memory. -/
theorem run_one_byte {P : Program} (src dst e t : TypeId) (hs : P.underlying src = some (.slice e)) (he : P.underlying e = some (.int .u8)) (hd : P.underlying dst = some .string) (n : Nat) (hn : n < 256) (w : World) :
    (convert src dst (.slice (some ⟨w.heap.size, 0, none⟩) 1 1)).run P (w.alloc (.cells #[.int .u8 n] t)) = .ok (.string ⟨#[UInt8.ofNat n]⟩) (w.alloc (.cells #[.int .u8 n] t)) := by
  have h := run_convert_bytes_back (P := P) (w.alloc (.cells #[.int .u8 n] t)) src dst e ⟨w.heap.size, 0, none⟩ 1 [UInt8.ofNat n] hs he hd (fun j hj => by
    obtain rfl : j = 0 := by simpa using hj
    have e1 : ((⟨w.heap.size, 0, none⟩ : Addr).add 0) = ⟨w.heap.size, 0, none⟩ := by simp [Addr.add]
    rw [e1, World.cell?_alloc_at _ _ _ _ rfl]
    simp [Nat.mod_eq_of_lt hn])
  simpa using h


def markS (k : Nat) : Value := .string (markT k)



/-- How much a list of strings holds: its length and the lengths of its strings. -/
def szTo (xs : List ByteArray) (k : Nat) : Nat := ((xs.take k).map ByteArray.size).sum
def szL (xs : List ByteArray) : Nat := xs.length + szTo xs xs.length
theorem szTo_succ (xs : List ByteArray) (k : Nat) (h : k < xs.length) : szTo xs (k + 1) = szTo xs k + xs[k].size := by
  unfold szTo
  rw [List.take_succ_eq_append_getElem h, List.map_append, List.sum_append]; rfl
theorem szTo_mono (xs : List ByteArray) (k : Nat) : ∀ n, k + n ≤ xs.length → szTo xs k ≤ szTo xs (k + n)
  | 0, _ => Nat.le_refl _
  | n + 1, h => by
    have h1 := szTo_mono xs k n (by omega)
    have h2 := szTo_succ xs (k + n) (by omega)
    rw [← Nat.add_assoc, h2]; omega
theorem szTo_le (xs : List ByteArray) (k : Nat) (h : k ≤ xs.length) : szTo xs k ≤ szTo xs xs.length := by
  have := szTo_mono xs k (xs.length - k) (by omega)
  rwa [Nat.add_sub_cancel' h] at this

/-- A slice of strings that came in: what it reads as. -/
def IsStrs (w : World) (A : Option Addr) (len : Nat) (xs : List ByteArray) : Prop := xs.length = len ∧ len ≤ maxLen ∧ Reads w A (xs.map .string) ∧ ∀ s ∈ xs, s.size ≤ maxLen
theorem isStrs_of {P : Program} {H : Type} {enc : TypeId × Value → H} {w : World} {t e : TypeId} {A : Option Addr} {len cap : Nat} {d : DataW H} {ps : List MemPlace} {sp : Nat → Bool} {hd : Bool}
    (ht : P.underlying t = some (.slice e)) (he : P.underlying e = some .string) (hc : P.cellsOf e = 1) (h : DataW.Trod enc P w 0 sp hd t (Value.slice A len cap) d ps) : ∃ xs, IsStrs w A len xs := by
  obtain ⟨fuel, hf⟩ := h
  rcases Go.ChangeShapes.open_strings ht he hc hf with ⟨hcs, _⟩ | ⟨x, l, c, ss, hcs, _, hl, hm, hz, _, hcell, hws⟩
  · simp [Value.cells] at hcs
    obtain ⟨rfl, rfl, rfl⟩ := hcs
    exact ⟨[], rfl, Nat.zero_le _, .inl rfl, by simp⟩
  · simp [Value.cells] at hcs
    obtain ⟨rfl, rfl, rfl⟩ := hcs
    have hle : len ≤ ss.length := by rw [hz]; split <;> omega
    refine ⟨ss.take len, by simp; omega, by omega, ?_, fun s hs => hws s (List.mem_of_mem_take hs)⟩
    by_cases h0 : len = 0
    · subst h0; exact .inl (by simp)
    · obtain ⟨b, o, spot⟩ := x
      have h1 := hcell 0 (by omega)
      have hspot : spot = none := by simpa [Addr.add] using World.cell?_spot h1
      subst hspot
      refine .inr ⟨b, o, rfl, ?_, fun j hj => ?_⟩
      · have := World.block_lt_of_cell? _ _ h1
        simpa [Addr.add] using this
      · simp at hj
        have h2 := hcell j (by omega)
        have e1 : ((⟨b, o, none⟩ : Addr).add j) = ⟨b, o + j, none⟩ := by
          by_cases hj0 : j = 0
          · subst hj0; simp [Addr.add]
          · simp [Addr.add, hj0]
        rw [e1] at h2
        rw [h2]
        simp [List.getD, List.getElem?_eq_getElem (show j < ss.length by omega)]


theorem Try.infoS : (Try.prog.info? 9).map (fun i => (i.zero, i.size, i.bytes)) = some (some (.string ⟨#[]⟩), 1, 16) := by kernel_rfl
theorem copied_set (xs ys : List Value) (i : Nat) (h : i < xs.length) (h2 : i < ys.length) : (xs.take i ++ ys.drop i).set i xs[i] = xs.take (i + 1) ++ ys.drop (i + 1) := by
  rw [List.set_append, if_neg (by simp; omega), List.length_take, Nat.min_eq_left (by omega), Nat.sub_self, List.drop_eq_getElem_cons h2, List.take_succ_eq_append_getElem h]
  simp only [List.set_cons_zero, List.append_assoc, List.singleton_append]

end Go.Proofs.Ytjggdbakbhacjaa
