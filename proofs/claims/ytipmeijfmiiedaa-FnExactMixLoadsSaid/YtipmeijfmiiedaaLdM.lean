/- Lists of lists of ints: handed in, of the call's own; what the helpers of the laws do with one (counted, copied, equal, marked). -/
import Derived.Test.YtipmeijfmiiedaaLpM
import Derived.Deep.Slices
namespace Go.Proofs.Ytipmeijfmiiedaa
set_option maxRecDepth 100000
open Go.RowKit Go.ChangeShapes Go.WideShapes Go.Deep Go.Joins

/-- A list within a list: where it lies, and what it holds. -/
abbrev RowE := Option Addr × Nat × Nat × List Int
def rowV (e : RowE) : Value := .slice e.1 e.2.1 e.2.2.1
def rowXs (e : RowE) : List Int := e.2.2.2
def rtot (es : List RowE) : Nat := (es.map fun e => e.2.1).sum
theorem rtot_take_succ {es : List RowE} {i : Nat} {e : RowE} (h : es[i]? = some e) : rtot (es.take (i + 1)) = rtot (es.take i) + e.2.1 := by
  obtain ⟨hi, rfl⟩ := List.getElem?_eq_some_iff.1 h
  simp only [rtot, List.take_succ_eq_append_getElem hi, List.map_append, List.sum_append, List.map_cons, List.map_nil, List.sum_cons, List.sum_nil, Nat.add_zero]
theorem rtot_at {es : List RowE} {e : RowE} (h : e ∈ es) : e.2.1 ≤ rtot es := by
  unfold rtot
  induction es with
  | nil => cases h
  | cons a l ih =>
    rw [List.map_cons, List.sum_cons]
    rcases List.mem_cons.1 h with rfl | h
    · omega
    · have := ih h; omega
theorem rtot_split (es : List RowE) (j : Nat) : rtot (es.take j) ≤ rtot es := by
  have h : rtot es = rtot (es.take j) + rtot (es.drop j) := by
    unfold rtot
    rw [← List.sum_append, ← List.map_append, List.take_append_drop]
  omega
def IsII (w : World) (A : Option Addr) (n : Nat) (es : List RowE) : Prop := es.length = n ∧ n ≤ maxLen ∧ Reads w A (es.map rowV) ∧ ∀ e ∈ es, IsInts w e.1 e.2.1 e.2.2.2
/-- A list of lists that may be read. -/
def InII (w : World) (A : Option Addr) (n : Nat) (es : List RowE) : Prop := es.length = n ∧ n ≤ 1048576 ∧ Reads w A (es.map rowV) ∧ ∀ e ∈ es, InI w e.1 e.2.1 e.2.2.2
theorem IsInts.below {w w' : World} {A : Option Addr} {n : Nat} {xs : List Int} (h : IsInts w A n xs) (hb : Below w.heap.size w w') : IsInts w' A n xs := ⟨h.1, h.2.1, h.2.2.1.below hb, h.2.2.2⟩
theorem IsII.below {w w' : World} {A : Option Addr} {n : Nat} {es : List RowE} (h : IsII w A n es) (hb : Below w.heap.size w w') : IsII w' A n es := ⟨h.1, h.2.1, h.2.2.1.below hb, fun e he => (h.2.2.2 e he).below hb⟩
theorem InII.below {w w' : World} {A : Option Addr} {n : Nat} {es : List RowE} (h : InII w A n es) (hb : Below w.heap.size w w') : InII w' A n es := ⟨h.1, h.2.1, h.2.2.1.below hb, fun e he => (h.2.2.2 e he).below hb⟩
theorem IsII.inII {w : World} {A : Option Addr} {n : Nat} {es : List RowE} (h : IsII w A n es) (hn : n + rtot es ≤ 1048576) : InII w A n es :=
  ⟨h.1, by omega, h.2.2.1, fun e he => (h.2.2.2 e he).inI (by have := rtot_at he; omega)⟩
theorem rows_at {w : World} {A : Option Addr} {es : List RowE} (h : Reads w A (es.map rowV)) {i : Nat} (hi : i < es.length) : ∃ b o e, A = some ⟨b, o, none⟩ ∧ b < w.heap.size ∧ es[i]? = some e ∧ w.cell? ⟨b, o + i, none⟩ = some (rowV e) := by
  obtain ⟨b, o, hL, hlt, hc⟩ := h.at_ (by simp; omega)
  refine ⟨b, o, es[i], hL, hlt, List.getElem?_eq_getElem hi, ?_⟩
  have h2 := hc i (by simp; exact hi)
  rwa [List.getElem_map] at h2
theorem InII.at_ {w : World} {A : Option Addr} {n : Nat} {es : List RowE} (h : InII w A n es) {i : Nat} (hi : i < n) : ∃ b o A1 n1 c1 xs, A = some ⟨b, o, none⟩ ∧ b < w.heap.size ∧ es[i]? = some (A1, n1, c1, xs) ∧ w.cell? ⟨b, o + i, none⟩ = some (.slice A1 n1 c1) ∧ InI w A1 n1 xs := by
  obtain ⟨b, o, ⟨A1, n1, c1, xs⟩, h1, h2, h3, h4⟩ := rows_at h.2.2.1 (i := i) (by rw [h.1]; exact hi)
  exact ⟨b, o, A1, n1, c1, xs, h1, h2, h3, h4, h.2.2.2 _ (List.mem_of_getElem? h3)⟩
section
variable {P : Program} {H : Type} {enc : TypeId × Value → H} {w : World} {sp : Nat → Bool} {hd : Bool}
theorem isII_of {T t e : TypeId} {A : Option Addr} {len cap : Nat} {d : DataW H} {ps : List MemPlace} (hT : P.underlying T = some (.slice t)) (ht : P.underlying t = some (.slice e)) (hC : P.cellsOf t = 1) (he : P.underlying e = some (.int .i64)) (hc : P.cellsOf e = 1)
    (h : DataW.Trod enc P w 0 sp hd T (Value.slice A len cap) d ps) : ∃ es, IsII w A len es := by
  obtain ⟨fuel, hf⟩ := h
  rcases open_slice hT hf with ⟨hcs, _⟩ | ⟨a, l, c, m, n, D, Pl, hcs, _, hl, hm, hmm, _, hi⟩
  · simp [Value.cells] at hcs
    obtain ⟨rfl, rfl, rfl⟩ := hcs
    exact ⟨[], rfl, Nat.zero_le _, .inl rfl, by simp⟩
  · simp [Value.cells] at hcs
    obtain ⟨rfl, rfl, rfl⟩ := hcs
    by_cases h0 : len = 0
    · subst h0; exact ⟨[], rfl, Nat.zero_le _, .inl rfl, by simp⟩
    have hle : len ≤ m := by rw [hmm]; split <;> omega
    obtain ⟨b, o, spot⟩ := a
    have hspot : spot = none := by
      obtain ⟨cs', hc', ht'⟩ := hi 0 (by omega)
      rw [hC] at hc'
      obtain ⟨_, hcl, hat⟩ := World.cells?_some hc'
      have h1 := hat 0 (by omega)
      rw [List.getElem?_eq_getElem (by omega)] at h1
      simpa [Addr.add] using World.cell?_spot h1
    subst hspot
    have hall : ∀ i, i < len → ∃ e : RowE, w.cell? ⟨b, o + i, none⟩ = some (rowV e) ∧ IsInts w e.1 e.2.1 e.2.2.2 := fun i hil => by
      obtain ⟨cs', hc', ht'⟩ := hi i (by omega)
      rw [hC] at hc'
      obtain ⟨_, hcl, hat⟩ := World.cells?_some hc'
      match cs', hcl with
      | [v], _ =>
        obtain ⟨A1, n1, c1, xs, rfl, hx⟩ := ints_cell ht he hc ht'
        have e0 := hat 0 (by omega)
        rw [Go.Deep.add_add, Addr.add_lit] at e0
        exact ⟨(A1, n1, c1, xs), by simpa [rowV] using e0, hx⟩
    obtain ⟨r, hr⟩ := choose_lt hall
    refine ⟨(List.range len).map r, by simp, by omega, .inr ⟨b, o, rfl, ?_, fun j hj => ?_⟩, fun e he => ?_⟩
    · exact World.block_lt_of_cell? _ _ (hr 0 (by omega)).1
    · have hj' : j < len := by simpa using hj
      simpa using (hr j hj').1
    · obtain ⟨j, hj, rfl⟩ := List.mem_map.1 he
      exact (hr j (by simpa using hj)).2
end
theorem Try.infoII : (Try.prog.info? 27).map (fun i => (i.zero, i.size, i.bytes)) = some (some (.slice none 0 0), 1, 24) := by kernel_rfl
/-- No two of the rows share their memory. -/
def Parted (es : List RowE) : Prop := ∀ (i j : Nat) (p q : RowE), i ≠ j → es[i]? = some p → es[j]? = some q → Apart (rowV p) (rowV q)
/-- A list of lists of the call's own. -/
def OwnII (w : World) (base : Nat) (V : Value) (n : Nat) (es : List RowE) : Prop :=
  es.length = n ∧ w.ownsRow base 27 1 V n (es.map rowV) ∧ (∀ e ∈ es, w.ownsRow base 3 1 (rowV e) e.2.1 (e.2.2.2.map (.int .i64))) ∧ Parted es
def footII (V : Value) (es : List RowE) (k : Nat) : Prop := V.ownBlock = some k ∨ ∃ e ∈ es, (rowV e).ownBlock = some k
theorem row_far {w : World} {E E' : TypeId} {s s' n m : Nat} {b b' : Nat} {v u : Value} {xs ys : List Value} (h : w.ownsRow b E s v n xs) (k : w.ownsRow b' E' s' u m ys) (hne : E ≠ E') : Apart v u := fun j hj hu => by
  rcases h.2 with ⟨rfl, _⟩ | ⟨g, cap, cur, rfl, _, hg, _⟩
  · simp [Value.ownBlock] at hj
  · rcases k.2 with ⟨rfl, _⟩ | ⟨g', cap', cur', rfl, _, hg', _⟩
    · simp [Value.ownBlock] at hu
    · simp [Value.ownBlock] at hj hu
      subst hj hu
      rw [hg] at hg'
      injection hg' with hg'
      injection hg' with _ h2
      exact hne h2
section
variable {w w' : World} {base n : Nat} {V V' : Value} {es : List RowE}
theorem OwnII.lt (h : OwnII w base V n es) (k : Nat) (hk : footII V es k) : base ≤ k ∧ k < w.heap.size := by
  rcases hk with hk | ⟨p, hp, hk⟩
  · exact h.2.1.lt k hk
  · exact (h.2.2.1 p hp).lt k hk
theorem OwnII.dep (h : OwnII w base V n es) (hb : ∀ k, footII V es k → w'.heap[k]? = w.heap[k]?) : OwnII w' base V n es :=
  ⟨h.1, own_dep h.2.1 fun k hk => hb k (.inl hk), fun p hp => own_dep (h.2.2.1 p hp) fun k hk => hb k (.inr ⟨p, hp, hk⟩), h.2.2.2⟩
theorem OwnII.below (h : OwnII w base V n es) (hb : Below w.heap.size w w') : OwnII w' base V n es := h.dep fun k hk => hb.block k (h.lt k hk).2
theorem OwnII.holds (h : OwnII w base V n es) : Holds w (footII V es) fun w => OwnII w base V n es :=
  ⟨fun k hk => (h.lt k hk).2, h, fun _ hb => h.dep hb⟩
theorem OwnII.slice (h : OwnII w base V n es) : ∃ A c, V = .slice A n c := own_slice h.2.1
theorem iinow {F : Nat → Prop} (h : Hid (Holds w F fun w => OwnII w base V n es)) : OwnII w base V n es := h.out.now
/-- A row is put in its place. -/
theorem OwnII.store {g c i : Nat} {e : RowE} (h : OwnII w base (.slice (some ⟨g, 0, none⟩) n c) n es) (hi : i < n) (ho : w.ownsRow base 3 1 (rowV e) e.2.1 (e.2.2.2.map (.int .i64))) (hf : ∀ p ∈ es, Apart (rowV e) (rowV p)) :
    OwnII (w.setCell ⟨g, i, none⟩ (rowV e)) base (.slice (some ⟨g, 0, none⟩) n c) n (es.set i e) := by
  have hfar : ∀ p : RowE, w.ownsRow base 3 1 (rowV p) p.2.1 (p.2.2.2.map (.int .i64)) → (w.setCell ⟨g, i, none⟩ (rowV e)).ownsRow base 3 1 (rowV p) p.2.1 (p.2.2.2.map (.int .i64)) := fun p hp =>
    own_dep hp fun k hk => Below.heap_setCell _ _ _ k fun q => row_far hp h.2.1 (by decide) k hk (by rw [q]; rfl)
  refine ⟨by simp [h.1], ?_, fun p hp => ?_, fun a b p q hab hp hq => ?_⟩
  · rw [List.map_set]
    exact (h.2.1.stored i (rowV e)).1
  · rcases List.mem_or_eq_of_mem_set hp with hp | rfl
    · exact hfar p (h.2.2.1 p hp)
    · exact hfar _ ho
  · rw [List.getElem?_set] at hp hq
    by_cases ha : i = a
    · subst ha
      rw [if_pos rfl, if_pos (by rw [h.1]; exact hi)] at hp
      rw [if_neg hab] at hq
      obtain rfl := Option.some.inj hp
      exact hf q (List.mem_of_getElem? hq)
    · rw [if_neg ha] at hp
      by_cases hb : i = b
      · subst hb
        rw [if_pos rfl, if_pos (by rw [h.1]; exact hi)] at hq
        obtain rfl := Option.some.inj hq
        exact (hf p (List.mem_of_getElem? hp)).symm
      · rw [if_neg hb] at hq
        exact h.2.2.2 a b p q hab hp hq
theorem own_reads {E : TypeId} {A : Option Addr} {c : Nat} {xs : List Value} (h : w.ownsRow base E 1 (.slice A n c) n xs) : Reads w A xs := by
  rcases h.2 with ⟨hv, rfl⟩ | ⟨g, cap, cur, hv, _⟩
  · have := h.1
    exact .inl (List.eq_nil_of_length_eq_zero (by simpa using this))
  · cases hv
    by_cases h0 : n = 0
    · subst h0
      have := h.1
      exact .inl (List.eq_nil_of_length_eq_zero (by simpa using this))
    refine .inr ⟨g, 0, rfl, (h.lt g rfl).2, fun j hj => ?_⟩
    have h1 := h.1
    have := h.cellAt j (by omega)
    rw [Nat.zero_add]
    rw [List.getElem?_eq_getElem hj] at this
    simpa using this
theorem OwnII.in_ {A : Option Addr} {c : Nat} (h : OwnII w base (.slice A n c) n es) (hn : n ≤ 1048576) (hi : ∀ e ∈ es, e.2.2.2.length = e.2.1 ∧ e.2.1 ≤ 1048576 ∧ ∀ z ∈ e.2.2.2, -9223372036854775808 ≤ z ∧ z ≤ 9223372036854775807) : InII w A n es :=
  ⟨h.1, hn, own_reads h.2.1, fun e he => ⟨(hi e he).1, (hi e he).2.1, Reads.of_own (h.2.2.1 e he), (hi e he).2.2⟩⟩
end
theorem rFit_same {es : List RowE} (h : ∀ e ∈ es, e.2.2.2.length = e.2.1 ∧ e.2.1 ≤ 1048576 ∧ ∀ z ∈ e.2.2.2, -9223372036854775808 ≤ z ∧ z ≤ 9223372036854775807) : ∀ e ∈ es, e.2.2.2.length = e.2.1 ∧ e.2.1 ≤ 1048576 ∧ ∀ z ∈ e.2.2.2, -9223372036854775808 ≤ z ∧ z ≤ 9223372036854775807 := h
/-- What the rows hold, apart from where they lie. -/
def Alike (es fs : List RowE) : Prop := fs.map rowXs = es.map rowXs ∧ ∀ e ∈ fs, e.2.2.2.length = e.2.1
def RFit (es : List RowE) : Prop := ∀ e ∈ es, e.2.2.2.length = e.2.1 ∧ e.2.1 ≤ 1048576 ∧ ∀ z ∈ e.2.2.2, -9223372036854775808 ≤ z ∧ z ≤ 9223372036854775807
theorem iiin {w : World} {F : Nat → Prop} {base n : Nat} {A : Option Addr} {c : Nat} {es : List RowE} (h : Hid (Holds w F fun w => OwnII w base (.slice A n c) n es)) (hf : Hid (RFit es)) (hn : n ≤ 1048576) : InII w A n es := h.out.now.in_ hn hf.out
theorem InII.fit {w : World} {A : Option Addr} {n : Nat} {es : List RowE} (h : InII w A n es) : RFit es := fun e he => ⟨(h.2.2.2 e he).1, (h.2.2.2 e he).2.1, (h.2.2.2 e he).2.2.2⟩
theorem Alike.fit {es fs : List RowE} (h : Alike es fs) (hf : RFit es) : RFit fs := fun e he => by
  obtain ⟨i, hi⟩ := List.getElem?_of_mem he
  have h1 : (fs.map rowXs)[i]? = some e.2.2.2 := by rw [List.getElem?_map, hi]; rfl
  rw [h.1, List.getElem?_map] at h1
  cases hq : es[i]? with
  | none => rw [hq] at h1; cases h1
  | some e' =>
    rw [hq] at h1
    have h2 : e'.2.2.2 = e.2.2.2 := Option.some.inj h1
    obtain ⟨k1, k2, k3⟩ := hf e' (List.mem_of_getElem? hq)
    have hl := h.2 e he
    rw [h2] at k1 k3
    exact ⟨hl, by omega, k3⟩
theorem Alike.tot {es fs : List RowE} (h : Alike es fs) (hf : RFit es) : rtot fs = rtot es := by
  have h1 : fs.map (fun e => e.2.1) = fs.map (fun e => (rowXs e).length) := List.map_congr_left fun e he => (h.2 e he).symm
  have h2 : es.map (fun e => e.2.1) = es.map (fun e => (rowXs e).length) := List.map_congr_left fun e he => (hf e he).1.symm
  unfold rtot
  rw [h1, h2]
  have h3 := congrArg (List.map List.length) h.1
  simp only [List.map_map] at h3
  exact congrArg List.sum h3
theorem Alike.length {es fs : List RowE} (h : Alike es fs) : fs.length = es.length := by simpa using congrArg List.length h.1
theorem Alike.xs {es fs : List RowE} (h : Alike es fs) : fs.map rowXs = es.map rowXs := h.1
set_option maxHeartbeats 1600000 in
theorem szIntSS_any (A : Option Addr) (n c : Nat) (es : List RowE) (left : Int) (w : World) (h : IsII w A n es) (h0 : 0 ≤ left) (hl : left ≤ 1048576) :
    Calls Try.prog 31 #[.slice A n c, .int .i64 left] w fun e w' => SzEnd left (n + rtot es) w w' e := by
  have hm := h.2.1
  have hlen := h.1
  unfold maxLen at hm
  have HV := Lib.hid h
  have HL := Lib.hid hlen
  clear h hlen
  by_cases hneg : left - n < 0
  · go_enter Try.func31, Try.ntmps31
    go_wp2_with fail
    go_ret
    exact ⟨-1, rfl, .inl rfl, Below.refl _ _⟩
  go_enter Try.func31, Try.ntmps31
  go_wp2_with fail
  go_loopw [1, 5] (fun x y wr => ∃ i : Nat, i ≤ n ∧ y = .int .i64 i ∧ (∃ z : Int, x = .int .i64 z ∧ 0 ≤ z ∧ z ≤ 1048576 ∧ Hid (z = left - n - rtot (es.take i))) ∧ Hid (Below w.heap.size w wr)) (fun _ y _ => n - (intOf y).toNat)
  case atStart => exact ⟨0, Nat.zero_le _, rfl, ⟨left - n, by first | rfl | go_num, by omega, by omega, by unfold Hid; simp [rtot]⟩, Below.refl _ _⟩
  case round =>
    obtain ⟨i, hi, rfl, ⟨z, rfl, hz0, hz1, hz⟩, hb⟩ := hrel
    by_cases hlt : i < n
    · obtain ⟨b, o, ⟨A1, n1, c1, xs⟩, rfl, hbs, hr, hcell⟩ := rows_at (HV.out.below hb.out).2.2.1 (i := i) (by rw [HL.out]; exact hlt)
      have hx := (HV.out.2.2.2 _ (List.mem_of_getElem? hr)).2.1
      simp only at hx
      simp only [rowV] at hcell
      have hi0 : (0 : Int) ≤ (i : Int) := by omega
      have hi1 : (i : Int) < (n : Int) := by omega
      have HR := Lib.hid hr
      clear hr
      go_wp2_with fail
      refine (szIntS_any A1 n1 c1 z _ hx hz0 hz1).mono ?_
      rintro e w1 ⟨r, rfl, hr, hb1⟩
      have HB := Lib.hid (hb.out.trans (hb1.mono hb.out.size))
      clear hb1 hcell
      rcases hr with rfl | ⟨hr0, hr1⟩
      · go_wp2_with fail
        go_ret
        exact ⟨-1, rfl, .inl rfl, HB.out⟩
      · have hr2 : r ≤ 1048576 := by omega
        have HZ : Hid (r = left - n - rtot (es.take (i + 1))) := by
          have h1 := hz.out
          have h3 := rtot_take_succ HR.out
          simp only at h3
          unfold Hid; omega
        clear hr1
        go_wp2_with fail
        go_roundw
        case rel => exact ⟨i + 1, by omega, by go_num, ⟨r, rfl, by omega, by omega, HZ⟩, HB⟩
        case measure => simp [intOf]; omega
    · obtain rfl : i = n := by omega
      have HZ : Hid (z = left - ((i + rtot es : Nat) : Int)) := by
        have h1 := hz.out
        rw [List.take_of_length_le (by rw [HL.out]; omega)] at h1
        unfold Hid; omega
      have HF : Hid (SzEnd left (i + rtot es) w wr (.returned (.int .i64 z))) := ⟨z, rfl, .inr ⟨hz0, HZ.out⟩, hb.out⟩
      go_wp2_with fail
      go_ret
      exact HF.out
/-- The first i rows are there, the others are zero values. -/
def zeroE : RowE := (none, 0, 0, [])
def UpTo (es : List RowE) (i n : Nat) (gs : List RowE) : Prop := gs.map rowXs = (es.map rowXs).take i ++ List.replicate (n - i) [] ∧ ∀ e ∈ gs, e.2.2.2.length = e.2.1
theorem upTo_start (es : List RowE) (n : Nat) : UpTo es 0 n (List.replicate n zeroE) := ⟨by simp [zeroE, rowXs], fun e he => by rw [List.eq_of_mem_replicate he]; rfl⟩
theorem UpTo.step {es gs : List RowE} {i n : Nat} {e e' : RowE} (h : UpTo es i n gs) (hi : i < n) (he : es[i]? = some e) (hx : e'.2.2.2 = e.2.2.2) (hl : e'.2.2.2.length = e'.2.1) : UpTo es (i + 1) n (gs.set i e') := by
  obtain ⟨hlt, rfl⟩ := List.getElem?_eq_some_iff.1 he
  refine ⟨?_, fun p hp => ?_⟩
  · rw [List.map_set, h.1]
    have hl2 : ((es.map rowXs).take i).length = i := by rw [List.length_take, List.length_map]; omega
    rw [List.set_append_right _ _ (by omega), hl2, Nat.sub_self, show n - i = (n - (i + 1)) + 1 by omega, List.replicate_succ, List.set_cons_zero, List.take_succ_eq_append_getElem (by rw [List.length_map]; exact hlt), List.append_assoc, List.getElem_map]
    unfold rowXs
    rw [hx]
    rfl
  · rcases List.mem_or_eq_of_mem_set hp with hp | rfl
    · exact h.2 p hp
    · exact hl
theorem UpTo.done {es gs : List RowE} {n : Nat} (h : UpTo es n n gs) (hn : es.length = n) : Alike es gs := ⟨by rw [h.1, List.take_of_length_le (by simp [hn])]; simp, h.2⟩
def ToIIEnd (n : Nat) (es : List RowE) (w w' : World) (e : Ending) : Prop := ∃ A c fs, e = .returned (.slice A n c) ∧ OwnII w' w.heap.size (.slice A n c) n fs ∧ Alike es fs ∧ Below w.heap.size w w'
theorem zeros_made (n : Nat) : (madeCells (Value.slice none 0 0).cells (n * 1)).toList = (List.replicate n zeroE).map rowV := by
  apply List.ext_getElem
  · simp [madeCells, Value.cells]
  · intro i h1 h2
    simp [madeCells, Value.cells, Nat.mod_one, zeroE, rowV]
theorem ownII_zeros {w : World} {base n : Nat} {V : Value} (h : w.ownsRow base 27 1 V n ((List.replicate n zeroE).map rowV)) : OwnII w base V n (List.replicate n zeroE) :=
  ⟨by simp, h, fun e he => by rw [List.eq_of_mem_replicate he]; exact World.ownsRow_nil _ _ _ _, fun i j p q _ hp _ k hk => by
    rw [List.eq_of_mem_replicate (List.mem_of_getElem? hp)] at hk
    cases hk⟩
set_option maxHeartbeats 3200000 in
theorem toIntSS_any (A : Option Addr) (n c : Nat) (es : List RowE) (w : World) (h : InII w A n es) :
    Calls Try.prog 33 #[.slice A n c] w fun e w' => ToIIEnd n es w w' e := by
  obtain ⟨i0, hi, hz0, hz1, hz2⟩ : ∃ i, Try.prog.info? 27 = some i ∧ i.zero = some (.slice none 0 0) ∧ i.size = 1 ∧ i.bytes = 24 := by
    have h := Try.infoII
    cases hq : Try.prog.info? 27 with
    | none => rw [hq] at h; cases h
    | some i =>
      rw [hq] at h
      simp at h
      exact ⟨i, rfl, h.1, h.2.1, h.2.2⟩
  have hn := h.2.1
  have HL : Hid (es.length = n) := h.1
  have HV := Lib.hid h
  clear h
  go_enter Try.func33, Try.ntmps33
  go_wp2_with (refine wpList_make_full _ rfl _ _ 34 rfl w.heap.size 27 i0 (.slice none 0 0) 1 Try.underlying34 hi hz0 hz1 _ _ _ _ n rfl rfl rfl rfl ?c1 ?c2 ?c3 ?_)
  case c1 => rw [hz2]; omega
  case c2 => unfold maxLen; omega
  case c3 => exact Nat.le_refl _
  intro w1 ho hg
  have B1 := Lib.hid ((Below.refl w.heap.size w).grown hg (Nat.le_refl _) (fun k hk => by cases hk))
  have O1 : Hid (OwnII w1 w.heap.size (.slice (some ⟨w.heap.size, 0, none⟩) n n) n (List.replicate n zeroE)) := ownII_zeros (by rw [← zeros_made]; simp only [Value.cells, Nat.mul_one]; exact ho)
  clear ho hg
  obtain ⟨G, hG⟩ : ∃ G, G = w.heap.size := ⟨_, rfl⟩
  have HG := Lib.hid hG
  rw [← hG] at O1 ⊢
  clear hG
  go_wp2_with fail
  go_loopw [4] (fun y wr => ∃ (i : Nat) (gs : List RowE), i ≤ n ∧ y = .int .i64 i ∧ Hid (OwnII wr G (.slice (some ⟨G, 0, none⟩) n n) n gs) ∧ Hid (UpTo es i n gs) ∧ Hid (Below w.heap.size w wr)) (fun y _ => n - (intOf y).toNat)
  case atStart => exact ⟨0, _, Nat.zero_le _, rfl, O1, upTo_start es n, B1⟩
  case round =>
    obtain ⟨i, gs, hle, rfl, ho, hu, hb⟩ := hrel
    by_cases hlt : i < n
    · obtain ⟨b, o, A1, n1, c1, xs, rfl, hbs, hr, hcell, hx⟩ := (HV.out.below hb.out).at_ hlt
      have hi0 : (0 : Int) ≤ (i : Int) := by omega
      have hi1 : (i : Int) < (n : Int) := by omega
      have HR := Lib.hid hr
      have IX := Lib.hid hx
      clear hr hx
      go_wp2_with fail
      refine (toIntS_any A1 n1 c1 xs _ IX.out.1 IX.out.2.1 IX.out.2.2.1).mono ?_
      rintro e w2 ⟨v, rfl, ho1, hb2⟩
      obtain ⟨A2, c2, rfl⟩ := own_slice ho1
      have ho2 := ho.out.below hb2
      have hGw : G ≤ wr.heap.size := by rw [HG.out]; exact hb.out.size
      have he : w2.ownsRow G 3 1 (rowV (A2, n1, c2, xs)) n1 (xs.map (.int .i64)) := own_base ho1 hGw
      have hst := ho2.store (e := (A2, n1, c2, xs)) hlt he (fun p hp k hk hk' => by
        have h1 := (ho1.lt k hk).1
        have h2 := ((ho.out.2.2.1 p hp).lt k hk').2
        omega)
      have HO3 := Lib.hid hst
      have HU3 : Hid (UpTo es (i + 1) n (gs.set i (A2, n1, c2, xs))) := hu.out.step hlt HR.out rfl IX.out.1
      have HB3 : Hid (Below w.heap.size w (w2.setCell ⟨G, i, none⟩ (rowV (A2, n1, c2, xs)))) := (hb.out.trans (hb2.mono hb.out.size)).setCell (by rw [HG.out]; exact Nat.le_refl _) _
      have hfr := ho2.2.1.frozenAt i
      obtain ⟨old, hold⟩ : ∃ old, w2.cell? ⟨G, i, none⟩ = some old := by
        have hcl := ho2.2.1.cellAt i (by omega)
        rw [List.getElem?_eq_getElem (by rw [List.length_map, ho2.1]; omega)] at hcl
        exact ⟨_, hcl⟩
      clear hst ho2 he ho1 hb2
      simp only [rowV] at HO3 HB3
      go_wp2_with fail
      go_roundw
      case rel => exact ⟨i + 1, _, by omega, by go_num, HO3, HU3, HB3⟩
      case measure => simp [intOf]; omega
    · obtain rfl : i = n := by omega
      have HF : Hid (ToIIEnd i es w wr (.returned (.slice (some ⟨G, 0, none⟩) i i))) := ⟨_, _, gs, rfl, by rw [← HG.out]; exact ho.out, hu.out.done HL.out, hb.out⟩
      go_wp2_with fail
      go_ret
      exact HF.out
theorem atII2 {w : World} {b o b' o' : Nat} {x x' : Value} (h : Hid (w.cell? ⟨b, o, none⟩ = some x)) (k : Hid (w.cell? ⟨b', o', none⟩ = some x')) : w.cell? ⟨b, o, none⟩ = some x ∧ w.cell? ⟨b', o', none⟩ = some x' := ⟨h.out, k.out⟩
set_option maxHeartbeats 3200000 in
theorem eqIntSS_same (A1 A2 : Option Addr) (n c1 c2 : Nat) (es fs : List RowE) (w : World) (h1 : InII w A1 n es) (h2 : InII w A2 n fs) (ha : es.map rowXs = fs.map rowXs) :
    Calls Try.prog 34 #[.slice A1 n c1, .slice A2 n c2] w fun e w' => e = .returned (.bool true) ∧ Below w.heap.size w w' := by
  have hm := h1.2.1
  have H1 := Lib.hid h1
  have H2 := Lib.hid h2
  have HA := Lib.hid ha
  clear h1 h2 ha
  go_enter Try.func34, Try.ntmps34
  go_wp2_with fail
  go_loopw [5] (fun x wr => ∃ i : Nat, i ≤ n ∧ x = .int .i64 i ∧ Hid (Below w.heap.size w wr)) (fun x _ => n - (intOf x).toNat)
  case atStart => exact ⟨0, Nat.zero_le _, rfl, Below.refl _ _⟩
  case round =>
    obtain ⟨i, hle, rfl, hb⟩ := hrel
    by_cases hlt : i < n
    · obtain ⟨b1, o1, A3, n3, c3, xs, rfl, hb1, hr, at1, i1⟩ := (H1.out.below hb.out).at_ hlt
      obtain ⟨b2, o2, A4, n4, c4, ys, rfl, hb2, hr', at2', i2⟩ := (H2.out.below hb.out).at_ hlt
      obtain rfl : xs = ys := by
        have h1 : (es.map rowXs)[i]? = some xs := by rw [List.getElem?_map, hr]; rfl
        have h2 : (fs.map rowXs)[i]? = some ys := by rw [List.getElem?_map, hr']; rfl
        rw [HA.out, h2] at h1
        exact (Option.some.inj h1).symm
      obtain rfl : n3 = n4 := i1.1.symm.trans i2.1
      have hi0 : (0 : Int) ≤ (i : Int) := by omega
      have hi1 : (i : Int) < (n : Int) := by omega
      have P1_0 : Hid (wr.drew.cell? ⟨b1, o1 + i, none⟩ = some (.slice A3 n3 c3)) := at1
      have P2_0 : Hid (wr.drew.cell? ⟨b2, o2 + i, none⟩ = some (.slice A4 n3 c4)) := at2'
      have I1 := Lib.hid (i1.below (Below.refl _ wr).drew)
      have I2 := Lib.hid (i2.below (Below.refl _ wr).drew)
      have HLT1 := Lib.hid hb1
      have HLT2 := Lib.hid hb2
      have hn3 : n3 ≤ maxLen := by have := i1.2.1; unfold maxLen; omega
      have HN3 := Lib.hid hn3
      clear at1 at2' i1 i2 hr hr' hn3
      go_wp2_with fail
      go_region_held3 (fun w' => w'.cell? ⟨b1, o1 + i, none⟩ = some (.slice A3 n3 c3) ∧ w'.cell? ⟨b2, o2 + i, none⟩ = some (.slice A4 n3 c4)) (first | with_reducible exact atII2 P1_1 P2_1 | with_reducible exact atII2 P1_0 P2_0) (first | (go_at_call 25; (with_reducible refine (eqIntS_same A3 A4 n3 c3 c4 xs _ I1.out.len HN3.out I1.out.rd I2.out.rd).mono ?_); rintro e w1 ⟨rfl, hb1⟩; have P1_1 := Lib.hid ((hb1.cell (p := ⟨b1, o1 + i, none⟩) HLT1.out).trans P1_0.out); have P2_1 := Lib.hid ((hb1.cell (p := ⟨b2, o2 + i, none⟩) HLT2.out).trans P2_0.out); have HB := Lib.hid (hb.out.drew.trans (hb1.mono hb.out.size)); clear hb1))
      go_wp2_with fail
      go_roundw
      case rel => exact ⟨i + 1, by omega, by go_num, HB⟩
      case measure => simp [intOf]; omega
    · obtain rfl : i = n := by omega
      go_wp2_with fail
      go_ret
      exact ⟨rfl, hb.out⟩
def MarkIIEnd (K T : Nat) (V : Value) (es : List RowE) (w w' : World) (e : Ending) : Prop := e = .returned (.int .i64 ((K + T : Nat) : Int)) ∧ Wrote (footII V es) w w'
set_option maxHeartbeats 3200000 in
theorem markIntSS_own (base : Nat) (A : Option Addr) (n c K : Nat) (es : List RowE) (T : Nat) (w : World) (hT : rtot es = T) (hK : K + T < 9223372036854775807) (h : OwnII w base (.slice A n c) n es) (hn : n ≤ 1048576) (hf : RFit es) :
    Calls Try.prog 35 #[.slice A n c, .int .i64 K] w fun e w' => MarkIIEnd K T (.slice A n c) es w w' e := by
  subst hT
  have HO := Lib.hid h
  have HF0 := Lib.hid hf
  have HKT := Lib.hid hK
  have HL : Hid (es.length = n) := h.1
  clear h hf
  go_enter Try.func35, Try.ntmps35
  go_wp2_with fail
  go_loopw [1, 5] (fun x y wr => ∃ i S : Nat, i ≤ n ∧ y = .int .i64 i ∧ x = .int .i64 S ∧ S < 9223372036854775807 ∧ Hid (S = K + rtot (es.take i)) ∧ Hid (wr.ownsRow base 27 1 (.slice A n c) n (es.map rowV)) ∧ Hid (∀ j e, i ≤ j → es[j]? = some e → wr.ownsRow base 3 1 (rowV e) e.2.1 (e.2.2.2.map (.int .i64))) ∧ Hid (Wrote (footII (.slice A n c) es) w wr)) (fun _ y _ => n - (intOf y).toNat)
  case atStart => exact ⟨0, K, Nat.zero_le _, rfl, rfl, by omega, by simp [Hid, rtot], HO.out.2.1, fun j e _ he => HO.out.2.2.1 e (List.mem_of_getElem? he), Wrote.refl _ _⟩
  case round =>
    obtain ⟨i, S, hle, rfl, rfl, hS, HS, ho, hr, hW⟩ := hrel
    by_cases hlt : i < n
    · obtain ⟨b, o, ⟨A1, n1, c1, xs⟩, rfl, hbs, he, hcell⟩ := rows_at (own_reads ho.out) (i := i) (by rw [HL.out]; exact hlt)
      simp only [rowV] at hcell
      have hi0 : (0 : Int) ≤ (i : Int) := by omega
      have hi1 : (i : Int) < (n : Int) := by omega
      have HE := Lib.hid he
      have hSn : S + n1 < 9223372036854775807 := by
        have h1 := rtot_take_succ he
        have h2 := rtot_split es (i + 1)
        have h3 := HS.out
        have h4 := HKT.out
        simp only at h1
        omega
      have hor := hr.out i _ (Nat.le_refl _) he
      have HOR : Hid (wr.ownsRow base 3 1 (.slice A1 n1 c1) n1 (xs.map (.int .i64))) := hor
      clear he hor
      go_wp2_with fail
      refine (markIntS_own base A1 n1 c1 S _ _ hSn HOR.out (ints_are _)).mono ?_
      rintro e w2 ⟨rfl, ho2, hg⟩
      have HS2 : Hid (S + n1 = K + rtot (es.take (i + 1))) := by
        have h1 := rtot_take_succ HE.out
        have h3 := HS.out
        simp only at h1
        unfold Hid
        omega
      have hw2 : Wrote (fun k => (Value.slice A1 n1 c1).ownBlock = some k) wr w2 := Wrote.of_grown hg
      have HO3 : Hid (w2.ownsRow base 27 1 (.slice (some ⟨b, o, none⟩) n c) n (es.map rowV)) := own_dep ho.out fun k hk => hw2.block k (ho.out.lt k hk).2 fun q => row_far HOR.out ho.out (by decide) k q hk
      have HR3 : Hid (∀ j e, i + 1 ≤ j → es[j]? = some e → w2.ownsRow base 3 1 (rowV e) e.2.1 (e.2.2.2.map (.int .i64))) := fun j e hj he => by
        have h0 := hr.out j e (by omega) he
        exact own_dep h0 fun k hk => hw2.block k (h0.lt k hk).2 fun q => HO.out.2.2.2 i j _ _ (by omega) HE.out he k q hk
      have HW3 : Hid (Wrote (footII (.slice (some ⟨b, o, none⟩) n c) es) w w2) := hW.out.trans (hw2.mono fun k _ hk => .inr ⟨_, List.mem_of_getElem? HE.out, hk⟩)
      clear ho2 hg hw2 hcell
      go_wp2_with fail
      go_roundw
      case rel => exact ⟨i + 1, S + n1, by omega, by go_num, by go_num, by omega, HS2, HO3, HR3, HW3⟩
      case measure => simp [intOf]; omega
    · obtain rfl : i = n := by omega
      have HF : Hid (MarkIIEnd K (rtot es) (.slice A i c) es w wr (.returned (.int .i64 S))) := ⟨by rw [HS.out, List.take_of_length_le (by rw [HL.out]; exact Nat.le_refl _)], hW.out⟩
      go_wp2_with fail
      go_ret
      exact HF.out
end Go.Proofs.Ytipmeijfmiiedaa
