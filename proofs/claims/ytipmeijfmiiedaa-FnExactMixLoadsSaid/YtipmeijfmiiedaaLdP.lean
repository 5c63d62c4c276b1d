/- A force put on a joint, by the program and by the model. -/
import Derived.Test.YtipmeijfmiiedaaLdS
namespace Go.Proofs.Ytipmeijfmiiedaa
set_option maxRecDepth 100000
open Go.RowKit

theorem ldEnd_none {Q : List Int → Bool → Prop} {w w' : World} (h : Q [] false) (hb : Below w.heap.size w w') : LdEnd Q w w' (.returned (.tuple #[.slice none 0 0, .bool false])) :=
  ⟨[], _, false, rfl, h, ⟨by simp, World.ownsRow_nil _ _ _ _⟩, hb⟩
theorem wrap_fits (z : Int) : -9223372036854775808 ≤ IntKind.i64.wrap z ∧ IntKind.i64.wrap z ≤ 9223372036854775807 := by rw [IntKind.wrap_i64]; omega
theorem putl_fits {l : List Int} (h : Ent l) {k : Nat} {x y : Int} : ∀ z ∈ putl l k x y, -9223372036854775808 ≤ z ∧ z ≤ 9223372036854775807 := fun z hz => by
  unfold putl at hz
  rcases List.mem_or_eq_of_mem_set hz with hz | rfl
  · rcases List.mem_or_eq_of_mem_set hz with hz | rfl
    · have := h z hz; omega
    · exact wrap_fits _
  · exact wrap_fits _
set_option maxHeartbeats 6400000 in
theorem impl_putLoad0 (A : Option Addr) (n c : Nat) (js : List JD) (B : Option Addr) (m d : Nat) (ms : List MD) (X : Option Addr) (nx cx : Nat) (l : List Int) (k x y : Int) (w : World) (h : InT w A n js B m ms) (hl : InI w X nx l) (hxb : -9223372036854775808 ≤ x ∧ x ≤ 9223372036854775807) (hyb : -9223372036854775808 ≤ y ∧ y ≤ 9223372036854775807) :
    Calls Try.prog 17 #[.agg #[.slice A n c, .slice B m d], .slice X nx cx, .int .i64 k, .int .i64 x, .int .i64 y] w fun e w' => LdEnd (PutLoadIs js ms l k x y) w w' e := by
  obtain ⟨i0, hi, hz0, hz1, hz2⟩ := info_parts Try.infoI
  obtain ⟨W1, hW⟩ : ∃ W, W = w.alloc (.cells #[.slice A n c, .slice B m d] 26) := ⟨_, rfl⟩
  have X0 : Hid (Box W1 w.heap.size 26 #[.slice A n c, .slice B m d]) := by rw [hW]; exact Box.new _ _ _
  have B0 : Hid (Below w.heap.size w W1) := by rw [hW]; exact (Below.refl _ _).alloc (Nat.le_refl _) _
  have HLN : Hid (js.length = n) := h.1.1
  have HI := Lib.hid h
  have HLX : Hid (l.length = nx) := hl.1
  have hnx := hl.2.1
  have HX := Lib.hid hl
  clear h hl
  go_enter Try.func17, Try.ntmps17
  go_wp2_with fail
  rw [← hW]
  clear hW
  refine (impl_loadOk0 A n c js B m d ms X nx cx l _ (HI.out.below B0.out) (HX.out.below B0.out)).mono ?_
  rintro e w1 ⟨b, rfl, hq, hb⟩
  have X1 := Lib.hid (X0.out.below hb X0.out.lt)
  have B1 := Lib.hid (B0.out.trans (hb.mono B0.out.size))
  have HQ := Lib.hid hq
  clear hq hb
  cases b
  case false =>
    have HF : Hid (LdEnd (PutLoadIs js ms l k x y) w w1 (.returned (.tuple #[.slice none 0 0, .bool false]))) := ldEnd_none (Q := PutLoadIs js ms l _ x y) (.inr ⟨fun q => (by have := HQ.out.2 q.1; cases this), rfl, rfl⟩) B1.out
    go_wp2_with fail
    go_ret2
    exact HF.out
  have HOK : Hid (LdOk js ms l) := HQ.out.1 rfl
  have hn6 : n ≤ 6 := by have := HOK.out.1.six; have := HLN.out; omega
  have hnx2 : nx = 2 * n := by have h1 := HOK.out.2.1; rw [HLN.out, HLX.out] at h1; exact h1
  have HN2 := Lib.hid hnx2
  have HXB := Lib.hid hxb
  have HYB := Lib.hid hyb
  clear hnx2
  have e0 := X1.out.cell 0
  have e1 := X1.out.cell 1
  simp at e0 e1
  by_cases hk : 0 ≤ k ∧ k < n
  case neg =>
    have HNK := Lib.hid hk
    have HF : Hid (LdEnd (PutLoadIs js ms l k x y) w w1 (.returned (.tuple #[.slice none 0 0, .bool false]))) := ldEnd_none (Q := PutLoadIs js ms l _ x y) (.inr ⟨fun q => HNK.out ⟨q.2.1.1, by have := q.2.1.2; rw [HLN.out] at this; exact this⟩, rfl, rfl⟩) B1.out
    clear hk hxb hyb
    go_wp2_with fail
    refine (isIndex_no k n _ HNK.out).mono ?_
    rintro e w2 ⟨rfl, rfl⟩
    go_wp2_with fail
    go_ret2
    exact HF.out
  obtain ⟨K, rfl⟩ : ∃ K : Nat, k = K := ⟨k.toNat, by omega⟩
  go_wp2_with fail
  refine (isIndex_yes K n _ hk.1 hk.2).mono ?_
  rintro e w2 ⟨rfl, rfl⟩
  go_wp2_with fail
  clear e0 e1
  refine (clone_any X nx cx l _ HLX.out hnx (HX.out.below B1.out).2.2.1).mono ?_
  rintro e w3 ⟨v, rfl, ho, hb⟩
  rw [HLX.out] at ho
  have X2 := Lib.hid (X1.out.below hb X1.out.lt)
  have B2 := Lib.hid (B1.out.trans (hb.mono B1.out.size))
  obtain ⟨V, cV, rfl⟩ := own_slice ho
  have hw12 := B1.out.size
  obtain ⟨g, rfl⟩ : ∃ g, V = some ⟨g, 0, none⟩ := by
    rcases ho.2 with ⟨hv, h0⟩ | ⟨g, cap, cur, hv, _⟩
    · exfalso
      have := HN2.out
      omega
    · cases hv; exact ⟨g, rfl⟩
  have hgl := (ho.lt g rfl).1
  have hgw : w.heap.size < g := Nat.lt_of_lt_of_le X1.out.lt hgl
  have O2 := Lib.hid (own_base ho hw12)
  clear ho hb
  obtain ⟨p, hp⟩ : ∃ p, p = 2 * K := ⟨_, rfl⟩
  have hmul : 2 * (K : Int) = (p : Int) := by omega
  have hp1 : p + 1 < nx := by have := HN2.out; omega
  have hp2 : (p : Int) + 1 < (nx : Int) := by omega
  have hp3 : (p : Int) < (nx : Int) := by omega
  have hp4 : (0 : Int) ≤ (p : Int) := by omega
  have hp5 : p < l.length := by rw [HLX.out]; omega
  have hp6 : p + 1 < l.length := by rw [HLX.out]; omega
  obtain ⟨u, hu⟩ : ∃ u, l[p]? = some u := ⟨_, List.getElem?_eq_getElem hp5⟩
  obtain ⟨v, hv⟩ : ∃ v, l[p + 1]? = some v := ⟨_, List.getElem?_eq_getElem hp6⟩
  obtain ⟨s1, hs1⟩ : ∃ s, IntKind.i64.wrap (u + x) = s := ⟨_, rfl⟩
  obtain ⟨s2, hs2⟩ : ∃ s, IntKind.i64.wrap (v + y) = s := ⟨_, rfl⟩
  have HPK : Hid (p = 2 * K) := hp
  have HP : Hid ((l.set p s1).set (p + 1) s2 = putl l K x y) := by
    unfold Hid putl
    rw [← hp, hu, hv, Option.getD_some, Option.getD_some, hs1, hs2]
  have hfr := O2.out.frozenAt p
  have hold : w3.cell? ⟨g, p, none⟩ = some (.int .i64 u) := by
    have h1 := O2.out.cellAt p (by omega)
    rw [List.getElem?_map, hu] at h1
    exact h1
  obtain ⟨W4, hW4⟩ : ∃ W, W = w3.setCell ⟨g, p, none⟩ (.int .i64 s1) := ⟨_, rfl⟩
  have hgp : (⟨g, 0, none⟩ : Addr) = ⟨g, 0, none⟩ := rfl
  have O4 : Hid (W4.ownsRow w.heap.size 3 1 (.slice (some ⟨g, 0, none⟩) nx cV) nx ((l.set p s1).map (.int .i64))) := by
    rw [hW4, List.map_set]
    exact (O2.out.stored p (.int .i64 s1)).1
  have B4 : Hid (Below w.heap.size w W4) := by rw [hW4]; exact B2.out.setCell (by dsimp only; omega) _
  have X4 : Hid (Box W4 w.heap.size 26 #[.slice A n c, .slice B m d]) := by rw [hW4]; exact X2.out.far (p := ⟨g, p, none⟩) (by dsimp only; omega) _
  clear hgp hu hp
  have hk0 : (0 : Int) ≤ (K : Int) := by omega
  have hk1 : (K : Int) < (n : Int) := by omega
  clear hk
  go_upto_region 5 with fail
  rw [← hW4]
  clear hW4 hfr hold hs1
  have hfr := O4.out.frozenAt (p + 1)
  have hold : W4.cell? ⟨g, p + 1, none⟩ = some (.int .i64 v) := by
    have h1 := O4.out.cellAt (p + 1) (by omega)
    rw [List.getElem?_map, List.getElem?_set_ne (by omega), hv] at h1
    exact h1
  obtain ⟨W5, hW5⟩ : ∃ W, W = W4.setCell ⟨g, p + 1, none⟩ (.int .i64 s2) := ⟨_, rfl⟩
  have O5 : Hid (W5.ownsRow w.heap.size 3 1 (.slice (some ⟨g, 0, none⟩) nx cV) nx ((putl l K x y).map (.int .i64))) := by
    rw [hW5, ← HP.out, List.map_set]
    exact (O4.out.stored (p + 1) (.int .i64 s2)).1
  have B5 : Hid (Below w.heap.size w W5) := by rw [hW5]; exact B4.out.setCell (by dsimp only; omega) _
  have X5 : Hid (Box W5 w.heap.size 26 #[.slice A n c, .slice B m d]) := by rw [hW5]; exact X4.out.far (p := ⟨g, p + 1, none⟩) (by dsimp only; omega) _
  have I5 : Hid (InI W5 (some ⟨g, 0, none⟩) nx (putl l K x y)) := ⟨by rw [putl_length, HLX.out], hnx, Reads.of_own O5.out, putl_fits HOK.out.2.2⟩
  clear hv
  go_upto_region 6 with fail
  rw [← hW5]
  clear hW5 hfr hold hs2
  have e0 := X5.out.cell 0
  have e1 := X5.out.cell 1
  simp at e0 e1
  have hlp : (putl l K x y).length = nx := by rw [putl_length, HLX.out]
  have HLP := Lib.hid hlp
  have HKK : Hid (0 ≤ (K : Int) ∧ (K : Int) < js.length) := by have := HLN.out; unfold Hid; omega
  clear hlp hp5 hp6
  go_wp2_with fail
  clear e0 e1
  refine (impl_checkedLoad A n c js B m d ms (some ⟨g, 0, none⟩) nx cV (putl l K x y) _ (HI.out.below B5.out) I5.out).mono ?_
  rintro e w6 ⟨⟨h1, rfl⟩ | ⟨h1, rfl⟩, hb⟩
  · have HF : Hid (LdEnd (PutLoadIs js ms l K x y) w w6 (.returned (.tuple #[.slice (some ⟨g, 0, none⟩) nx cV, .bool true]))) := ⟨putl l K x y, _, true, rfl, .inl ⟨⟨HOK.out, HKK.out, (by first | exact h1 | exact HQ3.out.1 rfl)⟩, rfl, rfl⟩, ⟨by rw [HLP.out]; omega, by rw [HLP.out]; exact own_below O5.out hb⟩, B5.out.trans (hb.mono B5.out.size)⟩
    clear h1 hb
    go_wp2_with fail
    go_ret2
    exact HF.out
  · have HF : Hid (LdEnd (PutLoadIs js ms l K x y) w w6 (.returned (.tuple #[.slice none 0 0, .bool false]))) := ldEnd_none (Q := PutLoadIs js ms l _ x y) (.inr ⟨fun q => h1 q.2.2, rfl, rfl⟩) (B5.out.trans (hb.mono B5.out.size))
    clear h1 hb
    go_wp2_with fail
    go_ret2
    exact HF.out
theorem impl_putLoad (A : Option Addr) (n c : Nat) (js : List JD) (B : Option Addr) (m d : Nat) (ms : List MD) (X : Option Addr) (nx cx : Nat) (l : List Int) (k x y : Int) (w : World) (h : InT w A n js B m ms) (hl : InI w X nx l) (_hk : -9223372036854775808 ≤ k ∧ k ≤ 9223372036854775807) (hx : -9223372036854775808 ≤ x ∧ x ≤ 9223372036854775807) (hy : -9223372036854775808 ≤ y ∧ y ≤ 9223372036854775807) :
    Calls Try.prog 17 #[.agg #[.slice A n c, .slice B m d], .slice X nx cx, .int .i64 k, .int .i64 x, .int .i64 y] w fun e w' => ∃ r v b, e = .returned (.tuple #[v, .bool b]) ∧ PutLoadIs js ms l k x y r b ∧ ResI w w' v r ∧ Below w.heap.size w w' := impl_putLoad0 A n c js B m d ms X nx cx l k x y w h hl hx hy
set_option maxHeartbeats 6400000 in
theorem spec_putLoad0 (A : Option Addr) (n c : Nat) (js : List JD) (B : Option Addr) (m d : Nat) (ms : List MD) (X : Option Addr) (nx cx : Nat) (l : List Int) (k x y : Int) (w : World) (h : InT w A n js B m ms) (hl : InI w X nx l) (hxb : -9223372036854775808 ≤ x ∧ x ≤ 9223372036854775807) (hyb : -9223372036854775808 ≤ y ∧ y ≤ 9223372036854775807) :
    Calls Try.prog 30 #[.agg #[.slice A n c, .slice B m d], .slice X nx cx, .int .i64 k, .int .i64 x, .int .i64 y] w fun e w' => LdEnd (PutLoadIs js ms l k x y) w w' e := by
  obtain ⟨i0, hi, hz0, hz1, hz2⟩ := info_parts Try.infoI
  obtain ⟨W1, hW⟩ : ∃ W, W = w.alloc (.cells #[.slice A n c, .slice B m d] 26) := ⟨_, rfl⟩
  have X0 : Hid (Box W1 w.heap.size 26 #[.slice A n c, .slice B m d]) := by rw [hW]; exact Box.new _ _ _
  have B0 : Hid (Below w.heap.size w W1) := by rw [hW]; exact (Below.refl _ _).alloc (Nat.le_refl _) _
  have HLN : Hid (js.length = n) := h.1.1
  have HI := Lib.hid h
  have HLX : Hid (l.length = nx) := hl.1
  have hnx := hl.2.1
  have HX := Lib.hid hl
  clear h hl
  go_enter Try.func30, Try.ntmps30
  go_wp2_with fail
  rw [← hW]
  clear hW
  refine (spec_loadOk0 A n c js B m d ms X nx cx l _ (HI.out.below B0.out) (HX.out.below B0.out)).mono ?_
  rintro e w1 ⟨b, rfl, hq, hb⟩
  have X1 := Lib.hid (X0.out.below hb X0.out.lt)
  have B1 := Lib.hid (B0.out.trans (hb.mono B0.out.size))
  have HQ := Lib.hid hq
  clear hq hb
  cases b
  case false =>
    have HF : Hid (LdEnd (PutLoadIs js ms l k x y) w w1 (.returned (.tuple #[.slice none 0 0, .bool false]))) := ldEnd_none (Q := PutLoadIs js ms l _ x y) (.inr ⟨fun q => (by have := HQ.out.2 q.1; cases this), rfl, rfl⟩) B1.out
    go_wp2_with fail
    go_ret2
    exact HF.out
  have HOK : Hid (LdOk js ms l) := HQ.out.1 rfl
  have hn6 : n ≤ 6 := by have := HOK.out.1.six; have := HLN.out; omega
  have hnx2 : nx = 2 * n := by have h1 := HOK.out.2.1; rw [HLN.out, HLX.out] at h1; exact h1
  have HN2 := Lib.hid hnx2
  have HXB := Lib.hid hxb
  have HYB := Lib.hid hyb
  clear hnx2
  have e0 := X1.out.cell 0
  have e1 := X1.out.cell 1
  simp at e0 e1
  by_cases hk : 0 ≤ k ∧ k ≤ (n : Int) - 1
  case neg =>
    have HNK := Lib.hid hk
    have HF : Hid (LdEnd (PutLoadIs js ms l k x y) w w1 (.returned (.tuple #[.slice none 0 0, .bool false]))) := ldEnd_none (Q := PutLoadIs js ms l _ x y) (.inr ⟨fun q => HNK.out ⟨q.2.1.1, by have := q.2.1.2; rw [HLN.out] at this; omega⟩, rfl, rfl⟩) B1.out
    clear hk hxb hyb
    go_wp2_with fail
    refine (l01In_no k 0 ((n : Int) - 1) _ HNK.out).mono ?_
    rintro e w2 ⟨rfl, rfl⟩
    go_wp2_with fail
    go_ret2
    exact HF.out
  obtain ⟨K, rfl⟩ : ∃ K : Nat, k = K := ⟨k.toNat, by omega⟩
  have hKn : K < js.length := by have := HLN.out; omega
  have HKN := Lib.hid hKn
  clear hKn
  go_wp2_with fail
  refine (l01In_yes K 0 ((n : Int) - 1) _ hk.1 hk.2).mono ?_
  rintro e w2 ⟨rfl, rfl⟩
  by_cases hx : -200 ≤ x ∧ x ≤ 200
  case neg =>
    have HNX := Lib.hid hx
    have HF : Hid (LdEnd (PutLoadIs js ms l K x y) w w2 (.returned (.tuple #[.slice none 0 0, .bool false]))) := ldEnd_none (Q := PutLoadIs js ms l _ x y) (.inr ⟨fun q => HNX.out (put_far HXB.out HYB.out HOK.out HKN.out q.2.2).1, rfl, rfl⟩) B1.out
    clear hx hxb hyb
    go_wp2_with fail
    refine (l01In_no x (-200) 200 _ HNX.out).mono ?_
    rintro e w3 ⟨rfl, rfl⟩
    go_wp2_with fail
    go_ret2
    exact HF.out
  go_wp2_with fail
  refine (l01In_yes x (-200) 200 _ hx.1 hx.2).mono ?_
  rintro e w3 ⟨rfl, rfl⟩
  by_cases hy : -200 ≤ y ∧ y ≤ 200
  case neg =>
    have HNX := Lib.hid hy
    have HF : Hid (LdEnd (PutLoadIs js ms l K x y) w w3 (.returned (.tuple #[.slice none 0 0, .bool false]))) := ldEnd_none (Q := PutLoadIs js ms l _ x y) (.inr ⟨fun q => HNX.out (put_far HXB.out HYB.out HOK.out HKN.out q.2.2).2, rfl, rfl⟩) B1.out
    clear hy hxb hyb
    go_wp2_with fail
    refine (l01In_no y (-200) 200 _ HNX.out).mono ?_
    rintro e w4 ⟨rfl, rfl⟩
    go_wp2_with fail
    go_ret2
    exact HF.out
  obtain ⟨w2, hw2⟩ : ∃ q, q = w3 := ⟨_, rfl⟩
  subst hw2
  have HRD : Hid (Reads (w2.alloc (.cells #[] 3)) X (l.map (.int .i64))) := (HX.out.below (B1.out.alloc B1.out.size _)).2.2.1
  have hlen : (l.map (Value.int .i64)).length = nx := by rw [List.length_map, HLX.out]
  have HLEN := Lib.hid hlen
  have hbs : w2.heap.size ≤ (w2.alloc (.cells #[] 3)).heap.size := by simp
  clear hlen
  go_wp2_with fail
  refine (l01In_yes y (-200) 200 _ hy.1 hy.2).mono ?_
  rintro e w4 ⟨rfl, rfl⟩
  clear e0 e1
  go_wp2_with (at_builtin; refine wpList_append_reads rfl _ _ 27 rfl w4.heap.size 3 i0 (.int .i64 0) 8 Try.underlying27 hi hz0 hz1 hz2 rfl _ _ _ rfl (World.ownsRow_lit w4 #[] 0 (Nat.le_refl _) (by simp) (by simp)) X nx cx (l.map (.int .i64)) rfl HLEN.out HRD.out (by simp [Value.oneCell']) (by unfold maxLen; omega) (by omega) hbs ?_)
  intro v w3 ho hg
  have hb : Below w4.heap.size w4 w3 := ((Below.refl w4.heap.size w4).alloc (Nat.le_refl _) _).grown hg (by simp) (fun k hk => by simp [Value.ownBlock] at hk; omega)
  obtain ⟨w2, hw2⟩ : ∃ q, q = w4 := ⟨_, rfl⟩
  subst hw2
  have X2 := Lib.hid (X1.out.below hb X1.out.lt)
  have B2 := Lib.hid (B1.out.trans (hb.mono B1.out.size))
  clear hg
  obtain ⟨V, cV, rfl⟩ := own_slice ho
  have hw12 := B1.out.size
  obtain ⟨g, rfl⟩ : ∃ g, V = some ⟨g, 0, none⟩ := by
    rcases ho.2 with ⟨hv, h0⟩ | ⟨g, cap, cur, hv, _⟩
    · exfalso
      have := HN2.out
      omega
    · cases hv; exact ⟨g, rfl⟩
  have hgl := (ho.lt g rfl).1
  have hgw : w.heap.size < g := Nat.lt_of_lt_of_le X1.out.lt hgl
  have O2 := Lib.hid (own_base ho hw12)
  clear ho hb
  obtain ⟨p, hp⟩ : ∃ p, p = 2 * K := ⟨_, rfl⟩
  have hmul : 2 * (K : Int) = (p : Int) := by omega
  have hp1 : p + 1 < nx := by have := HN2.out; omega
  have hp2 : (p : Int) + 1 < (nx : Int) := by omega
  have hp3 : (p : Int) < (nx : Int) := by omega
  have hp4 : (0 : Int) ≤ (p : Int) := by omega
  have hp5 : p < l.length := by rw [HLX.out]; omega
  have hp6 : p + 1 < l.length := by rw [HLX.out]; omega
  obtain ⟨u, hu⟩ : ∃ u, l[p]? = some u := ⟨_, List.getElem?_eq_getElem hp5⟩
  obtain ⟨v, hv⟩ : ∃ v, l[p + 1]? = some v := ⟨_, List.getElem?_eq_getElem hp6⟩
  obtain ⟨s1, hs1⟩ : ∃ s, IntKind.i64.wrap (u + x) = s := ⟨_, rfl⟩
  obtain ⟨s2, hs2⟩ : ∃ s, IntKind.i64.wrap (v + y) = s := ⟨_, rfl⟩
  have HPK : Hid (p = 2 * K) := hp
  have HP : Hid ((l.set p s1).set (p + 1) s2 = putl l K x y) := by
    unfold Hid putl
    rw [← hp, hu, hv, Option.getD_some, Option.getD_some, hs1, hs2]
  have hfr := O2.out.frozenAt p
  have hold : w3.cell? ⟨g, p, none⟩ = some (.int .i64 u) := by
    have h1 := O2.out.cellAt p (by omega)
    rw [List.getElem?_map, hu] at h1
    exact h1
  obtain ⟨W4, hW4⟩ : ∃ W, W = w3.setCell ⟨g, p, none⟩ (.int .i64 s1) := ⟨_, rfl⟩
  have hgp : (⟨g, 0, none⟩ : Addr) = ⟨g, 0, none⟩ := rfl
  have O4 : Hid (W4.ownsRow w.heap.size 3 1 (.slice (some ⟨g, 0, none⟩) nx cV) nx ((l.set p s1).map (.int .i64))) := by
    rw [hW4, List.map_set]
    exact (O2.out.stored p (.int .i64 s1)).1
  have B4 : Hid (Below w.heap.size w W4) := by rw [hW4]; exact B2.out.setCell (by dsimp only; omega) _
  have X4 : Hid (Box W4 w.heap.size 26 #[.slice A n c, .slice B m d]) := by rw [hW4]; exact X2.out.far (p := ⟨g, p, none⟩) (by dsimp only; omega) _
  clear hgp hu hp
  have hk0 : (0 : Int) ≤ (K : Int) := by omega
  have hk1 : (K : Int) < (n : Int) := by omega
  clear hk
  go_upto_region 5 with fail
  rw [← hW4]
  clear hW4 hfr hold hs1
  have hfr := O4.out.frozenAt (p + 1)
  have hold : W4.cell? ⟨g, p + 1, none⟩ = some (.int .i64 v) := by
    have h1 := O4.out.cellAt (p + 1) (by omega)
    rw [List.getElem?_map, List.getElem?_set_ne (by omega), hv] at h1
    exact h1
  obtain ⟨W5, hW5⟩ : ∃ W, W = W4.setCell ⟨g, p + 1, none⟩ (.int .i64 s2) := ⟨_, rfl⟩
  have O5 : Hid (W5.ownsRow w.heap.size 3 1 (.slice (some ⟨g, 0, none⟩) nx cV) nx ((putl l K x y).map (.int .i64))) := by
    rw [hW5, ← HP.out, List.map_set]
    exact (O4.out.stored (p + 1) (.int .i64 s2)).1
  have B5 : Hid (Below w.heap.size w W5) := by rw [hW5]; exact B4.out.setCell (by dsimp only; omega) _
  have X5 : Hid (Box W5 w.heap.size 26 #[.slice A n c, .slice B m d]) := by rw [hW5]; exact X4.out.far (p := ⟨g, p + 1, none⟩) (by dsimp only; omega) _
  have I5 : Hid (InI W5 (some ⟨g, 0, none⟩) nx (putl l K x y)) := ⟨by rw [putl_length, HLX.out], hnx, Reads.of_own O5.out, putl_fits HOK.out.2.2⟩
  clear hv
  go_upto_region 6 with fail
  rw [← hW5]
  clear hW5 hfr hold hs2
  have e0 := X5.out.cell 0
  have e1 := X5.out.cell 1
  simp at e0 e1
  have hlp : (putl l K x y).length = nx := by rw [putl_length, HLX.out]
  have HLP := Lib.hid hlp
  have HKK : Hid (0 ≤ (K : Int) ∧ (K : Int) < js.length) := by have := HLN.out; unfold Hid; omega
  clear hlp hp5 hp6
  go_wp2_with fail
  clear e0 e1
  refine (spec_loadOk0 A n c js B m d ms (some ⟨g, 0, none⟩) nx cV (putl l K x y) _ (HI.out.below B5.out) I5.out).mono ?_
  rintro e w6 ⟨b, rfl, hq, hb⟩
  have HQ3 := Lib.hid hq
  clear hq
  cases b
  case false =>
    have HF : Hid (LdEnd (PutLoadIs js ms l K x y) w w6 (.returned (.tuple #[.slice none 0 0, .bool false]))) := ldEnd_none (Q := PutLoadIs js ms l _ x y) (.inr ⟨fun q => (by have := HQ3.out.2 q.2.2; cases this), rfl, rfl⟩) (B5.out.trans (hb.mono B5.out.size))
    clear hb
    go_wp2_with fail
    go_ret2
    exact HF.out
  have HF : Hid (LdEnd (PutLoadIs js ms l K x y) w w6 (.returned (.tuple #[.slice (some ⟨g, 0, none⟩) nx cV, .bool true]))) := ⟨putl l K x y, _, true, rfl, .inl ⟨⟨HOK.out, HKK.out, (by first | exact h1 | exact HQ3.out.1 rfl)⟩, rfl, rfl⟩, ⟨by rw [HLP.out]; omega, by rw [HLP.out]; exact own_below O5.out hb⟩, B5.out.trans (hb.mono B5.out.size)⟩
  clear hb
  go_wp2_with fail
  go_ret2
  exact HF.out
theorem spec_putLoad (A : Option Addr) (n c : Nat) (js : List JD) (B : Option Addr) (m d : Nat) (ms : List MD) (X : Option Addr) (nx cx : Nat) (l : List Int) (k x y : Int) (w : World) (h : InT w A n js B m ms) (hl : InI w X nx l) (_hk : -9223372036854775808 ≤ k ∧ k ≤ 9223372036854775807) (hx : -9223372036854775808 ≤ x ∧ x ≤ 9223372036854775807) (hy : -9223372036854775808 ≤ y ∧ y ≤ 9223372036854775807) :
    Calls Try.prog 30 #[.agg #[.slice A n c, .slice B m d], .slice X nx cx, .int .i64 k, .int .i64 x, .int .i64 y] w fun e w' => ∃ r v b, e = .returned (.tuple #[v, .bool b]) ∧ PutLoadIs js ms l k x y r b ∧ ResI w w' v r ∧ Below w.heap.size w w' := spec_putLoad0 A n c js B m d ms X nx cx l k x y w h hl hx hy
end Go.Proofs.Ytipmeijfmiiedaa
