/- The map of the names of joints, by the program: firstByName. -/
import Derived.Test.YtipmeijfmiiedaaStN
import Derived.Test.YtipmeijfmiiedaaRange
import Derived.RangeFuncLeaves
import Derived.RangeFuncCalls
import Derived.RangeFuncNested
import Derived.WalkKit
import Derived.TacticsInMore
import Derived.LoopIn
import Derived.Maps.OwnIn
import Derived.StringKeys
import Derived.Shelf.Abstract
namespace Go.Proofs.Ytipmeijfmiiedaa
set_option maxRecDepth 100000
open Go.RowKit
open Go.Maps (Keyed)
attribute [local go_sem] Oper.semAt_some

theorem size_putObjN {W : World} (l : Nat) (o : Obj) : (W.putObj l o).heap.size = W.heap.size := by simp [World.putObj]
theorem below_putObjN {w W : World} {B l : Nat} (h : Below B w W) (hB : B ≤ l) (o : Obj) : Below B w (W.putObj l o) :=
  ⟨h.os, h.tape, h.output, by rw [size_putObjN]; exact h.size, fun k hk => (World.putObj_heap_other (by omega)).trans (h.block k hk)⟩
theorem keepsN_below {B : Nat} {W W' : World} (hb : Below W.heap.size W W') : KeepsFrom B W W' := ⟨hb.size, fun k _ _ hk _ => (hb.block k (Array.getElem?_eq_some_iff.1 hk).1).trans hk⟩
theorem staysN_below {B : Nat} {Bk : World → Prop} {W W' : World} (hs : Stays B Bk) (h : Bk W) (hb : Below W.heap.size W W') : Bk W' := hs _ _ h (keepsN_below hb)
theorem strKeyed : Keyed Try.prog 9 := Maps.string_keyed Try.underlying9
/-- The memory of the loop: joints from i on have been laid into the map. -/
structure NJ (js : List JD) (i : Nat) (w : World) (hs : Nat) (A : Option Addr) (n c bs gm M : Nat) (W : World) : Prop where
  bel : Below w.heap.size w W
  siz : hs ≤ W.heap.size
  sbx : Box W bs 23 #[.slice A n c]
  mbx : Box W gm 111 #[.map (some M)]
  map : ∃ D : DataW Unit, W.ownsMap Try.prog 9 (plainElem Try.prog 3) M (n - i) D ∧ MapAt D js i
/-- Where the blocks lie. -/
structure NK (w : World) (hs bs gm M : Nat) : Prop where
  b0 : w.heap.size ≤ bs
  g0 : w.heap.size ≤ gm
  m0 : w.heap.size ≤ M
  b1 : bs < hs
  g1 : gm < hs
  m1 : M < hs
  bm : bs ≠ M
  gm' : gm ≠ M
section
variable {js : List JD} {i hs : Nat} {w W W' : World} {A : Option Addr} {n c bs gm M : Nat}
theorem NJ.below (h : NJ js i w hs A n c bs gm M W) (hb : Below W.heap.size W W') : NJ js i w hs A n c bs gm M W' := by
  obtain ⟨D, h1, h2⟩ := h.map
  exact ⟨h.bel.trans (hb.mono h.bel.size), Nat.le_trans h.siz hb.size, h.sbx.below hb h.sbx.lt, h.mbx.below hb h.mbx.lt, D, h1.kept (grownBy_of_below hb none) (by simp), h2⟩
theorem NJ.putObj (h : NJ js i w hs A n c bs gm M W) (hk : NK w hs bs gm M) {l : Nat} (hl : hs ≤ l) (o : Obj) : NJ js i w hs A n c bs gm M (W.putObj l o) := by
  obtain ⟨D, ⟨es, clock, h1, h3⟩, h2⟩ := h.map
  have := hk.b0; have := hk.b1; have := hk.g1; have := hk.m1
  exact ⟨below_putObjN h.bel (by omega) o, by rw [size_putObjN]; exact h.siz, (World.putObj_heap_other (by omega)).trans h.sbx, (World.putObj_heap_other (by omega)).trans h.mbx, D, ⟨es, clock, (World.putObj_heap_other (by omega)).trans h1, h3⟩, h2⟩
end
def encN (x : Nat × JD) : Array Value := #[.int .i64 x.1, .agg #[.string x.2.name, .int .i64 x.2.x, .int .i64 x.2.y, .bool x.2.fixed]]
set_option maxHeartbeats 1600000 in
theorem impl_backward (A : Option Addr) (n c : Nat) (w : World) :
    Calls Try.prog 92 #[.slice A n c] w fun e w' => ∃ mb, e = .returned (.func (.func 95) #[] #[.pointer (some ⟨mb, 0, none⟩)]) ∧ w.heap.size ≤ mb ∧ mb < w'.heap.size ∧ Box w' mb 23 #[.slice A n c] ∧ Below w.heap.size w w' := by
  go_enter Try.func92, Try.ntmps92
  go_wp2_with fail
  go_ret
  exact ⟨w.heap.size, rfl, Nat.le_refl _, by simp, Box.new _ _ _, (Below.refl _ _).alloc (Nat.le_refl _) _⟩
set_option maxHeartbeats 3200000 in
theorem impl_backIt (js : List JD) (A : Option Addr) (n c : Nat) (w : World) (hs bs gm M : Nat) (h : InJ w A n js) :
    SeqJ Fence.wide 3 Try.prog 95 #[.pointer (some ⟨bs, 0, none⟩)] encN hs (NJ js n w hs A n c bs gm M) (fun x W => x.1 < n ∧ js[x.1]? = some x.2 ∧ NJ js (x.1 + 1) w hs A n c bs gm M W) (fun x W => x.1 < n ∧ NJ js x.1 w hs A n c bs gm M W) (fun _ _ => False) (NJ js 0 w hs A n c bs gm M) (fun _ => False) := by
  intro l W Bk Bx hBk hBx hY hJ0 hb0
  have hm := h.2.1
  have HV := Lib.hid h
  have HBK := Lib.hid hBk
  have HYL := Lib.hid hY
  have PJ0 := Lib.hid hJ0
  have PB0 := Lib.hid hb0
  clear h hBk hBx hY hJ0 hb0
  refine callsIn_wide.2 ?_
  show Calls _ _ #[.func (.yield l) #[] #[], .pointer (some ⟨bs, 0, none⟩)] W _
  have q0 := PJ0.out.sbx.cell 0
  simp at q0
  go_enter Try.func95, Try.ntmps95
  go_wp2_with fail
  clear q0
  go_loopw [3] (fun z wq => ∃ (i : Nat) (z0 : Int), i ≤ n ∧ z = .int .i64 z0 ∧ z0 = (i : Int) - 1 ∧ Hid (NJ js i w hs A n c bs gm M wq) ∧ Hid (Bk wq)) (fun z _ => (intOf z + 1).toNat)
  case atStart => exact ⟨n, (n : Int) - 1, Nat.le_refl _, by first | rfl | go_num, rfl, PJ0, PB0⟩
  case round =>
    obtain ⟨i, z0, hle, rfl, hz, HJ, HB⟩ := hrel
    by_cases hlt : 0 < i
    · obtain ⟨k, rfl⟩ : ∃ k, i = k + 1 := ⟨i - 1, by omega⟩
      obtain rfl : z0 = (k : Int) := by omega
      clear hz
      obtain ⟨b, o, rfl, hbs, ⟨s, x, y, f⟩, hr, ⟨e0, e1, e2, e3⟩, _⟩ := (HV.out.below HJ.out.bel).at_ k (by omega)
      simp only at e0 e1 e2 e3
      have hk0 : (0 : Int) ≤ (k : Int) := by omega
      have hk1 : (k : Int) < (n : Int) := by omega
      obtain ⟨fn9, tm9, as9, bo9, hy9, hR9⟩ := HYL.out (k, ⟨s, x, y, f⟩) wr ⟨by omega, hr, HJ.out⟩ HB.out
      have HR9 := Lib.hid hR9
      have HY9 := Lib.hid hy9
      have q0 := HJ.out.sbx.cell 0
      simp at q0
      clear hR9 hy9 hr
      go_upto_region 3 with fail
      have hy := HY9.out
      dsimp only [encN] at hy
      have hd1 : (1 : Nat) ≤ 3 := by omega
      refine (wpIn_wide (n := 3)).1 ?_
      gi_wp2
      refine HR9.out.mono ?_
      rintro e W10 (⟨rfl, hJn, hBk10⟩ | ⟨rfl, hJx, hBx10⟩)
      · have HJ10 := Lib.hid hJn.2
        have HB10 := Lib.hid hBk10
        clear hJn hBk10 q0 hy e0 e1 e2 e3
        gi_wp2
        go_wp2_with fail
        go_roundw
        case rel => exact ⟨k, (k : Int) - 1, by omega, by first | rfl | go_num, rfl, HJ10, HB10⟩
        case measure => simp [intOf]
      · exact hJx.elim
    · obtain rfl : i = 0 := by omega
      obtain rfl : z0 = -1 := by omega
      clear hz
      go_wp2_with fail
      go_end0
      exact ⟨⟨_, rfl⟩, .inl ⟨HJ.out, HB.out⟩⟩
set_option maxHeartbeats 6400000 in
theorem impl_firstByName (js : List JD) (A : Option Addr) (n c : Nat) (w : World) (h : InJ w A n js) :
    Calls Try.prog 87 #[.slice A n c] w fun e w' => ∃ (M : Nat) (D : DataW Unit), e = .returned (.map (some M)) ∧ w.heap.size ≤ M ∧ w'.ownsMap Try.prog 9 (plainElem Try.prog 3) M n D ∧ MapAt D js 0 ∧ Below w.heap.size w w' := by
  have hm := h.2.1
  have HV := Lib.hid h
  have HLN : Hid (js.length = n) := h.1
  clear h
  refine callsIn_wide.1 (callsIn_of_wp_marks (n := 4) Try.func87 rfl trivial ?_)
  simp only [Try.ntmps87, List.size_toArray, List.length_cons, List.length_nil, Nat.reduceAdd, Nat.reduceSub, Array.replicate_succ, Array.replicate_zero, List.push_toArray, List.append_toArray, List.nil_append, List.cons_append]
  refine wpIn_wide.2 ?_
  have hmk := run_makeMap (P := Try.prog) 111 w
  go_wp2_with fail
  clear hmk
  obtain ⟨W1, hW1⟩ : ∃ W, W = (w.alloc (.map #[] 0)).alloc (.cells #[.map (some w.heap.size)] 111) := ⟨_, rfl⟩
  have hb1 : Below w.heap.size w W1 := by rw [hW1]; exact ((Below.refl _ _).alloc (Nat.le_refl _) _).alloc (by simp) _
  have x1 : Hid (Box W1 (w.heap.size + 1) 111 #[.map (some w.heap.size)]) := by rw [hW1]; exact Box.at' (by simp)
  have o1 : Hid (W1.ownsMap (H := Unit) Try.prog 9 (plainElem Try.prog 3) w.heap.size 0 (.map [])) := by rw [hW1]; exact (World.ownsMap_made w _ _ _).alloc _
  have hz1 : W1.heap.size = w.heap.size + 1 + 1 := by rw [hW1]; simp
  have HB1 := Lib.hid hb1
  rw [← hW1]
  clear hW1 hb1
  refine (impl_backward A n c _).mono ?_
  rintro e W2 ⟨bs, rfl, hbs0, hbs1, hbx, hb⟩
  obtain ⟨gm, hgm⟩ : ∃ g, g = w.heap.size + 1 := ⟨_, rfl⟩
  obtain ⟨M, hM⟩ : ∃ M, M = w.heap.size := ⟨_, rfl⟩
  have hz2 : W1.heap.size ≤ W2.heap.size := hb.size
  have HN0 : Hid (NJ js n w W2.heap.size A n c bs gm M W2) := ⟨HB1.out.trans (hb.mono HB1.out.size), Nat.le_refl _, hbx, by rw [hgm, hM]; exact x1.out.below hb x1.out.lt, .map [], by rw [hM, Nat.sub_self]; exact o1.out.kept (grownBy_of_below hb none) (by simp), by have := MapAt.start js; rwa [HLN.out] at this⟩
  have HK : Hid (NK w W2.heap.size bs gm M) := ⟨by omega, by omega, by omega, by omega, by omega, by omega, by omega, by omega⟩
  have hWM : w.heap.size ≤ M := by omega
  rw [← hgm]
  clear hb hbx o1 x1 hgm hM HB1 hbs0 hbs1
  go_wp2_with fail
  refine (wpIn_wide (n := 4)).1 ?_
  refine wpIn_rangeFunc_joint (F := Fence.wide) (n := 4) rfl (by omega) (gf := 95) (lb := #[.pointer (some ⟨bs, 0, none⟩)]) rfl trivial (enters_of Try.func95 (by kernel_rfl) rfl)
    (impl_backIt js A n c w W2.heap.size bs gm M HV.out) (fun _ => rfl) (fun o o' => HN0.out.below (((Below.refl W2.heap.size W2).alloc (Nat.le_refl _) o).alloc (by simp) o'))
    (fun x a' W => ∃ nb, W2.heap.size ≤ nb ∧ a' = { tmps := #[.slice A n c, undef, .map none, .pointer (some ⟨gm, 0, none⟩), .int .i64 x.1, .pointer (some ⟨nb, 0, none⟩), .map (some w.heap.size), .slice A n c, .func (.func 95) #[] #[.pointer (some ⟨bs, 0, none⟩)], .int .i64 x.1, .agg #[.string x.2.name, .int .i64 x.2.x, .int .i64 x.2.y, .bool x.2.fixed], undef, undef, undef, undef, undef], defers := [] } ∧ Box W nb 79 #[.string x.2.name, .int .i64 x.2.x, .int .i64 x.2.y, .bool x.2.fixed] ∧ x.1 < n ∧ js[x.1]? = some x.2 ∧ NJ js (x.1 + 1) w W2.heap.size A n c bs gm M W)
    ?assign ?body ?done ?stop
  case assign =>
    intro l x W K hl hr hJ hKK
    obtain ⟨i, s, x, y, f⟩ := x
    obtain ⟨hiN, hj, hF⟩ := hJ
    dsimp only at hiN hj hF
    have HF := Lib.hid hF
    have HJJ := Lib.hid hj
    have HKQ := Lib.hid hKK
    have HR := Lib.hid hr
    clear hF hj hKK hr
    dsimp only [encN]
    gi_wp2
    have hlW : l < W.heap.size := by obtain ⟨r, hr⟩ := HR.out; exact (Array.getElem?_eq_some_iff.1 hr).1
    have hbx := Box.new W 79 #[.string s, .int .i64 x, .int .i64 y, .bool f]
    refine HKQ.out _ _ ((KeepsOthers.alloc _ _).from _) fun o => ⟨W.heap.size, HF.out.siz, rfl, ?_, hiN, HJJ.out, ?_⟩
    · exact (World.putObj_heap_other (by omega)).trans hbx
    · exact (HF.out.below ((Below.refl _ _).alloc (Nat.le_refl _) _)).putObj HK.out hl o
  case body =>
    rintro l x a' W hl hr ⟨nb, hnb, rfl, hbx, hiN, hj, hF⟩
    obtain ⟨i, s, x, y, f⟩ := x
    dsimp only at hbx hiN hj hF
    obtain ⟨D, hown, hmap⟩ := hF.map
    have HF := Lib.hid hF
    have HJJ := Lib.hid hj
    have HMP := Lib.hid hmap
    have HBX := Lib.hid hbx
    have hss : s.size ≤ maxLen := by have := (HV.out.2.2.2 _ (List.mem_of_getElem? hj)).1; simp only at this; unfold maxLen; omega
    have hkey : keyOf Try.prog 9 (.string s) = some (keyT s) := WideMaps.keyOf_string_mk Try.underlying9 hss
    have hval : plainElem (H := Unit) Try.prog 3 (.int .i64 (i : Int)) = some (.lit (.int .i64 i), []) := plainElem_int Try.underlying3 (by simp [Lit.wf, IntKind.min, IntKind.max, IntKind.signed, IntKind.bits]; omega)
    have e0 := hbx.cell 0
    have e1 := hF.mbx.cell 0
    simp at e0 e1
    have h12 : (1 : Nat) ≤ 4 - 1 - 1 := by omega
    clear hF hj hbx hmap
    dsimp only
    gi_wp2_with (first | (gi_at_mapUpdate; refine wpListIn_mapUpdate_own _ rfl _ _ _ 111 rfl 9 3 strKeyed Try.underlying111 _ M (n - (i + 1)) D rfl hown (by unfold maxLen; omega) _ _ (keyT s) rfl rfl hkey _ [] hval ?_; intro w5 hown5 hg5) | gi_in)
    have hkp : KeepsFrom W2.heap.size W w5 := ⟨hg5.size, fun k o hk h1 _ => (hg5.block k (Array.getElem?_eq_some_iff.1 h1).1 (fun e => by have := HK.out.m1; have := Option.some.inj e; omega)).trans h1⟩
    have hn1 : n - (i + 1) + 1 = n - i := by omega
    rw [hn1] at hown5
    have hJ5 : NJ js i w W2.heap.size A n c bs gm M w5 := ⟨HF.out.bel.grown hg5 HF.out.bel.size (fun k hk => by have := HK.out.m0; have := Option.some.inj hk; omega), Nat.le_trans HF.out.siz hg5.size, (hg5.block _ HF.out.sbx.lt (fun e => HK.out.bm (Option.some.inj e))).trans HF.out.sbx, (hg5.block _ HF.out.mbx.lt (fun e => HK.out.gm' (Option.some.inj e))).trans HF.out.mbx, _, hown5, HMP.out.step HJJ.out⟩
    exact (show KeepsFrom W2.heap.size W w5 ∧ ∀ o, i < n ∧ NJ js i w W2.heap.size A n c bs gm M (World.putObj w5 l o) from ⟨hkp, fun o => ⟨hiN, hJ5.putObj HK.out hl o⟩⟩)
  case done =>
    intro W o hD hr hK
    obtain ⟨X, hX⟩ : ∃ X, X = W.putObj (W2.heap.size + 1) o := ⟨_, rfl⟩
    have HFX : Hid (NJ js 0 w W2.heap.size A n c bs gm M X) := by rw [hX]; exact hD.putObj HK.out (by omega) o
    have HKX : Hid (X.heap[W2.heap.size]? = some (.deferred (some []))) := by rw [hX]; exact (World.putObj_heap_other (by omega)).trans hK
    dsimp only
    rw [← hX]
    clear hX hD hr hK
    have e0 := HFX.out.mbx.cell 0
    simp at e0
    go_wp2_with fail
    refine ⟨by simp, .inl ⟨_, _, rfl, run_takeDeferred HKX.out, ?_⟩⟩
    obtain ⟨Y, hY⟩ : ∃ Y, Y = X.putObj W2.heap.size (.deferred none) := ⟨_, rfl⟩
    have HFY : Hid (NJ js 0 w W2.heap.size A n c bs gm M Y) := by rw [hY]; exact HFX.out.putObj HK.out (Nat.le_refl _) _
    rw [← hY]
    clear hY
    obtain ⟨D, h1, h2⟩ := HFY.out.map
    rw [Nat.sub_zero] at h1
    refine ⟨.map (some M), (by simp [results, Try.results87, go_sem]), ?_⟩
    exact ⟨M, D, rfl, HK.out.m0, h1, h2, HFY.out.bel⟩
  case stop =>
    intro W o hS hr hK
    exact hS.elim
end Go.Proofs.Ytipmeijfmiiedaa
