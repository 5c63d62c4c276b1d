/- WithoutMembers, by the program. -/
import Derived.Test.YtcmbfgaojlnjcaaStW2
namespace Go.Proofs.Ytcmbfgaojlnjcaa
set_option maxRecDepth 100000
open Go.RowKit

def rmTo (xs : List Int) (m k : Nat) : List Bool := (List.range m).map fun i => decide (((i : Nat) : Int) ∈ xs.take k)
theorem rmTo_length (xs : List Int) (m k : Nat) : (rmTo xs m k).length = m := by simp [rmTo]
theorem rmTo_zero (xs : List Int) (m : Nat) : rmTo xs m 0 = List.replicate m false := by
  unfold rmTo
  apply List.ext_getElem
  · simp
  · intro i h1 h2; simp
theorem rmTo_at {xs : List Int} {m k i : Nat} (h : i < m) : (rmTo xs m k)[i]? = some (decide (((i : Nat) : Int) ∈ xs.take k)) := by
  unfold rmTo; simp [h]
theorem take_more {xs : List Int} {k : Nat} {z : Int} (hz : xs[k]? = some z) (y : Int) : y ∈ xs.take (k + 1) ↔ y ∈ xs.take k ∨ y = z := by
  obtain ⟨h1, h2⟩ := List.getElem?_eq_some_iff.1 hz
  rw [List.take_succ_eq_append_getElem h1, List.mem_append, h2, List.mem_singleton]
theorem rmTo_out {xs : List Int} {m k : Nat} {z : Int} (hz : xs[k]? = some z) (h : ¬ (0 ≤ z ∧ z < (m : Int))) : rmTo xs m (k + 1) = rmTo xs m k := by
  unfold rmTo
  apply List.map_congr_left
  intro i hi
  have hi' := List.mem_range.1 hi
  have h1 : ¬ ((i : Int) = z) := by omega
  simp only [take_more hz, h1, or_false]
theorem rmTo_in {xs : List Int} {m k q : Nat} (hz : xs[k]? = some (q : Int)) : rmTo xs m (k + 1) = (rmTo xs m k).set q true := by
  apply List.ext_getElem
  · simp [rmTo_length]
  · intro i h1 h2
    rw [List.getElem_set]
    simp only [rmTo, List.getElem_map, List.getElem_range, take_more hz]
    by_cases he : q = i
    · subst he; simp
    · have : ¬ ((i : Int) = (q : Int)) := by omega
      simp [he, this]
theorem made_falses (K : Nat) : (madeCells (Value.bool false).cells (K * 1)).toList = (List.replicate K false).map .bool := by
  apply List.ext_getElem
  · simp [madeCells, Value.cells]
  · intro i h1 h2
    simp [madeCells, Value.cells, Nat.mod_one]
theorem own_other {w : World} {b b' G n c s s' n' : Nat} {E E' : TypeId} {v : Value} {xs ys : List Value} (h : w.ownsRow b E s (.slice (some ⟨G, 0, none⟩) n c) n xs) (k : w.ownsRow b' E' s' v n' ys) (hne : E ≠ E') : (Value.slice (some ⟨G, 0, none⟩) n c).ownBlock = none ∨ (Value.slice (some ⟨G, 0, none⟩) n c).ownBlock ≠ v.ownBlock := by
  refine .inr fun he => ?_
  rcases h.2 with ⟨h', _⟩ | ⟨g1, cap, cur, h', _, hg, _⟩
  · cases h'
  rcases k.2 with ⟨rfl, _⟩ | ⟨g2, cap2, cur2, rfl, _, hg2, _⟩
  · cases he
  · cases h'
    cases he
    rw [hg] at hg2
    injection hg2 with hg2
    injection hg2 with _ ht
    exact hne ht
theorem Try.infoBw : (Try.prog.info? 4).map (fun i => (i.zero, i.size, i.bytes)) = some (some (.bool false), 1, 1) := by kernel_rfl
set_option maxHeartbeats 6400000 in
theorem impl_withoutMembers0 (A : Option Addr) (n c : Nat) (js : List JD) (B : Option Addr) (m d : Nat) (ms : List MD) (X : Option Addr) (nx cx : Nat) (xs : List Int) (w : World) (h : InT w A n js B m ms) (hx : InI w X nx xs) :
    Calls Try.prog 48 #[.agg #[.slice A n c, .slice B m d], .slice X nx cx] w fun e w' => WithoutEnd js ms xs w w' e := by
  obtain ⟨i0, hi, hz0, hz1, hz2⟩ := info_parts Try.infoBw
  obtain ⟨j0, hj, hy0, hy1, hy2⟩ := info_parts Try.infoM
  have hn := h.1.2.1
  have hm := h.2.2.1
  have hnx := hx.2.1
  have HLN : Hid (js.length = n) := h.1.1
  have HLM : Hid (ms.length = m) := h.2.1
  have HLX : Hid (xs.length = nx) := hx.1
  have HJF : Hid (∀ j ∈ js, JFit j) := h.1.2.2.2
  have HMF : Hid (∀ j ∈ ms, MFit j) := h.2.2.2.2
  obtain ⟨W0, hW⟩ : ∃ W, W = (w.alloc (.cells #[.slice A n c, .slice B m d] 48)).alloc (.cells #[.slice none 0 0, .slice none 0 0] 48) := ⟨_, rfl⟩
  have X0 : Hid (Box W0 w.heap.size 48 #[.slice A n c, .slice B m d]) := by rw [hW]; exact (Box.new _ _ _).alloc _
  have R0 : Hid (Box W0 (w.heap.size + 1) 48 #[.slice none 0 0, .slice none 0 0]) := by rw [hW]; exact Box.at' (by simp)
  have B0 : Hid (Below w.heap.size w W0) := by rw [hW]; exact ((Below.refl _ _).alloc (Nat.le_refl _) _).alloc (by simp) _
  have hs0 : w.heap.size + 1 + 1 = W0.heap.size := by rw [hW]; simp
  have HJ := Lib.hid h.1
  have HM := Lib.hid h.2
  have HX := Lib.hid hx
  clear h hx
  go_enter Try.func48, Try.ntmps48
  go_wp2_with (rw [← hW]; refine wpList_make_full _ rfl _ _ 94 rfl w.heap.size 4 i0 (.bool false) 1 Try.underlying94 hi hz0 hz1 _ _ _ _ m rfl rfl rfl rfl ?c1 ?c2 ?c3 ?_)
  case c1 => rw [hz2]; omega
  case c2 => unfold maxLen; omega
  case c3 => omega
  intro w1 ho hg
  clear hW
  rw [made_falses m, ← rmTo_zero xs m] at ho
  obtain ⟨G, hG⟩ : ∃ G, G = W0.heap.size := ⟨_, rfl⟩
  rw [← hG] at ho hs0 ⊢
  have O1 : Hid (w1.ownsRow w.heap.size 4 1 (.slice (some ⟨G, 0, none⟩) m m) m ((rmTo xs m 0).map .bool)) := ho
  have X1 := Lib.hid (X0.out.grown hg (by simp))
  have R1 := Lib.hid (R0.out.grown hg (by simp))
  have B1 : Hid (Below w.heap.size w w1) := B0.out.grown hg (by omega) (fun k hk => by cases hk)
  clear ho hg hG X0 R0 B0
  go_wp2_with fail
  go_loopw [17] (fun y wr => ∃ k : Nat, k ≤ nx ∧ y = .int .i64 k ∧ Hid (wr.ownsRow w.heap.size 4 1 (.slice (some ⟨G, 0, none⟩) m m) m ((rmTo xs m k).map .bool)) ∧ Hid (Box wr w.heap.size 48 #[.slice A n c, .slice B m d]) ∧ Hid (Box wr (w.heap.size + 1) 48 #[.slice none 0 0, .slice none 0 0]) ∧ Hid (Below w.heap.size w wr)) (fun y _ => nx - (intOf y).toNat)
  case atStart => exact ⟨0, Nat.zero_le _, rfl, O1, X1, R1, B1⟩
  case round =>
    obtain ⟨k, hk, rfl, HO, HP, HR, HB⟩ := hrel
    by_cases hlt : k < nx
    · obtain ⟨b2, o2, z, rfl, hz, hcell, hb2⟩ := inI_get (HX.out.below HB.out) hlt
      have hk0 : (0 : Int) ≤ (k : Int) := by omega
      have hk1 : (k : Int) < (nx : Int) := by omega
      have HZ := Lib.hid hz
      clear hz
      obtain ⟨wv, hwv⟩ : ∃ v, v = wr := ⟨_, rfl⟩
      by_cases hr : 0 ≤ z ∧ z < (m : Int)
      case neg =>
        have HN := Lib.hid (rmTo_out HZ.out hr)
        have HC := Lib.hid (fun W => isIndex_no z m W hr)
        clear hr
        go_wp2_with fail
        refine (HC.out _).mono ?_
        rintro e w2 ⟨rfl, hw2⟩
        obtain rfl : wr = w2 := hw2.symm
        go_wp2_with fail
        go_roundw
        case rel => exact ⟨k + 1, by omega, by go_num, by rw [HN.out]; exact HO, HP, HR, HB⟩
        case measure => simp [intOf]; omega
      obtain ⟨q, rfl⟩ := Int.eq_ofNat_of_zero_le hr.1
      have hq0 : (0 : Int) ≤ (q : Int) := by omega
      have hq1 : (q : Int) < (m : Int) := hr.2
      have hqm : q < m := by omega
      clear hr
      go_wp2_with fail
      refine (isIndex_yes q m _ hq0 hq1).mono ?_
      rintro e w2 ⟨rfl, hw2⟩
      obtain rfl : wr = w2 := hw2.symm
      have hfr := HO.out.frozenAt q
      have hcl := HO.out.cellAt q (by omega)
      rw [List.getElem?_eq_getElem (by simp [rmTo_length]; omega)] at hcl
      obtain ⟨old, hold⟩ : ∃ old, wr.cell? ⟨G, q, none⟩ = some old := ⟨_, hcl⟩
      have hst := HO.out.stored q (.bool true)
      have HO3 : Hid ((wr.setCell ⟨G, q, none⟩ (.bool true)).ownsRow w.heap.size 4 1 (.slice (some ⟨G, 0, none⟩) m m) m ((rmTo xs m (k + 1)).map .bool)) := by
        rw [rmTo_in HZ.out, List.map_set]; exact hst.1
      have HP3 := Lib.hid (HP.out.far (p := ⟨G, q, none⟩) (by dsimp only; omega) (.bool true))
      have HR3 := Lib.hid (HR.out.far (p := ⟨G, q, none⟩) (by dsimp only; omega) (.bool true))
      have HB3 : Hid (Below w.heap.size w (wr.setCell ⟨G, q, none⟩ (.bool true))) := HB.out.setCell (by dsimp only; omega) _
      clear hst hcl
      go_wp2_with fail
      go_roundw
      case rel => exact ⟨k + 1, by omega, by go_num, HO3, HP3, HR3, HB3⟩
      case measure => simp [intOf]; omega
    · obtain rfl : k = nx := by omega
      have e0 := HP.out.cell 0
      simp at e0
      go_wp2_with fail
      clear e0
      refine (clone_joints A n c js _ (HJ.out.below HB.out)).mono ?_
      rintro e w2 ⟨v, rfl, ho, hb⟩
      obtain ⟨A1, c1, rfl⟩ := own_slice ho
      have OJ := Lib.hid (own_base ho HB.out.size)
      have O2 := Lib.hid (own_below HO.out hb)
      have X2 := Lib.hid (HP.out.below hb HP.out.lt)
      have R2 := Lib.hid (HR.out.below hb HR.out.lt)
      have B2 := Lib.hid (HB.out.trans (hb.mono HB.out.size))
      have hs2 := B2.out.size
      have hrlt := R2.out.lt
      clear ho hb
      obtain ⟨g, hgd⟩ : ∃ g, g = w2.heap.size := ⟨_, rfl⟩
      obtain ⟨W3, hW3⟩ : ∃ W, W = w2.alloc (.cells #[.slice A1 n c1, .slice none 0 0] 48) := ⟨_, rfl⟩
      have T3 : Hid (RB w.heap.size W3 g A1 n c1 js none 0 0 (keepTo ms xs 0)) := by
        rw [hW3, hgd]
        exact ⟨Box.new _ _ _, OJ.out.alloc _, World.ownsRow_nil _ _ _ _, fun k hk => by cases hk⟩
      have O3 : Hid (W3.ownsRow w.heap.size 4 1 (.slice (some ⟨G, 0, none⟩) m m) m ((rmTo xs m k).map .bool)) := by rw [hW3]; exact O2.out.alloc _
      have X3 : Hid (Box W3 w.heap.size 48 #[.slice A n c, .slice B m d]) := by rw [hW3]; exact X2.out.alloc _
      have R3 : Hid (Box W3 (w.heap.size + 1) 48 #[.slice none 0 0, .slice none 0 0]) := by rw [hW3]; exact R2.out.alloc _
      have B3 : Hid (Below w.heap.size w W3) := by rw [hW3]; exact B2.out.alloc hs2 _
      have hgr : w.heap.size + 1 < g := by rw [hgd]; exact hrlt
      go_upto_region 9 with fail
      rw [← hW3, ← hgd]
      clear hW3 hgd OJ O2 X2 R2 B2 HO HP HR HB
      have e1 := X3.out.cell 1
      simp at e1
      go_wp2_with fail
      clear e1
      go_loopw [36] (fun y wr => ∃ (k1 N : Nat) (B1 : Option Addr) (d1 : Nat), k1 ≤ m ∧ N ≤ k1 ∧ y = .int .i64 k1 ∧ Hid (RB w.heap.size wr g A1 n c1 js B1 N d1 (keepTo ms xs k1)) ∧ Hid (Box wr (w.heap.size + 1) 48 #[.slice none 0 0, .slice none 0 0]) ∧ Hid (wr.ownsRow w.heap.size 4 1 (.slice (some ⟨G, 0, none⟩) m m) m ((rmTo xs m k).map .bool)) ∧ Hid (Below w.heap.size w wr)) (fun y _ => m - (intOf y).toNat)
      case atStart => exact ⟨0, 0, _, _, Nat.zero_le _, Nat.le_refl _, rfl, T3, R3, O3, B3⟩
      case round =>
        obtain ⟨k1, N, B1, d1, hk2, hNk, rfl, HT, HR, HO, HB⟩ := hrel
        by_cases hlt : k1 < m
        · obtain ⟨b1, o1, rfl, hb1, ⟨x, y, z⟩, hx, ⟨e0, e1, e2⟩, _⟩ := (HM.out.below HB.out).at_ k1 hlt
          simp only at e0 e1 e2
          have hk0 : (0 : Int) ≤ (k1 : Int) := by omega
          have hk1 : (k1 : Int) < (m : Int) := by omega
          have HMX := Lib.hid hx
          obtain ⟨wa, hwa⟩ : ∃ W, W = wr.alloc (.cells #[.int .i64 x, .int .i64 y, .int .i64 z] 79) := ⟨_, rfl⟩
          obtain ⟨ga, hga⟩ : ∃ g, g = wr.heap.size := ⟨_, rfl⟩
          have hba : Below wr.heap.size wr wa := by rw [hwa]; exact (Below.refl _ _).alloc (Nat.le_refl _) _
          have XA : Hid (Box wa ga 79 #[.int .i64 x, .int .i64 y, .int .i64 z]) := by rw [hwa, hga]; exact Box.new _ _ _
          have HTA := Lib.hid (HT.out.below hba)
          have HRA := Lib.hid (HR.out.below hba HR.out.lt)
          have HOA := Lib.hid (own_below HO.out hba)
          have HBA := Lib.hid (HB.out.trans (hba.mono HB.out.size))
          clear hx hba HT HR HO HB
          go_upto_region 12 with fail
          rw [← hwa, ← hga]
          clear hwa hga e0 e1 e2
          obtain ⟨b, hcb, hq⟩ : ∃ b, wa.cell? ⟨G, k1, none⟩ = some (.bool b) ∧ (b = true ↔ ((k1 : Nat) : Int) ∈ xs) := by
            refine ⟨_, (HOA.out.cellAt k1 (by omega)).trans (by rw [List.getElem?_map, rmTo_at hlt]; rfl), ?_⟩
            rw [decide_eq_true_iff, List.take_of_length_le (by rw [HLX.out]; exact Nat.le_refl _)]
          have HQ := Lib.hid hq
          clear hq
          cases b
          case true =>
            have HKN : Hid (keepTo ms xs (k1 + 1) = keepTo ms xs k1) := keepTo_no (HQ.out.1 rfl)
            go_wp2_with fail
            go_roundw
            case rel => exact ⟨k1 + 1, N, B1, d1, by omega, by omega, by go_num, by rw [HKN.out]; exact HTA, HRA, HOA, HBA⟩
            case measure => simp [intOf]; omega
          case false =>
            have HKN : Hid (keepTo ms xs (k1 + 1) = keepTo ms xs k1 ++ [⟨x, y, z⟩]) := keepTo_yes (fun q => by have := HQ.out.2 q; cases this) HMX.out
            have HBS := Lib.hid HBA.out.size
            obtain ⟨wb, hwb⟩ : ∃ W, W = wa.alloc (.cells #[.int .i64 x, .int .i64 y, .int .i64 z] 79) := ⟨_, rfl⟩
            have hbb : Below wa.heap.size wa wb := by rw [hwb]; exact (Below.refl _ _).alloc (Nat.le_refl _) _
            have HOB := Lib.hid (own_below HOA.out hbb)
            have HTB := Lib.hid (HTA.out.below hbb)
            have HRB := Lib.hid (HRA.out.below hbb HRA.out.lt)
            have HBB := Lib.hid (HBA.out.trans (hbb.mono HBA.out.size))
            have hgs : g < wa.heap.size := HTA.out.box.lt
            have hra := HRA.out.lt
            have hal := XA.out.lt
            have a0 := XA.out.cell 0
            have a1 := XA.out.cell 1
            have a2 := XA.out.cell 2
            have q1 := HTA.out.box.cell 1
            simp at a0 a1 a2 q1
            clear hbb
            go_wp2_with (at_builtin; refine wpList_append_own_at _ rfl _ _ 46 rfl w.heap.size 79 j0 (.agg #[.int .i64 0, .int .i64 0, .int .i64 0]) 3 24 Try.underlying46 hj hy0 hy1 hy2 rfl (by decide) _ _ _ rfl (HTA.out.own.2.1.alloc _) ⟨wa.heap.size, 0, none⟩ 1 1 [.int .i64 x, .int .i64 y, .int .i64 z] rfl rfl ?c1 ?c2 ?c3 ?c4 ?c5 ?_)
            case c1 => exact cell_new3 _ _ _ _ _
            case c2 => intro u hu; simp at hu; rcases hu with rfl | rfl | rfl <;> rfl
            case c3 => unfold maxLen; omega
            case c4 => omega
            case c5 => simp; omega
            intro v' w5 hown hg hnil hat
            obtain ⟨B6, d6, rfl⟩ := own_slice hown
            have hwbs : wb.heap.size = wa.heap.size + 1 := by rw [hwb]; simp
            rw [← hwb] at hg
            rw [← hwbs] at hat
            have hown2 : w5.ownsRow w.heap.size 79 3 (.slice B6 (N + 1) d6) (N + 1) (mcells (keepTo ms xs (k1 + 1))) := by rw [HKN.out, mcells_snoc]; exact hown
            have H5 : Hid (Box w5 g 48 #[.slice A1 n c1, .slice B1 N d1]) := HTB.out.box.grown hg (ne_own HTB.out.box HTB.out.own.2.1 (by decide))
            have HT5 : Hid (RB w.heap.size (w5.setCell ⟨g, 1, none⟩ (.slice B6 (N + 1) d6)) g A1 n c1 js B6 (N + 1) d6 (keepTo ms xs (k1 + 1))) := HTB.out.setB hown2 hg hat
            have HR5 : Hid (Box (w5.setCell ⟨g, 1, none⟩ (.slice B6 (N + 1) d6)) (w.heap.size + 1) 48 #[.slice none 0 0, .slice none 0 0]) := (HRB.out.grown hg (ne_own HRB.out HTB.out.own.2.1 (by decide))).far (by dsimp only; omega) _
            have HB5 : Hid (Below w.heap.size w (w5.setCell ⟨g, 1, none⟩ (.slice B6 (N + 1) d6))) := (HBB.out.grown hg HBB.out.size (fun k hk => (HTB.out.own.2.1.lt k hk).1)).setCell (by dsimp only; omega) _
            have HO5 : Hid ((w5.setCell ⟨g, 1, none⟩ (.slice B6 (N + 1) d6)).ownsRow w.heap.size 4 1 (.slice (some ⟨G, 0, none⟩) m m) m ((rmTo xs m k).map .bool)) := own_box (HOB.out.kept hg (own_other HOB.out HTB.out.own.2.1 (by decide))) H5.out 1 _ (by decide)
            have f1 := H5.out.free 1
            have p1 := H5.out.cell 1
            simp at p1
            clear hown hown2 hg hnil hat hwb
            go_wp2_with fail
            go_roundw
            case rel => exact ⟨k1 + 1, N + 1, B6, d6, by omega, by omega, by go_num, HT5, HR5, HO5, HB5⟩
            case measure => simp [intOf]; omega
        · obtain rfl : k1 = m := by omega
          have hkl := HLM.out
          have HF : Hid (WithoutEnd js ms xs w ((wr.setCell ⟨w.heap.size + 1, 0, none⟩ (.slice A1 n c1)).setCell ⟨w.heap.size + 1, 1, none⟩ (.slice B1 N d1)) (.returned (.agg #[.slice A1 n c1, .slice B1 N d1]))) := by
            have hN : (keepTo ms xs k1).length = N := by have := HT.out.own.2.1.1; rw [mcells_length] at this; omega
            refine ⟨js, _, keepTo ms xs k1, _, rfl, ⟨rfl, by rw [hkl]⟩, ⟨?_, ?_, HT.out.own.2.2, by have := HLN.out; omega, by omega, HJF.out, fun q hq => HMF.out q (keepTo_mem hq)⟩, below_store2 HB.out (by omega) _ _⟩
            · rw [HLN.out]; exact own_store2 HT.out.own.1 HR.out (by decide) _ _
            · rw [hN]; exact own_store2 HT.out.own.2.1 HR.out (by decide) _ _
          have f0 := HR.out.free 0
          have f1 := HR.out.free 1
          have q0 := HR.out.cell 0
          have q1 := HR.out.cell 1
          have p0 := HT.out.box.cell 0
          have p1 := HT.out.box.cell 1
          simp at q0 q1 p0 p1
          go_wp2_with fail
          refine bodyPost_ret (v := .agg #[.slice A1 n c1, .slice B1 N d1]) (by simp [results, Try.results48, q0, q1, go_sem]) rfl ?_
          exact HF.out
theorem spec_withoutMembers (A : Option Addr) (n c : Nat) (js : List JD) (B : Option Addr) (m d : Nat) (ms : List MD) (X : Option Addr) (nx cx : Nat) (xs : List Int) (w : World) (h : InT w A n js B m ms) (hx : InI w X nx xs) :
    Calls Try.prog 46 #[.agg #[.slice A n c, .slice B m d], .slice X nx cx] w fun e w' => ∃ js' v ms' u, e = .returned (.agg #[v, u]) ∧ WithoutMembersIs js ms xs js' ms' ∧ ResTS w w' v js' u ms' ∧ Below w.heap.size w w' := spec_withoutMembers0 A n c js B m d ms X nx cx xs w h hx
theorem impl_withoutMembers (A : Option Addr) (n c : Nat) (js : List JD) (B : Option Addr) (m d : Nat) (ms : List MD) (X : Option Addr) (nx cx : Nat) (xs : List Int) (w : World) (h : InT w A n js B m ms) (hx : InI w X nx xs) :
    Calls Try.prog 48 #[.agg #[.slice A n c, .slice B m d], .slice X nx cx] w fun e w' => ∃ js' v ms' u, e = .returned (.agg #[v, u]) ∧ WithoutMembersIs js ms xs js' ms' ∧ ResTS w w' v js' u ms' ∧ Below w.heap.size w w' := impl_withoutMembers0 A n c js B m d ms X nx cx xs w h hx
end Go.Proofs.Ytcmbfgaojlnjcaa
