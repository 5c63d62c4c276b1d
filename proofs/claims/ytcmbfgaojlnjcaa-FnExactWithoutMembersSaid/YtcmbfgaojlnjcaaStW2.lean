/- WithoutMembers, by the program and by the model. -/
import Derived.Test.YtcmbfgaojlnjcaaStW
import Derived.Maps.AppendAt
namespace Go.Proofs.Ytcmbfgaojlnjcaa
set_option maxRecDepth 100000
open Go.RowKit

/-- A variable that holds a structure whose lists are of the call's own. -/
structure RB (base : Nat) (w : World) (g : Nat) (A : Option Addr) (n c : Nat) (js : List JD) (B : Option Addr) (m d : Nat) (ms : List MD) : Prop where
  box : Box w g 48 #[.slice A n c, .slice B m d]
  own : OwnT w base A n c js B m d ms
section
variable {w w' w1 : World} {base g : Nat} {A B B' : Option Addr} {n c m d m' d' : Nat} {js : List JD} {ms ms' : List MD}
theorem RB.below (h : RB base w g A n c js B m d ms) (hb : Below w.heap.size w w') : RB base w' g A n c js B m d ms := ⟨h.box.below hb h.box.lt, h.own.dep fun k hk => hb.block k (h.own.lt k hk).2⟩
theorem RB.setB (h : RB base w g A n c js B m d ms) (ho : w1.ownsRow base 79 3 (.slice B' m' d') m' (mcells ms')) (hg : w.grownBy w1 (Value.slice B m d).ownBlock) (hat : (Value.slice B' m' d').ownBlock = (Value.slice B m d).ownBlock ∨ (Value.slice B' m' d').ownBlock = some w.heap.size) :
    RB base (w1.setCell ⟨g, 1, none⟩ (.slice B' m' d')) g A n c js B' m' d' ms' := by
  have hb : Box w1 g 48 _ := h.box.grown hg (ne_own h.box h.own.2.1 (by decide))
  have hj : w1.ownsRow base 36 4 (.slice A n c) n (jcells js) := h.own.1.kept hg (apart_of (Apart.symm h.own.2.2))
  refine ⟨by simpa using hb.set_ 1 (.slice B' m' d'), own_box hj hb 1 _ (by decide), own_box ho hb 1 _ (by decide), fun k hk hk' => ?_⟩
  rcases hat with e | e
  · exact h.own.2.2 k (e ▸ hk) hk'
  · have := (h.own.1.lt k hk').2
    rw [e] at hk
    have := Option.some.inj hk
    omega
end
theorem cell_new3 (w : World) (t : TypeId) (x y z : Value) : ∀ j u, [x, y, z][j]? = some u → (w.alloc (.cells #[x, y, z] t)).cell? ((⟨w.heap.size, 0, none⟩ : Addr).add j) = some u := fun j u h => by
  rw [Addr.add_lit, (Box.new w t #[x, y, z]).cell (0 + j), Nat.zero_add]
  simpa using h
theorem mcells_snoc (ms : List MD) (m : MD) : mcells (ms ++ [m]) = mcells ms ++ [.int .i64 m.a, .int .i64 m.b, .int .i64 m.k] := by
  simp [mcells, MD.cells]
set_option maxHeartbeats 6400000 in
theorem spec_withoutMembers0 (A : Option Addr) (n c : Nat) (js : List JD) (B : Option Addr) (m d : Nat) (ms : List MD) (X : Option Addr) (nx cx : Nat) (xs : List Int) (w : World) (h : InT w A n js B m ms) (hx : InI w X nx xs) :
    Calls Try.prog 46 #[.agg #[.slice A n c, .slice B m d], .slice X nx cx] w fun e w' => WithoutEnd js ms xs w w' e := by
  obtain ⟨i0, hi, hz0, hz1, hz2⟩ := info_parts Try.infoJ
  obtain ⟨j0, hj, hy0, hy1, hy2⟩ := info_parts Try.infoM
  have hn := h.1.2.1
  have hm := h.2.2.1
  have HLN : Hid (js.length = n) := h.1.1
  have HLM : Hid (ms.length = m) := h.2.1
  have HJF : Hid (∀ j ∈ js, JFit j) := h.1.2.2.2
  have HMF : Hid (∀ j ∈ ms, MFit j) := h.2.2.2.2
  obtain ⟨W1, hW⟩ : ∃ W, W = ((w.alloc (.cells #[.slice A n c, .slice B m d] 48)).alloc (.cells #[.slice none 0 0, .slice none 0 0] 48)).alloc (.cells #[] 36) := ⟨_, rfl⟩
  have X0 : Hid (Box W1 w.heap.size 48 #[.slice A n c, .slice B m d]) := by rw [hW]; exact ((Box.new _ _ _).alloc _).alloc _
  have R0 : Hid (Box W1 (w.heap.size + 1) 48 #[.slice none 0 0, .slice none 0 0]) := by rw [hW]; exact (Box.at' (by simp)).alloc _
  have B0 : Hid (Below w.heap.size w W1) := by rw [hW]; exact (((Below.refl _ _).alloc (Nat.le_refl _) _).alloc (by simp) _).alloc (by simp; omega) _
  have hs1 : w.heap.size + 1 + 1 + 1 = W1.heap.size := by rw [hW]; simp
  have O0 : Hid (W1.ownsRow w.heap.size 36 4 (.slice (some ⟨w.heap.size + 1 + 1, 0, none⟩) 0 0) 0 []) := by
    rw [hW]
    have h0 := World.ownsRow_lit ((w.alloc (.cells #[.slice A n c, .slice B m d] 48)).alloc (.cells #[.slice none 0 0, .slice none 0 0] 48)) (base := w.heap.size) (e := 36) (size := 4) #[] 0 (by simp; omega) (by simp) (by simp)
    refine Lib.hid ?_
    simpa using h0
  have HT1 := Lib.hid (h.below B0.out)
  have HX := Lib.hid hx
  have HM := Lib.hid h.2
  have hle1 : w.heap.size ≤ W1.heap.size := by omega
  clear h hx
  go_enter Try.func46, Try.ntmps46
  go_wp2_with (at_builtin; rw [← hW]; refine wpList_append_reads_sz rfl _ _ 45 rfl w.heap.size 36 i0 (.agg #[.string ByteArray.empty, .int .i64 0, .int .i64 0, .bool false]) 4 40 Try.underlying45 hi hz0 hz1 hz2 rfl (by decide) _ _ _ rfl O0.out A n c (jcells js) rfl (by rw [jcells_length, HLN.out]) HT1.out.1.2.2.1 (jcells_one js) (by unfold maxLen; omega) (by omega) hle1 ?_)
  intro v' w1 hown hg
  rw [← hW] at hg
  clear hW
  obtain ⟨A1, c1, rfl⟩ := own_slice hown
  have HO1 := Lib.hid hown
  have X1 := Lib.hid (X0.out.grown hg (by simp [Value.ownBlock]; omega))
  have R1 := Lib.hid (R0.out.grown hg (by simp [Value.ownBlock]))
  have B1 : Hid (Below w.heap.size w w1) := B0.out.grown hg hle1 (fun k hk => by have := Option.some.inj hk; simp at this; omega)
  have hs2 := B1.out.size
  have hrlt := R1.out.lt
  clear hown hg
  obtain ⟨g, hgd⟩ : ∃ g, g = w1.heap.size := ⟨_, rfl⟩
  obtain ⟨W2, hW2⟩ : ∃ W, W = w1.alloc (.cells #[.slice A1 n c1, .slice none 0 0] 48) := ⟨_, rfl⟩
  have T2 : Hid (RB w.heap.size W2 g A1 n c1 js none 0 0 (keepTo ms xs 0)) := by
    rw [hW2, hgd]
    exact ⟨Box.new _ _ _, HO1.out.alloc _, World.ownsRow_nil _ _ _ _, fun k hk => by cases hk⟩
  have X2 : Hid (Box W2 w.heap.size 48 #[.slice A n c, .slice B m d]) := by rw [hW2]; exact X1.out.alloc _
  have R2 : Hid (Box W2 (w.heap.size + 1) 48 #[.slice none 0 0, .slice none 0 0]) := by rw [hW2]; exact R1.out.alloc _
  have B2 : Hid (Below w.heap.size w W2) := by rw [hW2]; exact B1.out.alloc hs2 _
  have hgr : w.heap.size + 1 < g := by rw [hgd]; exact hrlt
  go_upto_region 2 with fail
  rw [← hW2, ← hgd]
  clear hW2 hgd HO1 X1 R1 B1 X0 R0 B0 O0
  have e1 := X2.out.cell 1
  simp at e1
  go_wp2_with fail
  clear e1
  go_loopw [16] (fun y wr => ∃ (k N : Nat) (B1 : Option Addr) (d1 : Nat), k ≤ m ∧ N ≤ k ∧ y = .int .i64 k ∧ Hid (RB w.heap.size wr g A1 n c1 js B1 N d1 (keepTo ms xs k)) ∧ Hid (Box wr (w.heap.size + 1) 48 #[.slice none 0 0, .slice none 0 0]) ∧ Hid (Below w.heap.size w wr)) (fun y _ => m - (intOf y).toNat)
  case atStart => exact ⟨0, 0, _, _, Nat.zero_le _, Nat.le_refl _, rfl, T2, R2, B2⟩
  case round =>
    obtain ⟨k, N, B1, d1, hk, hNk, rfl, HT, HR, HB⟩ := hrel
    by_cases hlt : k < m
    · obtain ⟨b1, o1, rfl, hb1, ⟨x, y, z⟩, hx, ⟨e0, e1, e2⟩, _⟩ := (HM.out.below HB.out).at_ k hlt
      simp only at e0 e1 e2
      have hk0 : (0 : Int) ≤ (k : Int) := by omega
      have hk1 : (k : Int) < (m : Int) := by omega
      have HMX := Lib.hid hx
      obtain ⟨wa, hwa⟩ : ∃ W, W = wr.alloc (.cells #[.int .i64 x, .int .i64 y, .int .i64 z] 79) := ⟨_, rfl⟩
      obtain ⟨ga, hga⟩ : ∃ g, g = wr.heap.size := ⟨_, rfl⟩
      have hba : Below wr.heap.size wr wa := by rw [hwa]; exact (Below.refl _ _).alloc (Nat.le_refl _) _
      have XA : Hid (Box wa ga 79 #[.int .i64 x, .int .i64 y, .int .i64 z]) := by rw [hwa, hga]; exact Box.new _ _ _
      have HTA := Lib.hid (HT.out.below hba)
      have HRA := Lib.hid (HR.out.below hba HR.out.lt)
      have HBA := Lib.hid (HB.out.trans (hba.mono HB.out.size))
      clear hx hba HT HR HB
      go_upto_region 5 with fail
      rw [← hwa, ← hga]
      clear hwa hga e0 e1 e2
      go_wp2_with fail
      refine (spec_l12Has X nx cx xs k _ (HX.out.below HBA.out)).mono ?_
      rintro e w2 ⟨⟨b, rfl, hq⟩, hw2⟩
      obtain rfl : wa = w2 := hw2.symm
      have HQ := Lib.hid hq
      clear hq
      cases b
      case true =>
        have HKN : Hid (keepTo ms xs (k + 1) = keepTo ms xs k) := keepTo_no (HQ.out.1 rfl)
        go_wp2_with fail
        go_roundw
        case rel => exact ⟨k + 1, N, B1, d1, by omega, by omega, by go_num, by rw [HKN.out]; exact HTA, HRA, HBA⟩
        case measure => simp [intOf]; omega
      case false =>
        have HKN : Hid (keepTo ms xs (k + 1) = keepTo ms xs k ++ [⟨x, y, z⟩]) := keepTo_yes (fun q => by have := HQ.out.2 q; cases this) HMX.out
        have HBS := Lib.hid HBA.out.size
        obtain ⟨wb, hwb⟩ : ∃ W, W = wa.alloc (.cells #[.int .i64 x, .int .i64 y, .int .i64 z] 79) := ⟨_, rfl⟩
        have hbb : Below wa.heap.size wa wb := by rw [hwb]; exact (Below.refl _ _).alloc (Nat.le_refl _) _
        have HTB := Lib.hid (HTA.out.below hbb)
        have HRB := Lib.hid (HRA.out.below hbb HRA.out.lt)
        have HBB := Lib.hid (HBA.out.trans (hbb.mono HBA.out.size))
        have hgs : g < wa.heap.size := HTA.out.box.lt
        have hra := HRA.out.lt
        have hal := XA.out.lt
        have a0 := XA.out.cell 0
        have a1 := XA.out.cell 1
        have a2 := XA.out.cell 2
        have q1 := HTA.out.box.cell 1
        simp at a0 a1 a2 q1
        clear hbb
        go_wp2_with (at_builtin; refine wpList_append_own_at _ rfl _ _ 46 rfl w.heap.size 79 j0 (.agg #[.int .i64 0, .int .i64 0, .int .i64 0]) 3 24 Try.underlying46 hj hy0 hy1 hy2 rfl (by decide) _ _ _ rfl (HTA.out.own.2.1.alloc _) ⟨wa.heap.size, 0, none⟩ 1 1 [.int .i64 x, .int .i64 y, .int .i64 z] rfl rfl ?c1 ?c2 ?c3 ?c4 ?c5 ?_)
        case c1 => exact cell_new3 _ _ _ _ _
        case c2 => intro u hu; simp at hu; rcases hu with rfl | rfl | rfl <;> rfl
        case c3 => unfold maxLen; omega
        case c4 => omega
        case c5 => simp; omega
        intro v' w5 hown hg hnil hat
        obtain ⟨B6, d6, rfl⟩ := own_slice hown
        have hwbs : wb.heap.size = wa.heap.size + 1 := by rw [hwb]; simp
        rw [← hwb] at hg
        rw [← hwbs] at hat
        have hown2 : w5.ownsRow w.heap.size 79 3 (.slice B6 (N + 1) d6) (N + 1) (mcells (keepTo ms xs (k + 1))) := by rw [HKN.out, mcells_snoc]; exact hown
        have H5 : Hid (Box w5 g 48 #[.slice A1 n c1, .slice B1 N d1]) := HTB.out.box.grown hg (ne_own HTB.out.box HTB.out.own.2.1 (by decide))
        have HT5 : Hid (RB w.heap.size (w5.setCell ⟨g, 1, none⟩ (.slice B6 (N + 1) d6)) g A1 n c1 js B6 (N + 1) d6 (keepTo ms xs (k + 1))) := HTB.out.setB hown2 hg hat
        have HR5 : Hid (Box (w5.setCell ⟨g, 1, none⟩ (.slice B6 (N + 1) d6)) (w.heap.size + 1) 48 #[.slice none 0 0, .slice none 0 0]) := (HRB.out.grown hg (ne_own HRB.out HTB.out.own.2.1 (by decide))).far (by dsimp only; omega) _
        have HB5 : Hid (Below w.heap.size w (w5.setCell ⟨g, 1, none⟩ (.slice B6 (N + 1) d6))) := (HBB.out.grown hg HBB.out.size (fun k hk => (HTB.out.own.2.1.lt k hk).1)).setCell (by dsimp only; omega) _
        have f1 := H5.out.free 1
        have p1 := H5.out.cell 1
        simp at p1
        clear hown hown2 hg hnil hat hwb
        go_wp2_with fail
        go_roundw
        case rel => exact ⟨k + 1, N + 1, B6, d6, by omega, by omega, by go_num, HT5, HR5, HB5⟩
        case measure => simp [intOf]; omega
    · obtain rfl : k = m := by omega
      have hkl := HLM.out
      have HF : Hid (WithoutEnd js ms xs w ((wr.setCell ⟨w.heap.size + 1, 0, none⟩ (.slice A1 n c1)).setCell ⟨w.heap.size + 1, 1, none⟩ (.slice B1 N d1)) (.returned (.agg #[.slice A1 n c1, .slice B1 N d1]))) := by
        have hN : (keepTo ms xs k).length = N := by have := HT.out.own.2.1.1; rw [mcells_length] at this; omega
        refine ⟨js, _, keepTo ms xs k, _, rfl, ⟨rfl, by rw [hkl]⟩, ⟨?_, ?_, HT.out.own.2.2, by have := HLN.out; omega, by omega, HJF.out, fun q hq => HMF.out q (keepTo_mem hq)⟩, below_store2 HB.out (by omega) _ _⟩
        · rw [HLN.out]; exact own_store2 HT.out.own.1 HR.out (by decide) _ _
        · rw [hN]; exact own_store2 HT.out.own.2.1 HR.out (by decide) _ _
      have f0 := HR.out.free 0
      have f1 := HR.out.free 1
      have q0 := HR.out.cell 0
      have q1 := HR.out.cell 1
      have p0 := HT.out.box.cell 0
      have p1 := HT.out.box.cell 1
      simp at q0 q1 p0 p1
      go_wp2_with fail
      refine bodyPost_ret (v := .agg #[.slice A1 n c1, .slice B1 N d1]) (by simp [results, Try.results46, q0, q1, go_sem]) rfl ?_
      exact HF.out
end Go.Proofs.Ytcmbfgaojlnjcaa
