/- The walk of the law: for all arguments the law FnExactRatMake returns true: the program's RatMake answers as the model's; no condition on them. -/
import Derived.Test.YtbfanjalinkmhaaRatLaw
import Derived.Test.YtbfanjalinkmhaaRatI
import Derived.ProofKit
import Derived.OpenShut
import Derived.ShutString
import Derived.Lib.SmallJoins
namespace Go.Proofs.Ytbfanjalinkmhaa.fnExactRatMake
set_option maxRecDepth 100000
open Go.ChangeShapes Go.WideShapes Go.ChangeAt Go.RowKit Go.Joins Go.Deep
open Go.ChangeMaps (open_string shut_string)

set_option maxRecDepth 100000 in
set_option maxHeartbeats 16000000 in
theorem walk {w : World} (a0g : Bool) (a0m : Option Addr) (len0m cap0m : Nat) (z0m : List Int) (hz0m : IsInts w a0m len0m z0m) (a1g : Bool) (a1m : Option Addr) (len1m cap1m : Nat) (z1m : List Int) (hz1m : IsInts w a1m len1m z1m) :
    Calls Try.prog 4 #[.agg #[.bool a0g, .slice a0m len0m cap0m], .agg #[.bool a1g, .slice a1m len1m cap1m]] w fun e w' => e = .returned (.bool true) ∧ Below w.heap.size w w' := by
  have hmz0m : len0m ≤ maxLen := hz0m.2.1
  have Hz0m := Lib.hid hz0m
  clear hz0m
  have hmz1m : len1m ≤ maxLen := hz1m.2.1
  have Hz1m := Lib.hid hz1m
  clear hz1m
  unfold maxLen at hmz0m hmz1m
  have BW0 : Hid (Below w.heap.size w w) := Below.refl _ _
  have BW1 := Lib.hid (BW0.out.alloc BW0.out.size (.cells #[.bool a0g, .slice a0m len0m cap0m] 24))
  have XaNum_1 := Lib.hid (by have := Box.new w 24 #[.bool a0g, .slice a0m len0m cap0m]; simpa using this : Box (w.alloc (.cells #[.bool a0g, .slice a0m len0m cap0m] 24)) (w.heap.size) 24 #[.bool a0g, .slice a0m len0m cap0m])
  have sz1 : w.heap.size ≤ (w.alloc (.cells #[.bool a0g, .slice a0m len0m cap0m] 24)).heap.size := (by simp)
  have BW2 := Lib.hid (BW1.out.alloc BW1.out.size (.cells #[.bool a1g, .slice a1m len1m cap1m] 24))
  have XaNum_2 := Lib.hid (XaNum_1.out.alloc (.cells #[.bool a1g, .slice a1m len1m cap1m] 24))
  have XaDen_2 := Lib.hid (by have := Box.new (w.alloc (.cells #[.bool a0g, .slice a0m len0m cap0m] 24)) 24 #[.bool a1g, .slice a1m len1m cap1m]; simpa using this : Box ((w.alloc (.cells #[.bool a0g, .slice a0m len0m cap0m] 24)).alloc (.cells #[.bool a1g, .slice a1m len1m cap1m] 24)) (w.heap.size + 1) 24 #[.bool a1g, .slice a1m len1m cap1m])
  have sz2 : (w.alloc (.cells #[.bool a0g, .slice a0m len0m cap0m] 24)).heap.size ≤ ((w.alloc (.cells #[.bool a0g, .slice a0m len0m cap0m] 24)).alloc (.cells #[.bool a1g, .slice a1m len1m cap1m] 24)).heap.size := (by simp)
  by_cases bigs0 : (1048576 : Int) - (len0m : Int) < 0
  · go_enter Try.func4, Try.ntmps4
    go_wp2_with fail
    refine (szBigInt_neg a0g a0m len0m cap0m ((1048576 : Int)) _ (by omega) (by omega) (by unfold maxLen; omega) (by omega)).mono ?_
    rintro e ws0 ⟨rfl, hb⟩
    have BW3 := Lib.hid (BW2.out.trans (hb.mono BW2.out.size))
    have sz3 : ((w.alloc (.cells #[.bool a0g, .slice a0m len0m cap0m] 24)).alloc (.cells #[.bool a1g, .slice a1m len1m cap1m] 24)).heap.size ≤ ws0.heap.size := hb.size
    have XaNum_3 := Lib.hid (XaNum_2.out.below hb XaNum_2.out.lt)
    have XaDen_3 := Lib.hid (XaDen_2.out.below hb XaDen_2.out.lt)
    clear hb
    go_wp2_with fail
    go_ret
    exact ⟨rfl, BW3.out⟩
  by_cases bigs1 : (1048576 : Int) - (len0m : Int) - (len1m : Int) < 0
  · go_enter Try.func4, Try.ntmps4
    go_wp2_with fail
    refine (szBigInt_pos a0g a0m len0m cap0m ((1048576 : Int)) _ (by omega) (by omega)  (by omega)).mono ?_
    rintro e ws0 ⟨rfl, hb⟩
    have BW3 := Lib.hid (BW2.out.trans (hb.mono BW2.out.size))
    have sz3 : ((w.alloc (.cells #[.bool a0g, .slice a0m len0m cap0m] 24)).alloc (.cells #[.bool a1g, .slice a1m len1m cap1m] 24)).heap.size ≤ ws0.heap.size := hb.size
    have XaNum_3 := Lib.hid (XaNum_2.out.below hb XaNum_2.out.lt)
    have XaDen_3 := Lib.hid (XaDen_2.out.below hb XaDen_2.out.lt)
    clear hb
    have eaDen0a : ws0.cell? ⟨w.heap.size + 1, 0, none⟩ = some (.bool a1g) := XaDen_3.out.cell 0
    have eaDen1a : ws0.cell? ⟨w.heap.size + 1, 1, none⟩ = some (.slice a1m len1m cap1m) := XaDen_3.out.cell 1
    go_wp2_with fail
    clear eaDen0a eaDen1a
    refine (szBigInt_neg a1g a1m len1m cap1m ((1048576 : Int) - (len0m : Int)) _ (by omega) (by omega) (by unfold maxLen; omega) (by omega)).mono ?_
    rintro e ws1 ⟨rfl, hb⟩
    have BW4 := Lib.hid (BW3.out.trans (hb.mono BW3.out.size))
    have sz4 : ws0.heap.size ≤ ws1.heap.size := hb.size
    have XaNum_4 := Lib.hid (XaNum_3.out.below hb XaNum_3.out.lt)
    have XaDen_4 := Lib.hid (XaDen_3.out.below hb XaDen_3.out.lt)
    clear hb
    go_wp2_with fail
    go_ret
    exact ⟨rfl, BW4.out⟩
  have Inz0m : Hid (InI w a0m len0m z0m) := ⟨Hz0m.out.1, by omega, Hz0m.out.2.2.1, Hz0m.out.2.2.2⟩
  have Inz1m : Hid (InI w a1m len1m z1m) := ⟨Hz1m.out.1, by omega, Hz1m.out.2.2.1, Hz1m.out.2.2.2⟩
  go_enter Try.func4, Try.ntmps4
  go_wp2_with fail
  refine (szBigInt_pos a0g a0m len0m cap0m ((1048576 : Int)) _ (by omega) (by omega)  (by omega)).mono ?_
  rintro e ws0 ⟨rfl, hb⟩
  have BW3 := Lib.hid (BW2.out.trans (hb.mono BW2.out.size))
  have sz3 : ((w.alloc (.cells #[.bool a0g, .slice a0m len0m cap0m] 24)).alloc (.cells #[.bool a1g, .slice a1m len1m cap1m] 24)).heap.size ≤ ws0.heap.size := hb.size
  have XaNum_3 := Lib.hid (XaNum_2.out.below hb XaNum_2.out.lt)
  have XaDen_3 := Lib.hid (XaDen_2.out.below hb XaDen_2.out.lt)
  clear hb
  have eaDen0a : ws0.cell? ⟨w.heap.size + 1, 0, none⟩ = some (.bool a1g) := XaDen_3.out.cell 0
  have eaDen1a : ws0.cell? ⟨w.heap.size + 1, 1, none⟩ = some (.slice a1m len1m cap1m) := XaDen_3.out.cell 1
  go_wp2_with fail
  clear eaDen0a eaDen1a
  refine (szBigInt_pos a1g a1m len1m cap1m ((1048576 : Int) - (len0m : Int)) _ (by omega) (by omega)  (by omega)).mono ?_
  rintro e ws1 ⟨rfl, hb⟩
  have BW4 := Lib.hid (BW3.out.trans (hb.mono BW3.out.size))
  have sz4 : ws0.heap.size ≤ ws1.heap.size := hb.size
  have XaNum_4 := Lib.hid (XaNum_3.out.below hb XaNum_3.out.lt)
  have XaDen_4 := Lib.hid (XaDen_3.out.below hb XaDen_3.out.lt)
  clear hb
  go_upto_region 8 with fail
  go_cut [6] (fun s6 wx => ∃ (gb : Nat) (r1_00 : Bool) (r1_01 : List Int) (r1_02 : List Int) (N01 : Nat) (N02 : Nat) (Aw0m : Option Addr) (cw0m : Nat) (Aw0d : Option Addr) (cw0d : Nat), s6 = .pointer (some ⟨gb, 0, none⟩) ∧ Hid (RatMakeIs a0g z0m a1g z1m r1_00 r1_01 r1_02) ∧ Hid (r1_01.length = N01) ∧ N01 ≤ 4194304 ∧ Hid (r1_02.length = N02) ∧ N02 ≤ 4194304 ∧ Hid (wx.ownsRow ws1.heap.size 3 1 (.slice Aw0m N01 cw0m) N01 (r1_01.map (.int .i64))) ∧ Hid (wx.ownsRow ws1.heap.size 3 1 (.slice Aw0d N02 cw0d) N02 (r1_02.map (.int .i64))) ∧ Hid (Box wx gb 31 #[.bool r1_00, .slice Aw0m N01 cw0m, .slice Aw0d N02 cw0d]) ∧ Hid (Apart (.slice Aw0d N02 cw0d) (.slice Aw0m N01 cw0m)) ∧ Hid (Below w.heap.size w wx) ∧ ws1.heap.size ≤ wx.heap.size ∧ Hid (Box wx (w.heap.size) 24 #[.bool a0g, .slice a0m len0m cap0m]) ∧ Hid (Box wx (w.heap.size + 1) 24 #[.bool a1g, .slice a1m len1m cap1m]))
  case first =>
    have BW5 := Lib.hid BW4.out.drew
    have sz5 : ws1.heap.size ≤ ws1.drew.heap.size := Nat.le_refl _
    have XaNum_5 := Lib.hid XaNum_4.out.drew
    have XaDen_5 := Lib.hid XaDen_4.out.drew
    have cvaNum0 : Hid ((#[.bool a0g, .slice a0m len0m cap0m] : Array Value)[0]? = some (.bool a0g)) := rfl
    have cvaNum1 : Hid ((#[.bool a0g, .slice a0m len0m cap0m] : Array Value)[1]? = some (.slice a0m len0m cap0m)) := rfl
    have cvaDen0 : Hid ((#[.bool a1g, .slice a1m len1m cap1m] : Array Value)[0]? = some (.bool a1g)) := rfl
    have cvaDen1 : Hid ((#[.bool a1g, .slice a1m len1m cap1m] : Array Value)[1]? = some (.slice a1m len1m cap1m)) := rfl
    go_region_held3 (fun w' => w'.cell? ⟨w.heap.size, 0, none⟩ = some (.bool a0g) ∧ w'.cell? ⟨w.heap.size, 1, none⟩ = some (.slice a0m len0m cap0m) ∧ w'.cell? ⟨w.heap.size + 1, 0, none⟩ = some (.bool a1g) ∧ w'.cell? ⟨w.heap.size + 1, 1, none⟩ = some (.slice a1m len1m cap1m)) (first | with_reducible exact ⟨cellS XaNum_8 cvaNum0, cellS XaNum_8 cvaNum1, cellS XaDen_8 cvaDen0, cellS XaDen_8 cvaDen1⟩ | with_reducible exact ⟨cellS (hAlloc XaNum_8 _) cvaNum0, cellS (hAlloc XaNum_8 _) cvaNum1, cellS (hAlloc XaDen_8 _) cvaDen0, cellS (hAlloc XaDen_8 _) cvaDen1⟩ | with_reducible exact ⟨cellS (hFar (hFar (hFar XaNum_8 (by have := XaNum_4.out.lt; dsimp only; omega) _) (by have := XaNum_4.out.lt; dsimp only; omega) _) (by have := XaNum_4.out.lt; dsimp only; omega) _) cvaNum0, cellS (hFar (hFar (hFar XaNum_8 (by have := XaNum_4.out.lt; dsimp only; omega) _) (by have := XaNum_4.out.lt; dsimp only; omega) _) (by have := XaNum_4.out.lt; dsimp only; omega) _) cvaNum1, cellS (hFar (hFar (hFar XaDen_8 (by have := XaDen_4.out.lt; dsimp only; omega) _) (by have := XaDen_4.out.lt; dsimp only; omega) _) (by have := XaDen_4.out.lt; dsimp only; omega) _) cvaDen0, cellS (hFar (hFar (hFar XaDen_8 (by have := XaDen_4.out.lt; dsimp only; omega) _) (by have := XaDen_4.out.lt; dsimp only; omega) _) (by have := XaDen_4.out.lt; dsimp only; omega) _) cvaDen1⟩ | with_reducible exact ⟨cellS XaNum_7 cvaNum0, cellS XaNum_7 cvaNum1, cellS XaDen_7 cvaDen0, cellS XaDen_7 cvaDen1⟩ | with_reducible exact ⟨cellS (hAlloc XaNum_7 _) cvaNum0, cellS (hAlloc XaNum_7 _) cvaNum1, cellS (hAlloc XaDen_7 _) cvaDen0, cellS (hAlloc XaDen_7 _) cvaDen1⟩ | with_reducible exact ⟨cellS XaNum_6 cvaNum0, cellS XaNum_6 cvaNum1, cellS XaDen_6 cvaDen0, cellS XaDen_6 cvaDen1⟩ | with_reducible exact ⟨cellS (hAlloc XaNum_6 _) cvaNum0, cellS (hAlloc XaNum_6 _) cvaNum1, cellS (hAlloc XaDen_6 _) cvaDen0, cellS (hAlloc XaDen_6 _) cvaDen1⟩ | with_reducible exact ⟨cellS XaNum_5 cvaNum0, cellS XaNum_5 cvaNum1, cellS XaDen_5 cvaDen0, cellS XaDen_5 cvaDen1⟩ | with_reducible exact ⟨cellS (hAlloc XaNum_5 _) cvaNum0, cellS (hAlloc XaNum_5 _) cvaNum1, cellS (hAlloc XaDen_5 _) cvaDen0, cellS (hAlloc XaDen_5 _) cvaDen1⟩ | with_reducible exact ⟨cellS (hDrew (hAlloc XaNum_4 _)) cvaNum0, cellS (hDrew (hAlloc XaNum_4 _)) cvaNum1, cellS (hDrew (hAlloc XaDen_4 _)) cvaDen0, cellS (hDrew (hAlloc XaDen_4 _)) cvaDen1⟩) (first | (go_at_call 24; first | ((with_reducible refine (spec_ratMake a0g At1m len0m ct1m z0m a1g At2m len1m ct2m z1m _ (Inz0m.out.own Ot1m_7.out) (room_own Ot1m_7.out) (Inz1m.out.own Ot2m_7.out) (room_own Ot2m_7.out)).mono ?_); rintro e w3 ⟨r1_00, r1_01, v1_01, r1_02, v1_02, rfl, his, ho01, ho02, hap10, hb⟩; have BW8 := Lib.hid (BW7.out.trans (hb.mono BW7.out.size)); have sz8 : w2.heap.size ≤ w3.heap.size := Nat.le_trans (by simp) hb.size; have Ot1m_8 := Lib.hid (own_below Ot1m_7.out hb); have Ot2m_8 := Lib.hid (own_below Ot2m_7.out hb); have XaNum_8 := Lib.hid (XaNum_7.out.below hb XaNum_7.out.lt); have XaDen_8 := Lib.hid (XaDen_7.out.below hb XaDen_7.out.lt); (try (have NN_8 := Lib.hid (NN_7.out.below hb NN_7.out.lt))); clear hb; have IS := Lib.hid his; clear his; obtain ⟨hl, ho01⟩ := ho01; obtain ⟨N01, hN⟩ : ∃ N, N = r1_01.length := ⟨_, rfl⟩; rw [← hN] at hl ho01; have HN01 := Lib.hid hN.symm; have hl01 := hl; clear hN hl; obtain ⟨hl, ho02⟩ := ho02; obtain ⟨N02, hN⟩ : ∃ N, N = r1_02.length := ⟨_, rfl⟩; rw [← hN] at hl ho02; have HN02 := Lib.hid hN.symm; have hl02 := hl; clear hN hl; obtain ⟨Aw0m, cw0m, rfl⟩ := own_slice ho01; have Uw0m := Lib.hid (fun k (hk : (Value.slice Aw0m N01 cw0m).ownBlock = some k) => (ho01.lt k hk).2); have Ow0m_8 := Lib.hid ho01; clear ho01; obtain ⟨Aw0d, cw0d, rfl⟩ := own_slice ho02; have Uw0d := Lib.hid (fun k (hk : (Value.slice Aw0d N02 cw0d).ownBlock = some k) => (ho02.lt k hk).2); have Ow0d_8 := Lib.hid ho02; clear ho02; have APw0d_w0m := Lib.hid hap10; have APw0m_w0d := Lib.hid hap10.symm; clear hap10; clear Ot1m_8 Ut1m; clear Ot2m_8 Ut2m; (try (have eN0 := NN_8.out.cell 0; have eN1 := NN_8.out.cell 1; have eN2 := NN_8.out.cell 2; simp at eN0 eN1 eN2; have fN0 := NN_8.out.free 0; have fN1 := NN_8.out.free 1; have fN2 := NN_8.out.free 2))) | (replace Ot1m_7 := Lib.hid (Ot1m_7.out.alloc (.cells #[.bool false, .slice none 0 0, .slice none 0 0] 31)); replace Ot2m_7 := Lib.hid (Ot2m_7.out.alloc (.cells #[.bool false, .slice none 0 0, .slice none 0 0] 31)); replace XaNum_7 := Lib.hid (XaNum_7.out.alloc (.cells #[.bool false, .slice none 0 0, .slice none 0 0] 31)); replace XaDen_7 := Lib.hid (XaDen_7.out.alloc (.cells #[.bool false, .slice none 0 0, .slice none 0 0] 31)); replace BW7 := Lib.hid (BW7.out.alloc BW7.out.size (.cells #[.bool false, .slice none 0 0, .slice none 0 0] 31)); have NN_7 := Lib.hid (Box.new w2 31 #[.bool false, .slice none 0 0, .slice none 0 0]); (with_reducible refine (spec_ratMake a0g At1m len0m ct1m z0m a1g At2m len1m ct2m z1m _ (Inz0m.out.own Ot1m_7.out) (room_own Ot1m_7.out) (Inz1m.out.own Ot2m_7.out) (room_own Ot2m_7.out)).mono ?_); rintro e w3 ⟨r1_00, r1_01, v1_01, r1_02, v1_02, rfl, his, ho01, ho02, hap10, hb⟩; have BW8 := Lib.hid (BW7.out.trans (hb.mono BW7.out.size)); have sz8 : w2.heap.size ≤ w3.heap.size := Nat.le_trans (by simp) hb.size; have Ot1m_8 := Lib.hid (own_below Ot1m_7.out hb); have Ot2m_8 := Lib.hid (own_below Ot2m_7.out hb); have XaNum_8 := Lib.hid (XaNum_7.out.below hb XaNum_7.out.lt); have XaDen_8 := Lib.hid (XaDen_7.out.below hb XaDen_7.out.lt); (try (have NN_8 := Lib.hid (NN_7.out.below hb NN_7.out.lt))); clear hb; have IS := Lib.hid his; clear his; obtain ⟨hl, ho01⟩ := ho01; obtain ⟨N01, hN⟩ : ∃ N, N = r1_01.length := ⟨_, rfl⟩; rw [← hN] at hl ho01; have HN01 := Lib.hid hN.symm; have hl01 := hl; clear hN hl; obtain ⟨hl, ho02⟩ := ho02; obtain ⟨N02, hN⟩ : ∃ N, N = r1_02.length := ⟨_, rfl⟩; rw [← hN] at hl ho02; have HN02 := Lib.hid hN.symm; have hl02 := hl; clear hN hl; obtain ⟨Aw0m, cw0m, rfl⟩ := own_slice ho01; have Uw0m := Lib.hid (fun k (hk : (Value.slice Aw0m N01 cw0m).ownBlock = some k) => (ho01.lt k hk).2); have Ow0m_8 := Lib.hid ho01; clear ho01; obtain ⟨Aw0d, cw0d, rfl⟩ := own_slice ho02; have Uw0d := Lib.hid (fun k (hk : (Value.slice Aw0d N02 cw0d).ownBlock = some k) => (ho02.lt k hk).2); have Ow0d_8 := Lib.hid ho02; clear ho02; have APw0d_w0m := Lib.hid hap10; have APw0m_w0d := Lib.hid hap10.symm; clear hap10; clear Ot1m_8 Ut1m; clear Ot2m_8 Ut2m; (try (have eN0 := NN_8.out.cell 0; have eN1 := NN_8.out.cell 1; have eN2 := NN_8.out.cell 2; simp at eN0 eN1 eN2; have fN0 := NN_8.out.free 0; have fN1 := NN_8.out.free 1; have fN2 := NN_8.out.free 2)))) | (go_at_call 25; first | ((with_reducible refine (toBigInt_any a1g a1m len1m cap1m z1m _ Inz1m.out.len Inz1m.out.le (Inz1m.out.rd.below BW6.out)).mono ?_); rintro e w2 ⟨v0, rfl, ho0, hb⟩; have BW7 := Lib.hid (BW6.out.trans (hb.mono BW6.out.size)); have sz7 : w1.heap.size ≤ w2.heap.size := Nat.le_trans (by simp) hb.size; have Ot1m_7 := Lib.hid (own_below Ot1m_6.out hb); have XaNum_7 := Lib.hid (XaNum_6.out.below hb XaNum_6.out.lt); have XaDen_7 := Lib.hid (XaDen_6.out.below hb XaDen_6.out.lt); (try (have NN_7 := Lib.hid (NN_6.out.below hb NN_6.out.lt))); obtain ⟨At2m, ct2m, rfl⟩ := own_slice ho0; have Ut2m := Lib.hid (fun k (hk : (Value.slice At2m len1m ct2m).ownBlock = some k) => (ho0.lt k hk).2); have Ot2m_7 := Lib.hid ho0; clear ho0; clear hb) | (replace Ot1m_6 := Lib.hid (Ot1m_6.out.alloc (.cells #[.bool false, .slice none 0 0, .slice none 0 0] 31)); replace XaNum_6 := Lib.hid (XaNum_6.out.alloc (.cells #[.bool false, .slice none 0 0, .slice none 0 0] 31)); replace XaDen_6 := Lib.hid (XaDen_6.out.alloc (.cells #[.bool false, .slice none 0 0, .slice none 0 0] 31)); replace BW6 := Lib.hid (BW6.out.alloc BW6.out.size (.cells #[.bool false, .slice none 0 0, .slice none 0 0] 31)); have NN_6 := Lib.hid (Box.new w1 31 #[.bool false, .slice none 0 0, .slice none 0 0]); (with_reducible refine (toBigInt_any a1g a1m len1m cap1m z1m _ Inz1m.out.len Inz1m.out.le (Inz1m.out.rd.below BW6.out)).mono ?_); rintro e w2 ⟨v0, rfl, ho0, hb⟩; have BW7 := Lib.hid (BW6.out.trans (hb.mono BW6.out.size)); have sz7 : w1.heap.size ≤ w2.heap.size := Nat.le_trans (by simp) hb.size; have Ot1m_7 := Lib.hid (own_below Ot1m_6.out hb); have XaNum_7 := Lib.hid (XaNum_6.out.below hb XaNum_6.out.lt); have XaDen_7 := Lib.hid (XaDen_6.out.below hb XaDen_6.out.lt); (try (have NN_7 := Lib.hid (NN_6.out.below hb NN_6.out.lt))); obtain ⟨At2m, ct2m, rfl⟩ := own_slice ho0; have Ut2m := Lib.hid (fun k (hk : (Value.slice At2m len1m ct2m).ownBlock = some k) => (ho0.lt k hk).2); have Ot2m_7 := Lib.hid ho0; clear ho0; clear hb)) | (go_at_call 25; first | ((with_reducible refine (toBigInt_any a0g a0m len0m cap0m z0m _ Inz0m.out.len Inz0m.out.le (Inz0m.out.rd.below BW5.out)).mono ?_); rintro e w1 ⟨v0, rfl, ho0, hb⟩; have BW6 := Lib.hid (BW5.out.trans (hb.mono BW5.out.size)); have sz6 : ws1.drew.heap.size ≤ w1.heap.size := Nat.le_trans (by simp) hb.size; have XaNum_6 := Lib.hid (XaNum_5.out.below hb XaNum_5.out.lt); have XaDen_6 := Lib.hid (XaDen_5.out.below hb XaDen_5.out.lt); (try (have NN_6 := Lib.hid (NN_5.out.below hb NN_5.out.lt))); obtain ⟨At1m, ct1m, rfl⟩ := own_slice ho0; have Ut1m := Lib.hid (fun k (hk : (Value.slice At1m len0m ct1m).ownBlock = some k) => (ho0.lt k hk).2); have Ot1m_6 := Lib.hid ho0; clear ho0; clear hb) | (replace XaNum_5 := Lib.hid (XaNum_4.out.alloc (.cells #[.bool false, .slice none 0 0, .slice none 0 0] 31)).drew; replace XaDen_5 := Lib.hid (XaDen_4.out.alloc (.cells #[.bool false, .slice none 0 0, .slice none 0 0] 31)).drew; replace BW5 := Lib.hid (BW4.out.alloc BW4.out.size (.cells #[.bool false, .slice none 0 0, .slice none 0 0] 31)).drew; have NN_5 := Lib.hid (Box.new ws1 31 #[.bool false, .slice none 0 0, .slice none 0 0]).drew; (with_reducible refine (toBigInt_any a0g a0m len0m cap0m z0m _ Inz0m.out.len Inz0m.out.le (Inz0m.out.rd.below BW5.out)).mono ?_); rintro e w1 ⟨v0, rfl, ho0, hb⟩; have BW6 := Lib.hid (BW5.out.trans (hb.mono BW5.out.size)); have sz6 : ws1.drew.heap.size ≤ w1.heap.size := Nat.le_trans (by simp) hb.size; have XaNum_6 := Lib.hid (XaNum_5.out.below hb XaNum_5.out.lt); have XaDen_6 := Lib.hid (XaDen_5.out.below hb XaDen_5.out.lt); (try (have NN_6 := Lib.hid (NN_5.out.below hb NN_5.out.lt))); obtain ⟨At1m, ct1m, rfl⟩ := own_slice ho0; have Ut1m := Lib.hid (fun k (hk : (Value.slice At1m len0m ct1m).ownBlock = some k) => (ho0.lt k hk).2); have Ot1m_6 := Lib.hid ho0; clear ho0; clear hb)))
    all_goals (go_wp2_with fail; go_meet; first | exact ⟨_, r1_00, r1_01, r1_02, N01, N02, _, _, _, _, rfl, IS, HN01, hl01, HN02, hl02, own_base (Ow0m_8.out.alloc _) (by first | omega | (simp; omega)), own_base (Ow0d_8.out.alloc _) (by first | omega | (simp; omega)), Box.new _ _ _, APw0d_w0m, BW8.out.alloc BW8.out.size _, (by simp; omega), XaNum_8.out.alloc _, XaDen_8.out.alloc _⟩ | exact ⟨_, r1_00, r1_01, r1_02, N01, N02, _, _, _, _, rfl, IS, HN01, hl01, HN02, hl02, own_base ((own_box (own_box (own_box Ow0m_8.out NN_8.out 0 _) (NN_8.out.set_ 0 _) 1 _) ((NN_8.out.set_ 0 _).set_ 1 _) 2 _)) (by first | omega | (simp; omega)), own_base ((own_box (own_box (own_box Ow0d_8.out NN_8.out 0 _) (NN_8.out.set_ 0 _) 1 _) ((NN_8.out.set_ 0 _).set_ 1 _) 2 _)) (by first | omega | (simp; omega)), (((NN_8.out.set_ 0 _).set_ 1 _).set_ 2 _), APw0d_w0m, (((BW8.out.setCell (by dsimp only; omega) _).setCell (by dsimp only; omega) _).setCell (by dsimp only; omega) _), (by simp; omega), (((XaNum_8.out.far (by have := XaNum_4.out.lt; dsimp only; omega) _).far (by have := XaNum_4.out.lt; dsimp only; omega) _).far (by have := XaNum_4.out.lt; dsimp only; omega) _), (((XaDen_8.out.far (by have := XaDen_4.out.lt; dsimp only; omega) _).far (by have := XaDen_4.out.lt; dsimp only; omega) _).far (by have := XaDen_4.out.lt; dsimp only; omega) _)⟩)
  obtain ⟨gb1, r1_00, r1_01, r1_02, N01, N02, Aw0m, cw0m, Aw0d, cw0d, rfl, IS, HN01, hl01, HN02, hl02, Ow0m_5, Ow0d_5, Xw0_5, APw0d_w0m, BW5, sz5, XaNum_5, XaDen_5⟩ := hcut
  obtain ⟨wc1, rfl⟩ : ∃ q, q = wc := ⟨_, rfl⟩
  have APw0m_w0d := Lib.hid APw0d_w0m.out.symm
  have Uw0m := Lib.hid (fun k (hk : (Value.slice Aw0m N01 cw0m).ownBlock = some k) => (Ow0m_5.out.lt k hk).2)
  have Uw0d := Lib.hid (fun k (hk : (Value.slice Aw0d N02 cw0d).ownBlock = some k) => (Ow0d_5.out.lt k hk).2)
  have eaNum0a : wc1.cell? ⟨w.heap.size, 0, none⟩ = some (.bool a0g) := XaNum_5.out.cell 0
  have eaNum1a : wc1.cell? ⟨w.heap.size, 1, none⟩ = some (.slice a0m len0m cap0m) := XaNum_5.out.cell 1
  go_wp2_with fail
  clear eaNum0a eaNum1a
  refine (toBigInt_any a0g a0m len0m cap0m z0m _ Inz0m.out.len Inz0m.out.le (Inz0m.out.rd.below BW5.out)).mono ?_
  rintro e w4 ⟨v0, rfl, ho0, hb⟩
  have BW6 := Lib.hid (BW5.out.trans (hb.mono BW5.out.size))
  have sz6 : wc1.heap.size ≤ w4.heap.size := hb.size
  have Ow0m_6 := Lib.hid (own_below Ow0m_5.out hb)
  have Ow0d_6 := Lib.hid (own_below Ow0d_5.out hb)
  have XaNum_6 := Lib.hid (XaNum_5.out.below hb XaNum_5.out.lt)
  have XaDen_6 := Lib.hid (XaDen_5.out.below hb XaDen_5.out.lt)
  have Xw0_6 := Lib.hid (Xw0_5.out.below hb Xw0_5.out.lt)
  obtain ⟨Ax0m, cx0m, rfl⟩ := own_slice ho0
  have Ux0m := Lib.hid (fun k (hk : (Value.slice Ax0m len0m cx0m).ownBlock = some k) => (ho0.lt k hk).2)
  have Ox0m_6 := Lib.hid ho0
  clear ho0
  clear hb
  have BW7 := Lib.hid (BW6.out.alloc BW6.out.size (.cells #[.bool a0g, .slice Ax0m len0m cx0m] 29))
  have sz7 : w4.heap.size ≤ (w4.alloc (.cells #[.bool a0g, .slice Ax0m len0m cx0m] 29)).heap.size := (by simp)
  have Ow0m_7 := Lib.hid (Ow0m_6.out.alloc (.cells #[.bool a0g, .slice Ax0m len0m cx0m] 29))
  have Ow0d_7 := Lib.hid (Ow0d_6.out.alloc (.cells #[.bool a0g, .slice Ax0m len0m cx0m] 29))
  have Ox0m_7 := Lib.hid (Ox0m_6.out.alloc (.cells #[.bool a0g, .slice Ax0m len0m cx0m] 29))
  have XaNum_7 := Lib.hid (XaNum_6.out.alloc (.cells #[.bool a0g, .slice Ax0m len0m cx0m] 29))
  have XaDen_7 := Lib.hid (XaDen_6.out.alloc (.cells #[.bool a0g, .slice Ax0m len0m cx0m] 29))
  have Xw0_7 := Lib.hid (Xw0_6.out.alloc (.cells #[.bool a0g, .slice Ax0m len0m cx0m] 29))
  have Xx0_7 := Lib.hid (Box.new w4 29 #[.bool a0g, .slice Ax0m len0m cx0m])
  have eaDen0a : w4.cell? ⟨w.heap.size + 1, 0, none⟩ = some (.bool a1g) := XaDen_6.out.cell 0
  have eaDen1a : w4.cell? ⟨w.heap.size + 1, 1, none⟩ = some (.slice a1m len1m cap1m) := XaDen_6.out.cell 1
  have eaDen0b : (w4.alloc (.cells #[.bool a0g, .slice Ax0m len0m cx0m] 29)).cell? ⟨w.heap.size + 1, 0, none⟩ = some (.bool a1g) := XaDen_7.out.cell 0
  have eaDen1b : (w4.alloc (.cells #[.bool a0g, .slice Ax0m len0m cx0m] 29)).cell? ⟨w.heap.size + 1, 1, none⟩ = some (.slice a1m len1m cap1m) := XaDen_7.out.cell 1
  have neaDen0 : w4.heap.size ≠ w.heap.size + 1 := (by have := XaDen_6.out.lt; omega)
  go_wp2_with fail
  clear eaDen0a eaDen1a eaDen0b eaDen1b neaDen0
  refine (toBigInt_any a1g a1m len1m cap1m z1m _ Inz1m.out.len Inz1m.out.le (Inz1m.out.rd.below BW7.out)).mono ?_
  rintro e w5 ⟨v0, rfl, ho0, hb⟩
  have BW8 := Lib.hid (BW7.out.trans (hb.mono BW7.out.size))
  have sz8 : (w4.alloc (.cells #[.bool a0g, .slice Ax0m len0m cx0m] 29)).heap.size ≤ w5.heap.size := hb.size
  have Ow0m_8 := Lib.hid (own_below Ow0m_7.out hb)
  have Ow0d_8 := Lib.hid (own_below Ow0d_7.out hb)
  have Ox0m_8 := Lib.hid (own_below Ox0m_7.out hb)
  have XaNum_8 := Lib.hid (XaNum_7.out.below hb XaNum_7.out.lt)
  have XaDen_8 := Lib.hid (XaDen_7.out.below hb XaDen_7.out.lt)
  have Xw0_8 := Lib.hid (Xw0_7.out.below hb Xw0_7.out.lt)
  have Xx0_8 := Lib.hid (Xx0_7.out.below hb Xx0_7.out.lt)
  obtain ⟨Ax1m, cx1m, rfl⟩ := own_slice ho0
  have Ux1m := Lib.hid (fun k (hk : (Value.slice Ax1m len1m cx1m).ownBlock = some k) => (ho0.lt k hk).2)
  have Ox1m_8 := Lib.hid ho0
  clear ho0
  clear hb
  have BW9 := Lib.hid (BW8.out.alloc BW8.out.size (.cells #[.bool a1g, .slice Ax1m len1m cx1m] 29))
  have sz9 : w5.heap.size ≤ (w5.alloc (.cells #[.bool a1g, .slice Ax1m len1m cx1m] 29)).heap.size := (by simp)
  have Ow0m_9 := Lib.hid (Ow0m_8.out.alloc (.cells #[.bool a1g, .slice Ax1m len1m cx1m] 29))
  have Ow0d_9 := Lib.hid (Ow0d_8.out.alloc (.cells #[.bool a1g, .slice Ax1m len1m cx1m] 29))
  have Ox0m_9 := Lib.hid (Ox0m_8.out.alloc (.cells #[.bool a1g, .slice Ax1m len1m cx1m] 29))
  have Ox1m_9 := Lib.hid (Ox1m_8.out.alloc (.cells #[.bool a1g, .slice Ax1m len1m cx1m] 29))
  have XaNum_9 := Lib.hid (XaNum_8.out.alloc (.cells #[.bool a1g, .slice Ax1m len1m cx1m] 29))
  have XaDen_9 := Lib.hid (XaDen_8.out.alloc (.cells #[.bool a1g, .slice Ax1m len1m cx1m] 29))
  have Xw0_9 := Lib.hid (Xw0_8.out.alloc (.cells #[.bool a1g, .slice Ax1m len1m cx1m] 29))
  have Xx0_9 := Lib.hid (Xx0_8.out.alloc (.cells #[.bool a1g, .slice Ax1m len1m cx1m] 29))
  have Xx1_9 := Lib.hid (Box.new w5 29 #[.bool a1g, .slice Ax1m len1m cx1m])
  have ex00a : w5.cell? ⟨w4.heap.size, 0, none⟩ = some (.bool a0g) := Xx0_8.out.cell 0
  have ex01a : w5.cell? ⟨w4.heap.size, 1, none⟩ = some (.slice Ax0m len0m cx0m) := Xx0_8.out.cell 1
  have ex00b : (w5.alloc (.cells #[.bool a1g, .slice Ax1m len1m cx1m] 29)).cell? ⟨w4.heap.size, 0, none⟩ = some (.bool a0g) := Xx0_9.out.cell 0
  have ex01b : (w5.alloc (.cells #[.bool a1g, .slice Ax1m len1m cx1m] 29)).cell? ⟨w4.heap.size, 1, none⟩ = some (.slice Ax0m len0m cx0m) := Xx0_9.out.cell 1
  have nex00 : w5.heap.size ≠ w4.heap.size := (by have := Xx0_8.out.lt; omega)
  go_wp2_with fail
  clear ex00a ex01a ex00b ex01b nex00
  refine (impl_ratMake a0g Ax0m len0m cx0m z0m a1g Ax1m len1m cx1m z1m _ (Inz0m.out.own Ox0m_9.out) (room_own Ox0m_9.out) (Inz1m.out.own Ox1m_9.out) (room_own Ox1m_9.out)).mono ?_
  rintro e w6 ⟨r2_00, r2_01, v2_01, r2_02, v2_02, rfl, his, ho01, ho02, hap10, hb⟩
  have BW10 := Lib.hid (BW9.out.trans (hb.mono BW9.out.size))
  have sz10 : (w5.alloc (.cells #[.bool a1g, .slice Ax1m len1m cx1m] 29)).heap.size ≤ w6.heap.size := hb.size
  have Ow0m_10 := Lib.hid (own_below Ow0m_9.out hb)
  have Ow0d_10 := Lib.hid (own_below Ow0d_9.out hb)
  have Ox0m_10 := Lib.hid (own_below Ox0m_9.out hb)
  have Ox1m_10 := Lib.hid (own_below Ox1m_9.out hb)
  have XaNum_10 := Lib.hid (XaNum_9.out.below hb XaNum_9.out.lt)
  have XaDen_10 := Lib.hid (XaDen_9.out.below hb XaDen_9.out.lt)
  have Xw0_10 := Lib.hid (Xw0_9.out.below hb Xw0_9.out.lt)
  have Xx0_10 := Lib.hid (Xx0_9.out.below hb Xx0_9.out.lt)
  have Xx1_10 := Lib.hid (Xx1_9.out.below hb Xx1_9.out.lt)
  clear hb
  obtain ⟨rfl, rfl, rfl⟩ := ratMake_unique IS.out his
  clear his
  replace ho01 := ho01.2
  rw [HN01.out] at ho01
  replace ho02 := ho02.2
  rw [HN02.out] at ho02
  obtain ⟨Ag0m, cg0m, rfl⟩ := own_slice ho01
  have Ug0m := Lib.hid (fun k (hk : (Value.slice Ag0m N01 cg0m).ownBlock = some k) => (ho01.lt k hk).2)
  have Og0m_10 := Lib.hid ho01
  clear ho01
  obtain ⟨Ag0d, cg0d, rfl⟩ := own_slice ho02
  have Ug0d := Lib.hid (fun k (hk : (Value.slice Ag0d N02 cg0d).ownBlock = some k) => (ho02.lt k hk).2)
  have Og0d_10 := Lib.hid ho02
  clear ho02
  have APg0d_g0m := Lib.hid hap10
  have APg0m_g0d := Lib.hid hap10.symm
  clear hap10
  have BW11 := Lib.hid (BW10.out.alloc BW10.out.size (.cells #[.bool r1_00, .slice Ag0m N01 cg0m, .slice Ag0d N02 cg0d] 31))
  have sz11 : w6.heap.size ≤ (w6.alloc (.cells #[.bool r1_00, .slice Ag0m N01 cg0m, .slice Ag0d N02 cg0d] 31)).heap.size := (by simp)
  have Ow0m_11 := Lib.hid (Ow0m_10.out.alloc (.cells #[.bool r1_00, .slice Ag0m N01 cg0m, .slice Ag0d N02 cg0d] 31))
  have Ow0d_11 := Lib.hid (Ow0d_10.out.alloc (.cells #[.bool r1_00, .slice Ag0m N01 cg0m, .slice Ag0d N02 cg0d] 31))
  have Ox0m_11 := Lib.hid (Ox0m_10.out.alloc (.cells #[.bool r1_00, .slice Ag0m N01 cg0m, .slice Ag0d N02 cg0d] 31))
  have Ox1m_11 := Lib.hid (Ox1m_10.out.alloc (.cells #[.bool r1_00, .slice Ag0m N01 cg0m, .slice Ag0d N02 cg0d] 31))
  have Og0m_11 := Lib.hid (Og0m_10.out.alloc (.cells #[.bool r1_00, .slice Ag0m N01 cg0m, .slice Ag0d N02 cg0d] 31))
  have Og0d_11 := Lib.hid (Og0d_10.out.alloc (.cells #[.bool r1_00, .slice Ag0m N01 cg0m, .slice Ag0d N02 cg0d] 31))
  have XaNum_11 := Lib.hid (XaNum_10.out.alloc (.cells #[.bool r1_00, .slice Ag0m N01 cg0m, .slice Ag0d N02 cg0d] 31))
  have XaDen_11 := Lib.hid (XaDen_10.out.alloc (.cells #[.bool r1_00, .slice Ag0m N01 cg0m, .slice Ag0d N02 cg0d] 31))
  have Xw0_11 := Lib.hid (Xw0_10.out.alloc (.cells #[.bool r1_00, .slice Ag0m N01 cg0m, .slice Ag0d N02 cg0d] 31))
  have Xx0_11 := Lib.hid (Xx0_10.out.alloc (.cells #[.bool r1_00, .slice Ag0m N01 cg0m, .slice Ag0d N02 cg0d] 31))
  have Xx1_11 := Lib.hid (Xx1_10.out.alloc (.cells #[.bool r1_00, .slice Ag0m N01 cg0m, .slice Ag0d N02 cg0d] 31))
  have Xg0_11 := Lib.hid (Box.new w6 31 #[.bool r1_00, .slice Ag0m N01 cg0m, .slice Ag0d N02 cg0d])
  have ew00a : w6.cell? ⟨gb1, 0, none⟩ = some (.bool r1_00) := Xw0_10.out.cell 0
  have ew01a : w6.cell? ⟨gb1, 1, none⟩ = some (.slice Aw0m N01 cw0m) := Xw0_10.out.cell 1
  have ew02a : w6.cell? ⟨gb1, 2, none⟩ = some (.slice Aw0d N02 cw0d) := Xw0_10.out.cell 2
  have ew00b : (w6.alloc (.cells #[.bool r1_00, .slice Ag0m N01 cg0m, .slice Ag0d N02 cg0d] 31)).cell? ⟨gb1, 0, none⟩ = some (.bool r1_00) := Xw0_11.out.cell 0
  have ew01b : (w6.alloc (.cells #[.bool r1_00, .slice Ag0m N01 cg0m, .slice Ag0d N02 cg0d] 31)).cell? ⟨gb1, 1, none⟩ = some (.slice Aw0m N01 cw0m) := Xw0_11.out.cell 1
  have ew02b : (w6.alloc (.cells #[.bool r1_00, .slice Ag0m N01 cg0m, .slice Ag0d N02 cg0d] 31)).cell? ⟨gb1, 2, none⟩ = some (.slice Aw0d N02 cw0d) := Xw0_11.out.cell 2
  have new00 : w6.heap.size ≠ gb1 := (by have := Xw0_10.out.lt; omega)
  go_wp2_with fail
  clear ew00a ew01a ew02a ew00b ew01b ew02b new00
  refine (eqRat_same r1_00 Ag0m Aw0m N01 cg0m cw0m r1_01 Ag0d Aw0d N02 cg0d cw0d r1_02 _ HN01.out (by unfold maxLen; omega) (Reads.of_own Og0m_11.out) (Reads.of_own Ow0m_11.out) HN02.out (by unfold maxLen; omega) (Reads.of_own Og0d_11.out) (Reads.of_own Ow0d_11.out)).mono ?_
  rintro e w7 ⟨rfl, hb⟩
  have BW12 := Lib.hid (BW11.out.trans (hb.mono BW11.out.size))
  have sz12 : (w6.alloc (.cells #[.bool r1_00, .slice Ag0m N01 cg0m, .slice Ag0d N02 cg0d] 31)).heap.size ≤ w7.heap.size := hb.size
  have Ow0m_12 := Lib.hid (own_below Ow0m_11.out hb)
  have Ow0d_12 := Lib.hid (own_below Ow0d_11.out hb)
  have Ox0m_12 := Lib.hid (own_below Ox0m_11.out hb)
  have Ox1m_12 := Lib.hid (own_below Ox1m_11.out hb)
  have Og0m_12 := Lib.hid (own_below Og0m_11.out hb)
  have Og0d_12 := Lib.hid (own_below Og0d_11.out hb)
  have XaNum_12 := Lib.hid (XaNum_11.out.below hb XaNum_11.out.lt)
  have XaDen_12 := Lib.hid (XaDen_11.out.below hb XaDen_11.out.lt)
  have Xw0_12 := Lib.hid (Xw0_11.out.below hb Xw0_11.out.lt)
  have Xx0_12 := Lib.hid (Xx0_11.out.below hb Xx0_11.out.lt)
  have Xx1_12 := Lib.hid (Xx1_11.out.below hb Xx1_11.out.lt)
  have Xg0_12 := Lib.hid (Xg0_11.out.below hb Xg0_11.out.lt)
  clear hb
  go_wp2_with fail
  have BW13 := Lib.hid BW12.out.drew
  have sz13 : w7.heap.size ≤ w7.drew.heap.size := Nat.le_refl _
  have Ow0m_13 := Lib.hid (own_drew Ow0m_12.out)
  have Ow0d_13 := Lib.hid (own_drew Ow0d_12.out)
  have Ox0m_13 := Lib.hid (own_drew Ox0m_12.out)
  have Ox1m_13 := Lib.hid (own_drew Ox1m_12.out)
  have Og0m_13 := Lib.hid (own_drew Og0m_12.out)
  have Og0d_13 := Lib.hid (own_drew Og0d_12.out)
  have XaNum_13 := Lib.hid XaNum_12.out.drew
  have XaDen_13 := Lib.hid XaDen_12.out.drew
  have Xw0_13 := Lib.hid Xw0_12.out.drew
  have Xx0_13 := Lib.hid Xx0_12.out.drew
  have Xx1_13 := Lib.hid Xx1_12.out.drew
  have Xg0_13 := Lib.hid Xg0_12.out.drew
  have cvx00 : Hid ((#[.bool a0g, .slice Ax0m len0m cx0m] : Array Value)[0]? = some (.bool a0g)) := rfl
  have cvx01 : Hid ((#[.bool a0g, .slice Ax0m len0m cx0m] : Array Value)[1]? = some (.slice Ax0m len0m cx0m)) := rfl
  have cvaNum0 : Hid ((#[.bool a0g, .slice a0m len0m cap0m] : Array Value)[0]? = some (.bool a0g)) := rfl
  have cvaNum1 : Hid ((#[.bool a0g, .slice a0m len0m cap0m] : Array Value)[1]? = some (.slice a0m len0m cap0m)) := rfl
  go_region_held3 (fun w' => w'.cell? ⟨w4.heap.size, 0, none⟩ = some (.bool a0g) ∧ w'.cell? ⟨w4.heap.size, 1, none⟩ = some (.slice Ax0m len0m cx0m) ∧ w'.cell? ⟨w.heap.size, 0, none⟩ = some (.bool a0g) ∧ w'.cell? ⟨w.heap.size, 1, none⟩ = some (.slice a0m len0m cap0m)) (first | with_reducible exact ⟨cellS Xx0_15 cvx00, cellS Xx0_15 cvx01, cellS XaNum_15 cvaNum0, cellS XaNum_15 cvaNum1⟩ | with_reducible exact ⟨cellS Xx0_14 cvx00, cellS Xx0_14 cvx01, cellS XaNum_14 cvaNum0, cellS XaNum_14 cvaNum1⟩ | with_reducible exact ⟨cellS Xx0_13 cvx00, cellS Xx0_13 cvx01, cellS XaNum_13 cvaNum0, cellS XaNum_13 cvaNum1⟩) (first | (go_at_call 27; refine (eqBigInt_same a0g Ax0m At3m len0m cx0m ct3m z0m _ Inz0m.out.len (by unfold maxLen; omega) (Reads.of_own Ox0m_14.out) (Reads.of_own Ot3m_14.out)).mono ?_; rintro e w9 ⟨rfl, hb⟩; have BW15 := Lib.hid (BW14.out.trans (hb.mono BW14.out.size)); have sz15 : w8.heap.size ≤ w9.heap.size := hb.size; have Ow0m_15 := Lib.hid (own_below Ow0m_14.out hb); have Ow0d_15 := Lib.hid (own_below Ow0d_14.out hb); have Ox0m_15 := Lib.hid (own_below Ox0m_14.out hb); have Ox1m_15 := Lib.hid (own_below Ox1m_14.out hb); have Og0m_15 := Lib.hid (own_below Og0m_14.out hb); have Og0d_15 := Lib.hid (own_below Og0d_14.out hb); have Ot3m_15 := Lib.hid (own_below Ot3m_14.out hb); have XaNum_15 := Lib.hid (XaNum_14.out.below hb XaNum_14.out.lt); have XaDen_15 := Lib.hid (XaDen_14.out.below hb XaDen_14.out.lt); have Xw0_15 := Lib.hid (Xw0_14.out.below hb Xw0_14.out.lt); have Xx0_15 := Lib.hid (Xx0_14.out.below hb Xx0_14.out.lt); have Xx1_15 := Lib.hid (Xx1_14.out.below hb Xx1_14.out.lt); have Xg0_15 := Lib.hid (Xg0_14.out.below hb Xg0_14.out.lt); clear hb) | (go_at_call 25; refine (toBigInt_any a0g a0m len0m cap0m z0m _ Inz0m.out.len Inz0m.out.le (Inz0m.out.rd.below BW13.out)).mono ?_; rintro e w8 ⟨v0, rfl, ho0, hb⟩; have BW14 := Lib.hid (BW13.out.trans (hb.mono BW13.out.size)); have sz14 : w7.drew.heap.size ≤ w8.heap.size := hb.size; have Ow0m_14 := Lib.hid (own_below Ow0m_13.out hb); have Ow0d_14 := Lib.hid (own_below Ow0d_13.out hb); have Ox0m_14 := Lib.hid (own_below Ox0m_13.out hb); have Ox1m_14 := Lib.hid (own_below Ox1m_13.out hb); have Og0m_14 := Lib.hid (own_below Og0m_13.out hb); have Og0d_14 := Lib.hid (own_below Og0d_13.out hb); have XaNum_14 := Lib.hid (XaNum_13.out.below hb XaNum_13.out.lt); have XaDen_14 := Lib.hid (XaDen_13.out.below hb XaDen_13.out.lt); have Xw0_14 := Lib.hid (Xw0_13.out.below hb Xw0_13.out.lt); have Xx0_14 := Lib.hid (Xx0_13.out.below hb Xx0_13.out.lt); have Xx1_14 := Lib.hid (Xx1_13.out.below hb Xx1_13.out.lt); have Xg0_14 := Lib.hid (Xg0_13.out.below hb Xg0_13.out.lt); obtain ⟨At3m, ct3m, rfl⟩ := own_slice ho0; have Ut3m := Lib.hid (fun k (hk : (Value.slice At3m len0m ct3m).ownBlock = some k) => (ho0.lt k hk).2); have Ot3m_14 := Lib.hid ho0; clear ho0; clear hb))
  clear cvx00 cvx01 cvaNum0 cvaNum1
  clear Ot3m_15 Ut3m
  go_wp2_with fail
  have BW16 := Lib.hid BW15.out.drew
  have sz16 : w9.heap.size ≤ w9.drew.heap.size := Nat.le_refl _
  have Ow0m_16 := Lib.hid (own_drew Ow0m_15.out)
  have Ow0d_16 := Lib.hid (own_drew Ow0d_15.out)
  have Ox0m_16 := Lib.hid (own_drew Ox0m_15.out)
  have Ox1m_16 := Lib.hid (own_drew Ox1m_15.out)
  have Og0m_16 := Lib.hid (own_drew Og0m_15.out)
  have Og0d_16 := Lib.hid (own_drew Og0d_15.out)
  have XaNum_16 := Lib.hid XaNum_15.out.drew
  have XaDen_16 := Lib.hid XaDen_15.out.drew
  have Xw0_16 := Lib.hid Xw0_15.out.drew
  have Xx0_16 := Lib.hid Xx0_15.out.drew
  have Xx1_16 := Lib.hid Xx1_15.out.drew
  have Xg0_16 := Lib.hid Xg0_15.out.drew
  have cvx10 : Hid ((#[.bool a1g, .slice Ax1m len1m cx1m] : Array Value)[0]? = some (.bool a1g)) := rfl
  have cvx11 : Hid ((#[.bool a1g, .slice Ax1m len1m cx1m] : Array Value)[1]? = some (.slice Ax1m len1m cx1m)) := rfl
  have cvaDen0 : Hid ((#[.bool a1g, .slice a1m len1m cap1m] : Array Value)[0]? = some (.bool a1g)) := rfl
  have cvaDen1 : Hid ((#[.bool a1g, .slice a1m len1m cap1m] : Array Value)[1]? = some (.slice a1m len1m cap1m)) := rfl
  go_region_held3 (fun w' => w'.cell? ⟨w5.heap.size, 0, none⟩ = some (.bool a1g) ∧ w'.cell? ⟨w5.heap.size, 1, none⟩ = some (.slice Ax1m len1m cx1m) ∧ w'.cell? ⟨w.heap.size + 1, 0, none⟩ = some (.bool a1g) ∧ w'.cell? ⟨w.heap.size + 1, 1, none⟩ = some (.slice a1m len1m cap1m)) (first | with_reducible exact ⟨cellS Xx1_18 cvx10, cellS Xx1_18 cvx11, cellS XaDen_18 cvaDen0, cellS XaDen_18 cvaDen1⟩ | with_reducible exact ⟨cellS Xx1_17 cvx10, cellS Xx1_17 cvx11, cellS XaDen_17 cvaDen0, cellS XaDen_17 cvaDen1⟩ | with_reducible exact ⟨cellS Xx1_16 cvx10, cellS Xx1_16 cvx11, cellS XaDen_16 cvaDen0, cellS XaDen_16 cvaDen1⟩) (first | (go_at_call 27; refine (eqBigInt_same a1g Ax1m At4m len1m cx1m ct4m z1m _ Inz1m.out.len (by unfold maxLen; omega) (Reads.of_own Ox1m_17.out) (Reads.of_own Ot4m_17.out)).mono ?_; rintro e w11 ⟨rfl, hb⟩; have BW18 := Lib.hid (BW17.out.trans (hb.mono BW17.out.size)); have sz18 : w10.heap.size ≤ w11.heap.size := hb.size; have Ow0m_18 := Lib.hid (own_below Ow0m_17.out hb); have Ow0d_18 := Lib.hid (own_below Ow0d_17.out hb); have Ox0m_18 := Lib.hid (own_below Ox0m_17.out hb); have Ox1m_18 := Lib.hid (own_below Ox1m_17.out hb); have Og0m_18 := Lib.hid (own_below Og0m_17.out hb); have Og0d_18 := Lib.hid (own_below Og0d_17.out hb); have Ot4m_18 := Lib.hid (own_below Ot4m_17.out hb); have XaNum_18 := Lib.hid (XaNum_17.out.below hb XaNum_17.out.lt); have XaDen_18 := Lib.hid (XaDen_17.out.below hb XaDen_17.out.lt); have Xw0_18 := Lib.hid (Xw0_17.out.below hb Xw0_17.out.lt); have Xx0_18 := Lib.hid (Xx0_17.out.below hb Xx0_17.out.lt); have Xx1_18 := Lib.hid (Xx1_17.out.below hb Xx1_17.out.lt); have Xg0_18 := Lib.hid (Xg0_17.out.below hb Xg0_17.out.lt); clear hb) | (go_at_call 25; refine (toBigInt_any a1g a1m len1m cap1m z1m _ Inz1m.out.len Inz1m.out.le (Inz1m.out.rd.below BW16.out)).mono ?_; rintro e w10 ⟨v0, rfl, ho0, hb⟩; have BW17 := Lib.hid (BW16.out.trans (hb.mono BW16.out.size)); have sz17 : w9.drew.heap.size ≤ w10.heap.size := hb.size; have Ow0m_17 := Lib.hid (own_below Ow0m_16.out hb); have Ow0d_17 := Lib.hid (own_below Ow0d_16.out hb); have Ox0m_17 := Lib.hid (own_below Ox0m_16.out hb); have Ox1m_17 := Lib.hid (own_below Ox1m_16.out hb); have Og0m_17 := Lib.hid (own_below Og0m_16.out hb); have Og0d_17 := Lib.hid (own_below Og0d_16.out hb); have XaNum_17 := Lib.hid (XaNum_16.out.below hb XaNum_16.out.lt); have XaDen_17 := Lib.hid (XaDen_16.out.below hb XaDen_16.out.lt); have Xw0_17 := Lib.hid (Xw0_16.out.below hb Xw0_16.out.lt); have Xx0_17 := Lib.hid (Xx0_16.out.below hb Xx0_16.out.lt); have Xx1_17 := Lib.hid (Xx1_16.out.below hb Xx1_16.out.lt); have Xg0_17 := Lib.hid (Xg0_16.out.below hb Xg0_16.out.lt); obtain ⟨At4m, ct4m, rfl⟩ := own_slice ho0; have Ut4m := Lib.hid (fun k (hk : (Value.slice At4m len1m ct4m).ownBlock = some k) => (ho0.lt k hk).2); have Ot4m_17 := Lib.hid ho0; clear ho0; clear hb))
  clear cvx10 cvx11 cvaDen0 cvaDen1
  clear Ot4m_18 Ut4m
  have ex00a : w11.cell? ⟨w4.heap.size, 0, none⟩ = some (.bool a0g) := Xx0_18.out.cell 0
  have ex01a : w11.cell? ⟨w4.heap.size, 1, none⟩ = some (.slice Ax0m len0m cx0m) := Xx0_18.out.cell 1
  go_wp2_with fail
  clear ex00a ex01a
  refine (markBigInt_own a0g _ Ax0m len0m cx0m (1) _ _ (by unfold maxLen; omega) Ox0m_18.out (ints_are _)).mono ?_
  rintro e w12 ⟨rfl, ho, hg⟩
  have BW19 := Lib.hid (below_marked BW18.out Ox0m_18.out hg (by omega) (by omega))
  have sz19 : w11.heap.size ≤ w12.heap.size := hg.size
  have Ow0m_19 := Lib.hid (Ow0m_18.out.kept hg (own_apart Ow0m_18.out Uw0m.out Ox0m_18.out Ux0m.out (.inl (by omega))))
  have Ow0d_19 := Lib.hid (Ow0d_18.out.kept hg (own_apart Ow0d_18.out Uw0d.out Ox0m_18.out Ux0m.out (.inl (by omega))))
  have Ox1m_19 := Lib.hid (Ox1m_18.out.kept hg (own_apart Ox1m_18.out Ux1m.out Ox0m_18.out Ux0m.out (.inr (by omega))))
  have Og0m_19 := Lib.hid (Og0m_18.out.kept hg (own_apart Og0m_18.out Ug0m.out Ox0m_18.out Ux0m.out (.inr (by omega))))
  have Og0d_19 := Lib.hid (Og0d_18.out.kept hg (own_apart Og0d_18.out Ug0d.out Ox0m_18.out Ux0m.out (.inr (by omega))))
  have XaNum_19 := Lib.hid (XaNum_18.out.grown hg (ne_own XaNum_18.out Ox0m_18.out))
  have XaDen_19 := Lib.hid (XaDen_18.out.grown hg (ne_own XaDen_18.out Ox0m_18.out))
  have Xw0_19 := Lib.hid (Xw0_18.out.grown hg (ne_own Xw0_18.out Ox0m_18.out))
  have Xx0_19 := Lib.hid (Xx0_18.out.grown hg (ne_own Xx0_18.out Ox0m_18.out))
  have Xx1_19 := Lib.hid (Xx1_18.out.grown hg (ne_own Xx1_18.out Ox0m_18.out))
  have Xg0_19 := Lib.hid (Xg0_18.out.grown hg (ne_own Xg0_18.out Ox0m_18.out))
  have Ox0m_19 := Lib.hid ho
  clear ho hg
  clear Ox0m_19 Ux0m Xx0_19
  have ex10a : w12.cell? ⟨w5.heap.size, 0, none⟩ = some (.bool a1g) := Xx1_19.out.cell 0
  have ex11a : w12.cell? ⟨w5.heap.size, 1, none⟩ = some (.slice Ax1m len1m cx1m) := Xx1_19.out.cell 1
  go_wp2_with fail
  clear ex10a ex11a
  refine (markBigInt_own a1g _ Ax1m len1m cx1m (1 + len0m) _ _ (by unfold maxLen; omega) Ox1m_19.out (ints_are _)).mono ?_
  rintro e w13 ⟨rfl, ho, hg⟩
  have BW20 := Lib.hid (below_marked BW19.out Ox1m_19.out hg (by omega) (by omega))
  have sz20 : w12.heap.size ≤ w13.heap.size := hg.size
  have Ow0m_20 := Lib.hid (Ow0m_19.out.kept hg (own_apart Ow0m_19.out Uw0m.out Ox1m_19.out Ux1m.out (.inl (by omega))))
  have Ow0d_20 := Lib.hid (Ow0d_19.out.kept hg (own_apart Ow0d_19.out Uw0d.out Ox1m_19.out Ux1m.out (.inl (by omega))))
  have Og0m_20 := Lib.hid (Og0m_19.out.kept hg (own_apart Og0m_19.out Ug0m.out Ox1m_19.out Ux1m.out (.inr (by omega))))
  have Og0d_20 := Lib.hid (Og0d_19.out.kept hg (own_apart Og0d_19.out Ug0d.out Ox1m_19.out Ux1m.out (.inr (by omega))))
  have XaNum_20 := Lib.hid (XaNum_19.out.grown hg (ne_own XaNum_19.out Ox1m_19.out))
  have XaDen_20 := Lib.hid (XaDen_19.out.grown hg (ne_own XaDen_19.out Ox1m_19.out))
  have Xw0_20 := Lib.hid (Xw0_19.out.grown hg (ne_own Xw0_19.out Ox1m_19.out))
  have Xx1_20 := Lib.hid (Xx1_19.out.grown hg (ne_own Xx1_19.out Ox1m_19.out))
  have Xg0_20 := Lib.hid (Xg0_19.out.grown hg (ne_own Xg0_19.out Ox1m_19.out))
  have Ox1m_20 := Lib.hid ho
  clear ho hg
  clear Ox1m_20 Ux1m Xx1_20
  have eg00a : w13.cell? ⟨w6.heap.size, 0, none⟩ = some (.bool r1_00) := Xg0_20.out.cell 0
  have eg01a : w13.cell? ⟨w6.heap.size, 1, none⟩ = some (.slice Ag0m N01 cg0m) := Xg0_20.out.cell 1
  have eg02a : w13.cell? ⟨w6.heap.size, 2, none⟩ = some (.slice Ag0d N02 cg0d) := Xg0_20.out.cell 2
  have ew00a : w13.cell? ⟨gb1, 0, none⟩ = some (.bool r1_00) := Xw0_20.out.cell 0
  have ew01a : w13.cell? ⟨gb1, 1, none⟩ = some (.slice Aw0m N01 cw0m) := Xw0_20.out.cell 1
  have ew02a : w13.cell? ⟨gb1, 2, none⟩ = some (.slice Aw0d N02 cw0d) := Xw0_20.out.cell 2
  go_wp2_with fail
  clear eg00a eg01a eg02a ew00a ew01a ew02a
  refine (eqRat_same r1_00 Ag0m Aw0m N01 cg0m cw0m r1_01 Ag0d Aw0d N02 cg0d cw0d r1_02 _ HN01.out (by unfold maxLen; omega) (Reads.of_own Og0m_20.out) (Reads.of_own Ow0m_20.out) HN02.out (by unfold maxLen; omega) (Reads.of_own Og0d_20.out) (Reads.of_own Ow0d_20.out)).mono ?_
  rintro e w14 ⟨rfl, hb⟩
  have BW21 := Lib.hid (BW20.out.trans (hb.mono BW20.out.size))
  have sz21 : w13.heap.size ≤ w14.heap.size := hb.size
  have Ow0m_21 := Lib.hid (own_below Ow0m_20.out hb)
  have Ow0d_21 := Lib.hid (own_below Ow0d_20.out hb)
  have Og0m_21 := Lib.hid (own_below Og0m_20.out hb)
  have Og0d_21 := Lib.hid (own_below Og0d_20.out hb)
  have XaNum_21 := Lib.hid (XaNum_20.out.below hb XaNum_20.out.lt)
  have XaDen_21 := Lib.hid (XaDen_20.out.below hb XaDen_20.out.lt)
  have Xw0_21 := Lib.hid (Xw0_20.out.below hb Xw0_20.out.lt)
  have Xg0_21 := Lib.hid (Xg0_20.out.below hb Xg0_20.out.lt)
  clear hb
  have eg00a : w14.cell? ⟨w6.heap.size, 0, none⟩ = some (.bool r1_00) := Xg0_21.out.cell 0
  have eg01a : w14.cell? ⟨w6.heap.size, 1, none⟩ = some (.slice Ag0m N01 cg0m) := Xg0_21.out.cell 1
  have eg02a : w14.cell? ⟨w6.heap.size, 2, none⟩ = some (.slice Ag0d N02 cg0d) := Xg0_21.out.cell 2
  go_wp2_with fail
  clear eg00a eg01a eg02a
  refine (markRat_own r1_00 _ _ Ag0m N01 cg0m Ag0d N02 cg0d (1) _ _ _ (by unfold maxLen; omega) Og0m_21.out (ints_are _) Og0d_21.out (ints_are _) APg0d_g0m.out).mono ?_
  rintro e w16 ⟨w15, rfl, ho, hg, hoz, hgz⟩
  have BW22 := Lib.hid (below_marked BW21.out Og0m_21.out hg (by omega) (by omega))
  have sz22 : w14.heap.size ≤ w15.heap.size := hg.size
  have Ow0m_22 := Lib.hid (Ow0m_21.out.kept hg (own_apart Ow0m_21.out Uw0m.out Og0m_21.out Ug0m.out (.inl (by omega))))
  have Ow0d_22 := Lib.hid (Ow0d_21.out.kept hg (own_apart Ow0d_21.out Uw0d.out Og0m_21.out Ug0m.out (.inl (by omega))))
  have Og0d_22 := Lib.hid (Og0d_21.out.kept hg (apart_of APg0d_g0m.out))
  have XaNum_22 := Lib.hid (XaNum_21.out.grown hg (ne_own XaNum_21.out Og0m_21.out))
  have XaDen_22 := Lib.hid (XaDen_21.out.grown hg (ne_own XaDen_21.out Og0m_21.out))
  have Xw0_22 := Lib.hid (Xw0_21.out.grown hg (ne_own Xw0_21.out Og0m_21.out))
  have Xg0_22 := Lib.hid (Xg0_21.out.grown hg (ne_own Xg0_21.out Og0m_21.out))
  have Og0m_22 := Lib.hid ho
  clear ho hg
  have BW23 := Lib.hid (below_marked BW22.out Og0d_22.out hgz (by omega) (by omega))
  have sz23 : w15.heap.size ≤ w16.heap.size := hgz.size
  have Ow0m_23 := Lib.hid (Ow0m_22.out.kept hgz (own_apart Ow0m_22.out Uw0m.out Og0d_22.out Ug0d.out (.inl (by omega))))
  have Ow0d_23 := Lib.hid (Ow0d_22.out.kept hgz (own_apart Ow0d_22.out Uw0d.out Og0d_22.out Ug0d.out (.inl (by omega))))
  have Og0m_23 := Lib.hid (Og0m_22.out.kept hgz (apart_of APg0m_g0d.out))
  have XaNum_23 := Lib.hid (XaNum_22.out.grown hgz (ne_own XaNum_22.out Og0d_22.out))
  have XaDen_23 := Lib.hid (XaDen_22.out.grown hgz (ne_own XaDen_22.out Og0d_22.out))
  have Xw0_23 := Lib.hid (Xw0_22.out.grown hgz (ne_own Xw0_22.out Og0d_22.out))
  have Xg0_23 := Lib.hid (Xg0_22.out.grown hgz (ne_own Xg0_22.out Og0d_22.out))
  have Og0d_23 := Lib.hid hoz
  clear hoz hgz
  have eg00a : w16.cell? ⟨w6.heap.size, 0, none⟩ = some (.bool r1_00) := Xg0_23.out.cell 0
  have eg01a : w16.cell? ⟨w6.heap.size, 1, none⟩ = some (.slice Ag0m N01 cg0m) := Xg0_23.out.cell 1
  have eg02a : w16.cell? ⟨w6.heap.size, 2, none⟩ = some (.slice Ag0d N02 cg0d) := Xg0_23.out.cell 2
  go_wp2_with fail
  clear eg00a eg01a eg02a
  refine (heldRat_same r1_00 Ag0m N01 cg0m Ag0d N02 cg0d (1) _ (by unfold maxLen; omega) (Reads.of_own Og0m_23.out) (Reads.of_own Og0d_23.out)).mono ?_
  rintro e w17 ⟨rfl, hb⟩
  have BW24 := Lib.hid (BW23.out.trans (hb.mono BW23.out.size))
  have sz24 : w16.heap.size ≤ w17.heap.size := hb.size
  have Ow0m_24 := Lib.hid (own_below Ow0m_23.out hb)
  have Ow0d_24 := Lib.hid (own_below Ow0d_23.out hb)
  have Og0m_24 := Lib.hid (own_below Og0m_23.out hb)
  have Og0d_24 := Lib.hid (own_below Og0d_23.out hb)
  have XaNum_24 := Lib.hid (XaNum_23.out.below hb XaNum_23.out.lt)
  have XaDen_24 := Lib.hid (XaDen_23.out.below hb XaDen_23.out.lt)
  have Xw0_24 := Lib.hid (Xw0_23.out.below hb Xw0_23.out.lt)
  have Xg0_24 := Lib.hid (Xg0_23.out.below hb Xg0_23.out.lt)
  clear hb
  go_upto_region 31 with fail
  go_cut [13] (fun s13 wx => ∃ (gb : Nat) (Ah0m : Option Addr) (ch0m : Nat) (Ah0d : Option Addr) (ch0d : Nat), s13 = .pointer (some ⟨gb, 0, none⟩) ∧ Hid (wx.ownsRow w17.heap.size 3 1 (.slice Ah0m N01 ch0m) N01 (r1_01.map (.int .i64))) ∧ Hid (wx.ownsRow w17.heap.size 3 1 (.slice Ah0d N02 ch0d) N02 (r1_02.map (.int .i64))) ∧ Hid (Box wx gb 31 #[.bool r1_00, .slice Ah0m N01 ch0m, .slice Ah0d N02 ch0d]) ∧ Hid (Apart (.slice Ah0d N02 ch0d) (.slice Ah0m N01 ch0m)) ∧ Hid (Below w.heap.size w wx) ∧ w17.heap.size ≤ wx.heap.size ∧ Hid (wx.ownsRow ws1.heap.size 3 1 (.slice Aw0m N01 cw0m) N01 (r1_01.map (.int .i64))) ∧ Hid (wx.ownsRow ws1.heap.size 3 1 (.slice Aw0d N02 cw0d) N02 (r1_02.map (.int .i64))) ∧ Hid (wx.ownsRow (w5.alloc (.cells #[.bool a1g, .slice Ax1m len1m cx1m] 29)).heap.size 3 1 (.slice Ag0m N01 cg0m) N01 (marks markI (1) N01)) ∧ Hid (wx.ownsRow (w5.alloc (.cells #[.bool a1g, .slice Ax1m len1m cx1m] 29)).heap.size 3 1 (.slice Ag0d N02 cg0d) N02 (marks markI (1 + N01) N02)) ∧ Hid (Box wx (w.heap.size) 24 #[.bool a0g, .slice a0m len0m cap0m]) ∧ Hid (Box wx (w.heap.size + 1) 24 #[.bool a1g, .slice a1m len1m cap1m]) ∧ Hid (Box wx (gb1) 31 #[.bool r1_00, .slice Aw0m N01 cw0m, .slice Aw0d N02 cw0d]) ∧ Hid (Box wx (w6.heap.size) 31 #[.bool r1_00, .slice Ag0m N01 cg0m, .slice Ag0d N02 cg0d]))
  case first =>
    have BW25 := Lib.hid BW24.out.drew
    have sz25 : w17.heap.size ≤ w17.drew.heap.size := Nat.le_refl _
    have Ow0m_25 := Lib.hid (own_drew Ow0m_24.out)
    have Ow0d_25 := Lib.hid (own_drew Ow0d_24.out)
    have Og0m_25 := Lib.hid (own_drew Og0m_24.out)
    have Og0d_25 := Lib.hid (own_drew Og0d_24.out)
    have XaNum_25 := Lib.hid XaNum_24.out.drew
    have XaDen_25 := Lib.hid XaDen_24.out.drew
    have Xw0_25 := Lib.hid Xw0_24.out.drew
    have Xg0_25 := Lib.hid Xg0_24.out.drew
    have cvaNum0 : Hid ((#[.bool a0g, .slice a0m len0m cap0m] : Array Value)[0]? = some (.bool a0g)) := rfl
    have cvaNum1 : Hid ((#[.bool a0g, .slice a0m len0m cap0m] : Array Value)[1]? = some (.slice a0m len0m cap0m)) := rfl
    have cvaDen0 : Hid ((#[.bool a1g, .slice a1m len1m cap1m] : Array Value)[0]? = some (.bool a1g)) := rfl
    have cvaDen1 : Hid ((#[.bool a1g, .slice a1m len1m cap1m] : Array Value)[1]? = some (.slice a1m len1m cap1m)) := rfl
    go_region_held3 (fun w' => w'.cell? ⟨w.heap.size, 0, none⟩ = some (.bool a0g) ∧ w'.cell? ⟨w.heap.size, 1, none⟩ = some (.slice a0m len0m cap0m) ∧ w'.cell? ⟨w.heap.size + 1, 0, none⟩ = some (.bool a1g) ∧ w'.cell? ⟨w.heap.size + 1, 1, none⟩ = some (.slice a1m len1m cap1m)) (first | with_reducible exact ⟨cellS XaNum_28 cvaNum0, cellS XaNum_28 cvaNum1, cellS XaDen_28 cvaDen0, cellS XaDen_28 cvaDen1⟩ | with_reducible exact ⟨cellS (hAlloc XaNum_28 _) cvaNum0, cellS (hAlloc XaNum_28 _) cvaNum1, cellS (hAlloc XaDen_28 _) cvaDen0, cellS (hAlloc XaDen_28 _) cvaDen1⟩ | with_reducible exact ⟨cellS (hFar (hFar (hFar XaNum_28 (by have := XaNum_24.out.lt; dsimp only; omega) _) (by have := XaNum_24.out.lt; dsimp only; omega) _) (by have := XaNum_24.out.lt; dsimp only; omega) _) cvaNum0, cellS (hFar (hFar (hFar XaNum_28 (by have := XaNum_24.out.lt; dsimp only; omega) _) (by have := XaNum_24.out.lt; dsimp only; omega) _) (by have := XaNum_24.out.lt; dsimp only; omega) _) cvaNum1, cellS (hFar (hFar (hFar XaDen_28 (by have := XaDen_24.out.lt; dsimp only; omega) _) (by have := XaDen_24.out.lt; dsimp only; omega) _) (by have := XaDen_24.out.lt; dsimp only; omega) _) cvaDen0, cellS (hFar (hFar (hFar XaDen_28 (by have := XaDen_24.out.lt; dsimp only; omega) _) (by have := XaDen_24.out.lt; dsimp only; omega) _) (by have := XaDen_24.out.lt; dsimp only; omega) _) cvaDen1⟩ | with_reducible exact ⟨cellS XaNum_27 cvaNum0, cellS XaNum_27 cvaNum1, cellS XaDen_27 cvaDen0, cellS XaDen_27 cvaDen1⟩ | with_reducible exact ⟨cellS (hAlloc XaNum_27 _) cvaNum0, cellS (hAlloc XaNum_27 _) cvaNum1, cellS (hAlloc XaDen_27 _) cvaDen0, cellS (hAlloc XaDen_27 _) cvaDen1⟩ | with_reducible exact ⟨cellS XaNum_26 cvaNum0, cellS XaNum_26 cvaNum1, cellS XaDen_26 cvaDen0, cellS XaDen_26 cvaDen1⟩ | with_reducible exact ⟨cellS (hAlloc XaNum_26 _) cvaNum0, cellS (hAlloc XaNum_26 _) cvaNum1, cellS (hAlloc XaDen_26 _) cvaDen0, cellS (hAlloc XaDen_26 _) cvaDen1⟩ | with_reducible exact ⟨cellS XaNum_25 cvaNum0, cellS XaNum_25 cvaNum1, cellS XaDen_25 cvaDen0, cellS XaDen_25 cvaDen1⟩ | with_reducible exact ⟨cellS (hAlloc XaNum_25 _) cvaNum0, cellS (hAlloc XaNum_25 _) cvaNum1, cellS (hAlloc XaDen_25 _) cvaDen0, cellS (hAlloc XaDen_25 _) cvaDen1⟩ | with_reducible exact ⟨cellS (hDrew (hAlloc XaNum_24 _)) cvaNum0, cellS (hDrew (hAlloc XaNum_24 _)) cvaNum1, cellS (hDrew (hAlloc XaDen_24 _)) cvaDen0, cellS (hDrew (hAlloc XaDen_24 _)) cvaDen1⟩) (first | (go_at_call 26; first | ((with_reducible refine (impl_ratMake a0g At5m len0m ct5m z0m a1g At6m len1m ct6m z1m _ (Inz0m.out.own Ot5m_27.out) (room_own Ot5m_27.out) (Inz1m.out.own Ot6m_27.out) (room_own Ot6m_27.out)).mono ?_); rintro e w20 ⟨r3_00, r3_01, v3_01, r3_02, v3_02, rfl, his, ho01, ho02, hap10, hb⟩; have BW28 := Lib.hid (BW27.out.trans (hb.mono BW27.out.size)); have sz28 : w19.heap.size ≤ w20.heap.size := Nat.le_trans (by simp) hb.size; have Ow0m_28 := Lib.hid (own_below Ow0m_27.out hb); have Ow0d_28 := Lib.hid (own_below Ow0d_27.out hb); have Og0m_28 := Lib.hid (own_below Og0m_27.out hb); have Og0d_28 := Lib.hid (own_below Og0d_27.out hb); have Ot5m_28 := Lib.hid (own_below Ot5m_27.out hb); have Ot6m_28 := Lib.hid (own_below Ot6m_27.out hb); have XaNum_28 := Lib.hid (XaNum_27.out.below hb XaNum_27.out.lt); have XaDen_28 := Lib.hid (XaDen_27.out.below hb XaDen_27.out.lt); have Xw0_28 := Lib.hid (Xw0_27.out.below hb Xw0_27.out.lt); have Xg0_28 := Lib.hid (Xg0_27.out.below hb Xg0_27.out.lt); (try (have NN_28 := Lib.hid (NN_27.out.below hb NN_27.out.lt))); clear hb; obtain ⟨rfl, rfl, rfl⟩ := ratMake_unique IS.out his; clear his; replace ho01 := ho01.2; rw [HN01.out] at ho01; replace ho02 := ho02.2; rw [HN02.out] at ho02; obtain ⟨Ah0m, ch0m, rfl⟩ := own_slice ho01; have Uh0m := Lib.hid (fun k (hk : (Value.slice Ah0m N01 ch0m).ownBlock = some k) => (ho01.lt k hk).2); have Oh0m_28 := Lib.hid ho01; clear ho01; obtain ⟨Ah0d, ch0d, rfl⟩ := own_slice ho02; have Uh0d := Lib.hid (fun k (hk : (Value.slice Ah0d N02 ch0d).ownBlock = some k) => (ho02.lt k hk).2); have Oh0d_28 := Lib.hid ho02; clear ho02; have APh0d_h0m := Lib.hid hap10; have APh0m_h0d := Lib.hid hap10.symm; clear hap10; clear Ot5m_28 Ut5m; clear Ot6m_28 Ut6m; (try (have eN0 := NN_28.out.cell 0; have eN1 := NN_28.out.cell 1; have eN2 := NN_28.out.cell 2; simp at eN0 eN1 eN2; have fN0 := NN_28.out.free 0; have fN1 := NN_28.out.free 1; have fN2 := NN_28.out.free 2))) | (replace Ow0m_27 := Lib.hid (Ow0m_27.out.alloc (.cells #[.bool false, .slice none 0 0, .slice none 0 0] 31)); replace Ow0d_27 := Lib.hid (Ow0d_27.out.alloc (.cells #[.bool false, .slice none 0 0, .slice none 0 0] 31)); replace Og0m_27 := Lib.hid (Og0m_27.out.alloc (.cells #[.bool false, .slice none 0 0, .slice none 0 0] 31)); replace Og0d_27 := Lib.hid (Og0d_27.out.alloc (.cells #[.bool false, .slice none 0 0, .slice none 0 0] 31)); replace Ot5m_27 := Lib.hid (Ot5m_27.out.alloc (.cells #[.bool false, .slice none 0 0, .slice none 0 0] 31)); replace Ot6m_27 := Lib.hid (Ot6m_27.out.alloc (.cells #[.bool false, .slice none 0 0, .slice none 0 0] 31)); replace XaNum_27 := Lib.hid (XaNum_27.out.alloc (.cells #[.bool false, .slice none 0 0, .slice none 0 0] 31)); replace XaDen_27 := Lib.hid (XaDen_27.out.alloc (.cells #[.bool false, .slice none 0 0, .slice none 0 0] 31)); replace Xw0_27 := Lib.hid (Xw0_27.out.alloc (.cells #[.bool false, .slice none 0 0, .slice none 0 0] 31)); replace Xg0_27 := Lib.hid (Xg0_27.out.alloc (.cells #[.bool false, .slice none 0 0, .slice none 0 0] 31)); replace BW27 := Lib.hid (BW27.out.alloc BW27.out.size (.cells #[.bool false, .slice none 0 0, .slice none 0 0] 31)); have NN_27 := Lib.hid (Box.new w19 31 #[.bool false, .slice none 0 0, .slice none 0 0]); (with_reducible refine (impl_ratMake a0g At5m len0m ct5m z0m a1g At6m len1m ct6m z1m _ (Inz0m.out.own Ot5m_27.out) (room_own Ot5m_27.out) (Inz1m.out.own Ot6m_27.out) (room_own Ot6m_27.out)).mono ?_); rintro e w20 ⟨r3_00, r3_01, v3_01, r3_02, v3_02, rfl, his, ho01, ho02, hap10, hb⟩; have BW28 := Lib.hid (BW27.out.trans (hb.mono BW27.out.size)); have sz28 : w19.heap.size ≤ w20.heap.size := Nat.le_trans (by simp) hb.size; have Ow0m_28 := Lib.hid (own_below Ow0m_27.out hb); have Ow0d_28 := Lib.hid (own_below Ow0d_27.out hb); have Og0m_28 := Lib.hid (own_below Og0m_27.out hb); have Og0d_28 := Lib.hid (own_below Og0d_27.out hb); have Ot5m_28 := Lib.hid (own_below Ot5m_27.out hb); have Ot6m_28 := Lib.hid (own_below Ot6m_27.out hb); have XaNum_28 := Lib.hid (XaNum_27.out.below hb XaNum_27.out.lt); have XaDen_28 := Lib.hid (XaDen_27.out.below hb XaDen_27.out.lt); have Xw0_28 := Lib.hid (Xw0_27.out.below hb Xw0_27.out.lt); have Xg0_28 := Lib.hid (Xg0_27.out.below hb Xg0_27.out.lt); (try (have NN_28 := Lib.hid (NN_27.out.below hb NN_27.out.lt))); clear hb; obtain ⟨rfl, rfl, rfl⟩ := ratMake_unique IS.out his; clear his; replace ho01 := ho01.2; rw [HN01.out] at ho01; replace ho02 := ho02.2; rw [HN02.out] at ho02; obtain ⟨Ah0m, ch0m, rfl⟩ := own_slice ho01; have Uh0m := Lib.hid (fun k (hk : (Value.slice Ah0m N01 ch0m).ownBlock = some k) => (ho01.lt k hk).2); have Oh0m_28 := Lib.hid ho01; clear ho01; obtain ⟨Ah0d, ch0d, rfl⟩ := own_slice ho02; have Uh0d := Lib.hid (fun k (hk : (Value.slice Ah0d N02 ch0d).ownBlock = some k) => (ho02.lt k hk).2); have Oh0d_28 := Lib.hid ho02; clear ho02; have APh0d_h0m := Lib.hid hap10; have APh0m_h0d := Lib.hid hap10.symm; clear hap10; clear Ot5m_28 Ut5m; clear Ot6m_28 Ut6m; (try (have eN0 := NN_28.out.cell 0; have eN1 := NN_28.out.cell 1; have eN2 := NN_28.out.cell 2; simp at eN0 eN1 eN2; have fN0 := NN_28.out.free 0; have fN1 := NN_28.out.free 1; have fN2 := NN_28.out.free 2)))) | (go_at_call 25; first | ((with_reducible refine (toBigInt_any a1g a1m len1m cap1m z1m _ Inz1m.out.len Inz1m.out.le (Inz1m.out.rd.below BW26.out)).mono ?_); rintro e w19 ⟨v0, rfl, ho0, hb⟩; have BW27 := Lib.hid (BW26.out.trans (hb.mono BW26.out.size)); have sz27 : w18.heap.size ≤ w19.heap.size := Nat.le_trans (by simp) hb.size; have Ow0m_27 := Lib.hid (own_below Ow0m_26.out hb); have Ow0d_27 := Lib.hid (own_below Ow0d_26.out hb); have Og0m_27 := Lib.hid (own_below Og0m_26.out hb); have Og0d_27 := Lib.hid (own_below Og0d_26.out hb); have Ot5m_27 := Lib.hid (own_below Ot5m_26.out hb); have XaNum_27 := Lib.hid (XaNum_26.out.below hb XaNum_26.out.lt); have XaDen_27 := Lib.hid (XaDen_26.out.below hb XaDen_26.out.lt); have Xw0_27 := Lib.hid (Xw0_26.out.below hb Xw0_26.out.lt); have Xg0_27 := Lib.hid (Xg0_26.out.below hb Xg0_26.out.lt); (try (have NN_27 := Lib.hid (NN_26.out.below hb NN_26.out.lt))); obtain ⟨At6m, ct6m, rfl⟩ := own_slice ho0; have Ut6m := Lib.hid (fun k (hk : (Value.slice At6m len1m ct6m).ownBlock = some k) => (ho0.lt k hk).2); have Ot6m_27 := Lib.hid ho0; clear ho0; clear hb) | (replace Ow0m_26 := Lib.hid (Ow0m_26.out.alloc (.cells #[.bool false, .slice none 0 0, .slice none 0 0] 31)); replace Ow0d_26 := Lib.hid (Ow0d_26.out.alloc (.cells #[.bool false, .slice none 0 0, .slice none 0 0] 31)); replace Og0m_26 := Lib.hid (Og0m_26.out.alloc (.cells #[.bool false, .slice none 0 0, .slice none 0 0] 31)); replace Og0d_26 := Lib.hid (Og0d_26.out.alloc (.cells #[.bool false, .slice none 0 0, .slice none 0 0] 31)); replace Ot5m_26 := Lib.hid (Ot5m_26.out.alloc (.cells #[.bool false, .slice none 0 0, .slice none 0 0] 31)); replace XaNum_26 := Lib.hid (XaNum_26.out.alloc (.cells #[.bool false, .slice none 0 0, .slice none 0 0] 31)); replace XaDen_26 := Lib.hid (XaDen_26.out.alloc (.cells #[.bool false, .slice none 0 0, .slice none 0 0] 31)); replace Xw0_26 := Lib.hid (Xw0_26.out.alloc (.cells #[.bool false, .slice none 0 0, .slice none 0 0] 31)); replace Xg0_26 := Lib.hid (Xg0_26.out.alloc (.cells #[.bool false, .slice none 0 0, .slice none 0 0] 31)); replace BW26 := Lib.hid (BW26.out.alloc BW26.out.size (.cells #[.bool false, .slice none 0 0, .slice none 0 0] 31)); have NN_26 := Lib.hid (Box.new w18 31 #[.bool false, .slice none 0 0, .slice none 0 0]); (with_reducible refine (toBigInt_any a1g a1m len1m cap1m z1m _ Inz1m.out.len Inz1m.out.le (Inz1m.out.rd.below BW26.out)).mono ?_); rintro e w19 ⟨v0, rfl, ho0, hb⟩; have BW27 := Lib.hid (BW26.out.trans (hb.mono BW26.out.size)); have sz27 : w18.heap.size ≤ w19.heap.size := Nat.le_trans (by simp) hb.size; have Ow0m_27 := Lib.hid (own_below Ow0m_26.out hb); have Ow0d_27 := Lib.hid (own_below Ow0d_26.out hb); have Og0m_27 := Lib.hid (own_below Og0m_26.out hb); have Og0d_27 := Lib.hid (own_below Og0d_26.out hb); have Ot5m_27 := Lib.hid (own_below Ot5m_26.out hb); have XaNum_27 := Lib.hid (XaNum_26.out.below hb XaNum_26.out.lt); have XaDen_27 := Lib.hid (XaDen_26.out.below hb XaDen_26.out.lt); have Xw0_27 := Lib.hid (Xw0_26.out.below hb Xw0_26.out.lt); have Xg0_27 := Lib.hid (Xg0_26.out.below hb Xg0_26.out.lt); (try (have NN_27 := Lib.hid (NN_26.out.below hb NN_26.out.lt))); obtain ⟨At6m, ct6m, rfl⟩ := own_slice ho0; have Ut6m := Lib.hid (fun k (hk : (Value.slice At6m len1m ct6m).ownBlock = some k) => (ho0.lt k hk).2); have Ot6m_27 := Lib.hid ho0; clear ho0; clear hb)) | (go_at_call 25; first | ((with_reducible refine (toBigInt_any a0g a0m len0m cap0m z0m _ Inz0m.out.len Inz0m.out.le (Inz0m.out.rd.below BW25.out)).mono ?_); rintro e w18 ⟨v0, rfl, ho0, hb⟩; have BW26 := Lib.hid (BW25.out.trans (hb.mono BW25.out.size)); have sz26 : w17.drew.heap.size ≤ w18.heap.size := Nat.le_trans (by simp) hb.size; have Ow0m_26 := Lib.hid (own_below Ow0m_25.out hb); have Ow0d_26 := Lib.hid (own_below Ow0d_25.out hb); have Og0m_26 := Lib.hid (own_below Og0m_25.out hb); have Og0d_26 := Lib.hid (own_below Og0d_25.out hb); have XaNum_26 := Lib.hid (XaNum_25.out.below hb XaNum_25.out.lt); have XaDen_26 := Lib.hid (XaDen_25.out.below hb XaDen_25.out.lt); have Xw0_26 := Lib.hid (Xw0_25.out.below hb Xw0_25.out.lt); have Xg0_26 := Lib.hid (Xg0_25.out.below hb Xg0_25.out.lt); (try (have NN_26 := Lib.hid (NN_25.out.below hb NN_25.out.lt))); obtain ⟨At5m, ct5m, rfl⟩ := own_slice ho0; have Ut5m := Lib.hid (fun k (hk : (Value.slice At5m len0m ct5m).ownBlock = some k) => (ho0.lt k hk).2); have Ot5m_26 := Lib.hid ho0; clear ho0; clear hb) | (replace Ow0m_25 := Lib.hid (own_drew (Ow0m_24.out.alloc (.cells #[.bool false, .slice none 0 0, .slice none 0 0] 31))); replace Ow0d_25 := Lib.hid (own_drew (Ow0d_24.out.alloc (.cells #[.bool false, .slice none 0 0, .slice none 0 0] 31))); replace Og0m_25 := Lib.hid (own_drew (Og0m_24.out.alloc (.cells #[.bool false, .slice none 0 0, .slice none 0 0] 31))); replace Og0d_25 := Lib.hid (own_drew (Og0d_24.out.alloc (.cells #[.bool false, .slice none 0 0, .slice none 0 0] 31))); replace XaNum_25 := Lib.hid (XaNum_24.out.alloc (.cells #[.bool false, .slice none 0 0, .slice none 0 0] 31)).drew; replace XaDen_25 := Lib.hid (XaDen_24.out.alloc (.cells #[.bool false, .slice none 0 0, .slice none 0 0] 31)).drew; replace Xw0_25 := Lib.hid (Xw0_24.out.alloc (.cells #[.bool false, .slice none 0 0, .slice none 0 0] 31)).drew; replace Xg0_25 := Lib.hid (Xg0_24.out.alloc (.cells #[.bool false, .slice none 0 0, .slice none 0 0] 31)).drew; replace BW25 := Lib.hid (BW24.out.alloc BW24.out.size (.cells #[.bool false, .slice none 0 0, .slice none 0 0] 31)).drew; have NN_25 := Lib.hid (Box.new w17 31 #[.bool false, .slice none 0 0, .slice none 0 0]).drew; (with_reducible refine (toBigInt_any a0g a0m len0m cap0m z0m _ Inz0m.out.len Inz0m.out.le (Inz0m.out.rd.below BW25.out)).mono ?_); rintro e w18 ⟨v0, rfl, ho0, hb⟩; have BW26 := Lib.hid (BW25.out.trans (hb.mono BW25.out.size)); have sz26 : w17.drew.heap.size ≤ w18.heap.size := Nat.le_trans (by simp) hb.size; have Ow0m_26 := Lib.hid (own_below Ow0m_25.out hb); have Ow0d_26 := Lib.hid (own_below Ow0d_25.out hb); have Og0m_26 := Lib.hid (own_below Og0m_25.out hb); have Og0d_26 := Lib.hid (own_below Og0d_25.out hb); have XaNum_26 := Lib.hid (XaNum_25.out.below hb XaNum_25.out.lt); have XaDen_26 := Lib.hid (XaDen_25.out.below hb XaDen_25.out.lt); have Xw0_26 := Lib.hid (Xw0_25.out.below hb Xw0_25.out.lt); have Xg0_26 := Lib.hid (Xg0_25.out.below hb Xg0_25.out.lt); (try (have NN_26 := Lib.hid (NN_25.out.below hb NN_25.out.lt))); obtain ⟨At5m, ct5m, rfl⟩ := own_slice ho0; have Ut5m := Lib.hid (fun k (hk : (Value.slice At5m len0m ct5m).ownBlock = some k) => (ho0.lt k hk).2); have Ot5m_26 := Lib.hid ho0; clear ho0; clear hb)))
    all_goals (go_wp2_with fail; go_meet; first | exact ⟨_, _, _, _, _, rfl, own_base (Oh0m_28.out.alloc _) (by first | omega | (simp; omega)), own_base (Oh0d_28.out.alloc _) (by first | omega | (simp; omega)), Box.new _ _ _, APh0d_h0m, BW28.out.alloc BW28.out.size _, (by simp; omega), Ow0m_28.out.alloc _, Ow0d_28.out.alloc _, Og0m_28.out.alloc _, Og0d_28.out.alloc _, XaNum_28.out.alloc _, XaDen_28.out.alloc _, Xw0_28.out.alloc _, Xg0_28.out.alloc _⟩ | exact ⟨_, _, _, _, _, rfl, own_base ((own_box (own_box (own_box Oh0m_28.out NN_28.out 0 _) (NN_28.out.set_ 0 _) 1 _) ((NN_28.out.set_ 0 _).set_ 1 _) 2 _)) (by first | omega | (simp; omega)), own_base ((own_box (own_box (own_box Oh0d_28.out NN_28.out 0 _) (NN_28.out.set_ 0 _) 1 _) ((NN_28.out.set_ 0 _).set_ 1 _) 2 _)) (by first | omega | (simp; omega)), (((NN_28.out.set_ 0 _).set_ 1 _).set_ 2 _), APh0d_h0m, (((BW28.out.setCell (by dsimp only; omega) _).setCell (by dsimp only; omega) _).setCell (by dsimp only; omega) _), (by simp; omega), (own_box (own_box (own_box Ow0m_28.out NN_28.out 0 _) (NN_28.out.set_ 0 _) 1 _) ((NN_28.out.set_ 0 _).set_ 1 _) 2 _), (own_box (own_box (own_box Ow0d_28.out NN_28.out 0 _) (NN_28.out.set_ 0 _) 1 _) ((NN_28.out.set_ 0 _).set_ 1 _) 2 _), (own_box (own_box (own_box Og0m_28.out NN_28.out 0 _) (NN_28.out.set_ 0 _) 1 _) ((NN_28.out.set_ 0 _).set_ 1 _) 2 _), (own_box (own_box (own_box Og0d_28.out NN_28.out 0 _) (NN_28.out.set_ 0 _) 1 _) ((NN_28.out.set_ 0 _).set_ 1 _) 2 _), (((XaNum_28.out.far (by have := XaNum_24.out.lt; dsimp only; omega) _).far (by have := XaNum_24.out.lt; dsimp only; omega) _).far (by have := XaNum_24.out.lt; dsimp only; omega) _), (((XaDen_28.out.far (by have := XaDen_24.out.lt; dsimp only; omega) _).far (by have := XaDen_24.out.lt; dsimp only; omega) _).far (by have := XaDen_24.out.lt; dsimp only; omega) _), (((Xw0_28.out.far (by have := Xw0_24.out.lt; dsimp only; omega) _).far (by have := Xw0_24.out.lt; dsimp only; omega) _).far (by have := Xw0_24.out.lt; dsimp only; omega) _), (((Xg0_28.out.far (by have := Xg0_24.out.lt; dsimp only; omega) _).far (by have := Xg0_24.out.lt; dsimp only; omega) _).far (by have := Xg0_24.out.lt; dsimp only; omega) _)⟩)
  obtain ⟨gb4, Ah0m, ch0m, Ah0d, ch0d, rfl, Oh0m_25, Oh0d_25, Xh0_25, APh0d_h0m, BW25, sz25, Ow0m_25, Ow0d_25, Og0m_25, Og0d_25, XaNum_25, XaDen_25, Xw0_25, Xg0_25⟩ := hcut
  obtain ⟨wc4, rfl⟩ : ∃ q, q = wc := ⟨_, rfl⟩
  have APh0m_h0d := Lib.hid APh0d_h0m.out.symm
  have Uh0m := Lib.hid (fun k (hk : (Value.slice Ah0m N01 ch0m).ownBlock = some k) => (Oh0m_25.out.lt k hk).2)
  have Uh0d := Lib.hid (fun k (hk : (Value.slice Ah0d N02 ch0d).ownBlock = some k) => (Oh0d_25.out.lt k hk).2)
  have eh00a : wc4.cell? ⟨gb4, 0, none⟩ = some (.bool r1_00) := Xh0_25.out.cell 0
  have eh01a : wc4.cell? ⟨gb4, 1, none⟩ = some (.slice Ah0m N01 ch0m) := Xh0_25.out.cell 1
  have eh02a : wc4.cell? ⟨gb4, 2, none⟩ = some (.slice Ah0d N02 ch0d) := Xh0_25.out.cell 2
  have ew00a : wc4.cell? ⟨gb1, 0, none⟩ = some (.bool r1_00) := Xw0_25.out.cell 0
  have ew01a : wc4.cell? ⟨gb1, 1, none⟩ = some (.slice Aw0m N01 cw0m) := Xw0_25.out.cell 1
  have ew02a : wc4.cell? ⟨gb1, 2, none⟩ = some (.slice Aw0d N02 cw0d) := Xw0_25.out.cell 2
  go_wp2_with fail
  clear eh00a eh01a eh02a ew00a ew01a ew02a
  refine (eqRat_same r1_00 Ah0m Aw0m N01 ch0m cw0m r1_01 Ah0d Aw0d N02 ch0d cw0d r1_02 _ HN01.out (by unfold maxLen; omega) (Reads.of_own Oh0m_25.out) (Reads.of_own Ow0m_25.out) HN02.out (by unfold maxLen; omega) (Reads.of_own Oh0d_25.out) (Reads.of_own Ow0d_25.out)).mono ?_
  rintro e w21 ⟨rfl, hb⟩
  have BW26 := Lib.hid (BW25.out.trans (hb.mono BW25.out.size))
  have sz26 : wc4.heap.size ≤ w21.heap.size := hb.size
  have Ow0m_26 := Lib.hid (own_below Ow0m_25.out hb)
  have Ow0d_26 := Lib.hid (own_below Ow0d_25.out hb)
  have Og0m_26 := Lib.hid (own_below Og0m_25.out hb)
  have Og0d_26 := Lib.hid (own_below Og0d_25.out hb)
  have Oh0m_26 := Lib.hid (own_below Oh0m_25.out hb)
  have Oh0d_26 := Lib.hid (own_below Oh0d_25.out hb)
  have XaNum_26 := Lib.hid (XaNum_25.out.below hb XaNum_25.out.lt)
  have XaDen_26 := Lib.hid (XaDen_25.out.below hb XaDen_25.out.lt)
  have Xw0_26 := Lib.hid (Xw0_25.out.below hb Xw0_25.out.lt)
  have Xg0_26 := Lib.hid (Xg0_25.out.below hb Xg0_25.out.lt)
  have Xh0_26 := Lib.hid (Xh0_25.out.below hb Xh0_25.out.lt)
  clear hb
  clear Ow0m_26 Uw0m Ow0d_26 Uw0d Xw0_26
  clear Oh0m_26 Uh0m Oh0d_26 Uh0d Xh0_26
  have eg00a : w21.cell? ⟨w6.heap.size, 0, none⟩ = some (.bool r1_00) := Xg0_26.out.cell 0
  have eg01a : w21.cell? ⟨w6.heap.size, 1, none⟩ = some (.slice Ag0m N01 cg0m) := Xg0_26.out.cell 1
  have eg02a : w21.cell? ⟨w6.heap.size, 2, none⟩ = some (.slice Ag0d N02 cg0d) := Xg0_26.out.cell 2
  go_wp2_with fail
  clear eg00a eg01a eg02a
  refine (heldRat_same r1_00 Ag0m N01 cg0m Ag0d N02 cg0d (1) _ (by unfold maxLen; omega) (Reads.of_own Og0m_26.out) (Reads.of_own Og0d_26.out)).mono ?_
  rintro e w22 ⟨rfl, hb⟩
  have BW27 := Lib.hid (BW26.out.trans (hb.mono BW26.out.size))
  have sz27 : w21.heap.size ≤ w22.heap.size := hb.size
  have Og0m_27 := Lib.hid (own_below Og0m_26.out hb)
  have Og0d_27 := Lib.hid (own_below Og0d_26.out hb)
  have XaNum_27 := Lib.hid (XaNum_26.out.below hb XaNum_26.out.lt)
  have XaDen_27 := Lib.hid (XaDen_26.out.below hb XaDen_26.out.lt)
  have Xg0_27 := Lib.hid (Xg0_26.out.below hb Xg0_26.out.lt)
  clear hb
  clear Og0m_27 Ug0m Og0d_27 Ug0d Xg0_27
  go_wp2_with fail
  go_ret
  exact ⟨rfl, BW27.out⟩
end Go.Proofs.Ytbfanjalinkmhaa.fnExactRatMake
