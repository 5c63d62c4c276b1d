/- For all arguments the law FnExactBigIntMul returns true: the program's BigIntMul answers as the model's; no condition on them. -/
import Derived.Test.YtjjbgpgpacopjaaBigLaw
import Derived.Test.YtjjbgpgpacopjaaBigI3
import Derived.ProofKit
import Derived.OpenShut
import Derived.ShutString
import Derived.Lib.SmallJoins
namespace Go.Proofs.Ytjjbgpgpacopjaa.fnExactBigIntMul
open Go.ChangeShapes Go.WideShapes Go.ChangeAt Go.RowKit Go.Joins Go.Deep
open Go.ChangeMaps (open_string shut_string)

set_option maxRecDepth 100000 in
set_option maxHeartbeats 3200000 in
theorem walk {w : World} (a0g : Bool) (a0m : Option Addr) (len0m cap0m : Nat) (z0m : List Int) (hz0m : IsInts w a0m len0m z0m) (a1g : Bool) (a1m : Option Addr) (len1m cap1m : Nat) (z1m : List Int) (hz1m : IsInts w a1m len1m z1m) :
    Calls Try.prog 9 #[.agg #[.bool a0g, .slice a0m len0m cap0m], .agg #[.bool a1g, .slice a1m len1m cap1m]] w fun e w' => e = .returned (.bool true) ∧ Below w.heap.size w w' := by
  have hmz0m : len0m ≤ maxLen := hz0m.2.1
  have Hz0m := Lib.hid hz0m
  clear hz0m
  have hmz1m : len1m ≤ maxLen := hz1m.2.1
  have Hz1m := Lib.hid hz1m
  clear hz1m
  unfold maxLen at hmz0m hmz1m
  have BW0 : Hid (Below w.heap.size w w) := Below.refl _ _
  have BW1 := Lib.hid (BW0.out.alloc BW0.out.size (.cells #[.bool a0g, .slice a0m len0m cap0m] 24))
  have XaX_1 := Lib.hid (by have := Box.new w 24 #[.bool a0g, .slice a0m len0m cap0m]; simpa using this : Box (w.alloc (.cells #[.bool a0g, .slice a0m len0m cap0m] 24)) (w.heap.size) 24 #[.bool a0g, .slice a0m len0m cap0m])
  have sz1 : w.heap.size ≤ (w.alloc (.cells #[.bool a0g, .slice a0m len0m cap0m] 24)).heap.size := (by simp)
  have BW2 := Lib.hid (BW1.out.alloc BW1.out.size (.cells #[.bool a1g, .slice a1m len1m cap1m] 24))
  have XaX_2 := Lib.hid (XaX_1.out.alloc (.cells #[.bool a1g, .slice a1m len1m cap1m] 24))
  have XaY_2 := Lib.hid (by have := Box.new (w.alloc (.cells #[.bool a0g, .slice a0m len0m cap0m] 24)) 24 #[.bool a1g, .slice a1m len1m cap1m]; simpa using this : Box ((w.alloc (.cells #[.bool a0g, .slice a0m len0m cap0m] 24)).alloc (.cells #[.bool a1g, .slice a1m len1m cap1m] 24)) (w.heap.size + 1) 24 #[.bool a1g, .slice a1m len1m cap1m])
  have sz2 : (w.alloc (.cells #[.bool a0g, .slice a0m len0m cap0m] 24)).heap.size ≤ ((w.alloc (.cells #[.bool a0g, .slice a0m len0m cap0m] 24)).alloc (.cells #[.bool a1g, .slice a1m len1m cap1m] 24)).heap.size := (by simp)
  by_cases bigs0 : (1048576 : Int) - (len0m : Int) < 0
  · go_enter Try.func9, Try.ntmps9
    go_wp2_with fail
    refine (szBigInt_neg a0g a0m len0m cap0m ((1048576 : Int)) _ (by omega) (by omega) (by unfold maxLen; omega) (by omega)).mono ?_
    rintro e ws0 ⟨rfl, hb⟩
    have BW3 := Lib.hid (BW2.out.trans (hb.mono BW2.out.size))
    have sz3 : ((w.alloc (.cells #[.bool a0g, .slice a0m len0m cap0m] 24)).alloc (.cells #[.bool a1g, .slice a1m len1m cap1m] 24)).heap.size ≤ ws0.heap.size := hb.size
    have XaX_3 := Lib.hid (XaX_2.out.below hb XaX_2.out.lt)
    have XaY_3 := Lib.hid (XaY_2.out.below hb XaY_2.out.lt)
    clear hb
    go_wp2_with fail
    go_ret
    exact ⟨rfl, BW3.out⟩
  by_cases bigs1 : (1048576 : Int) - (len0m : Int) - (len1m : Int) < 0
  · go_enter Try.func9, Try.ntmps9
    go_wp2_with fail
    refine (szBigInt_pos a0g a0m len0m cap0m ((1048576 : Int)) _ (by omega) (by omega)  (by omega)).mono ?_
    rintro e ws0 ⟨rfl, hb⟩
    have BW3 := Lib.hid (BW2.out.trans (hb.mono BW2.out.size))
    have sz3 : ((w.alloc (.cells #[.bool a0g, .slice a0m len0m cap0m] 24)).alloc (.cells #[.bool a1g, .slice a1m len1m cap1m] 24)).heap.size ≤ ws0.heap.size := hb.size
    have XaX_3 := Lib.hid (XaX_2.out.below hb XaX_2.out.lt)
    have XaY_3 := Lib.hid (XaY_2.out.below hb XaY_2.out.lt)
    clear hb
    have eaY0a : ws0.cell? ⟨w.heap.size + 1, 0, none⟩ = some (.bool a1g) := XaY_3.out.cell 0
    have eaY1a : ws0.cell? ⟨w.heap.size + 1, 1, none⟩ = some (.slice a1m len1m cap1m) := XaY_3.out.cell 1
    go_wp2_with fail
    clear eaY0a eaY1a
    refine (szBigInt_neg a1g a1m len1m cap1m ((1048576 : Int) - (len0m : Int)) _ (by omega) (by omega) (by unfold maxLen; omega) (by omega)).mono ?_
    rintro e ws1 ⟨rfl, hb⟩
    have BW4 := Lib.hid (BW3.out.trans (hb.mono BW3.out.size))
    have sz4 : ws0.heap.size ≤ ws1.heap.size := hb.size
    have XaX_4 := Lib.hid (XaX_3.out.below hb XaX_3.out.lt)
    have XaY_4 := Lib.hid (XaY_3.out.below hb XaY_3.out.lt)
    clear hb
    go_wp2_with fail
    go_ret
    exact ⟨rfl, BW4.out⟩
  have Inz0m : Hid (InI w a0m len0m z0m) := ⟨Hz0m.out.1, by omega, Hz0m.out.2.2.1, Hz0m.out.2.2.2⟩
  have Inz1m : Hid (InI w a1m len1m z1m) := ⟨Hz1m.out.1, by omega, Hz1m.out.2.2.1, Hz1m.out.2.2.2⟩
  go_enter Try.func9, Try.ntmps9
  go_wp2_with fail
  refine (szBigInt_pos a0g a0m len0m cap0m ((1048576 : Int)) _ (by omega) (by omega)  (by omega)).mono ?_
  rintro e ws0 ⟨rfl, hb⟩
  have BW3 := Lib.hid (BW2.out.trans (hb.mono BW2.out.size))
  have sz3 : ((w.alloc (.cells #[.bool a0g, .slice a0m len0m cap0m] 24)).alloc (.cells #[.bool a1g, .slice a1m len1m cap1m] 24)).heap.size ≤ ws0.heap.size := hb.size
  have XaX_3 := Lib.hid (XaX_2.out.below hb XaX_2.out.lt)
  have XaY_3 := Lib.hid (XaY_2.out.below hb XaY_2.out.lt)
  clear hb
  have eaY0a : ws0.cell? ⟨w.heap.size + 1, 0, none⟩ = some (.bool a1g) := XaY_3.out.cell 0
  have eaY1a : ws0.cell? ⟨w.heap.size + 1, 1, none⟩ = some (.slice a1m len1m cap1m) := XaY_3.out.cell 1
  go_wp2_with fail
  clear eaY0a eaY1a
  refine (szBigInt_pos a1g a1m len1m cap1m ((1048576 : Int) - (len0m : Int)) _ (by omega) (by omega)  (by omega)).mono ?_
  rintro e ws1 ⟨rfl, hb⟩
  have BW4 := Lib.hid (BW3.out.trans (hb.mono BW3.out.size))
  have sz4 : ws0.heap.size ≤ ws1.heap.size := hb.size
  have XaX_4 := Lib.hid (XaX_3.out.below hb XaX_3.out.lt)
  have XaY_4 := Lib.hid (XaY_3.out.below hb XaY_3.out.lt)
  clear hb
  go_upto_region 8 with fail
  go_cut [6] (fun s6 wx => ∃ (gb : Nat) (r1_00 : Bool) (r1_01 : List Int) (N01 : Nat) (Aw0m : Option Addr) (cw0m : Nat), s6 = .pointer (some ⟨gb, 0, none⟩) ∧ Hid (BigIntMulIs a0g z0m a1g z1m r1_00 r1_01) ∧ Hid (r1_01.length = N01) ∧ N01 ≤ 4194304 ∧ Hid (wx.ownsRow ws1.heap.size 3 1 (.slice Aw0m N01 cw0m) N01 (r1_01.map (.int .i64))) ∧ Hid (Box wx gb 27 #[.bool r1_00, .slice Aw0m N01 cw0m]) ∧ Hid (Below w.heap.size w wx) ∧ ws1.heap.size ≤ wx.heap.size ∧ Hid (Box wx (w.heap.size) 24 #[.bool a0g, .slice a0m len0m cap0m]) ∧ Hid (Box wx (w.heap.size + 1) 24 #[.bool a1g, .slice a1m len1m cap1m]))
  case first =>
    have BW5 := Lib.hid BW4.out.drew
    have sz5 : ws1.heap.size ≤ ws1.drew.heap.size := Nat.le_refl _
    have XaX_5 := Lib.hid XaX_4.out.drew
    have XaY_5 := Lib.hid XaY_4.out.drew
    go_region_held3 (fun w' => w'.cell? ⟨w.heap.size, 0, none⟩ = some (.bool a0g) ∧ w'.cell? ⟨w.heap.size, 1, none⟩ = some (.slice a0m len0m cap0m) ∧ w'.cell? ⟨w.heap.size + 1, 0, none⟩ = some (.bool a1g) ∧ w'.cell? ⟨w.heap.size + 1, 1, none⟩ = some (.slice a1m len1m cap1m)) (first | exact ⟨XaX_5.out.cell 0, XaX_5.out.cell 1, XaY_5.out.cell 0, XaY_5.out.cell 1⟩ | exact ⟨XaX_6.out.cell 0, XaX_6.out.cell 1, XaY_6.out.cell 0, XaY_6.out.cell 1⟩ | exact ⟨XaX_7.out.cell 0, XaX_7.out.cell 1, XaY_7.out.cell 0, XaY_7.out.cell 1⟩ | exact ⟨XaX_8.out.cell 0, XaX_8.out.cell 1, XaY_8.out.cell 0, XaY_8.out.cell 1⟩ | exact ⟨(XaX_5.out.alloc _).cell 0, (XaX_5.out.alloc _).cell 1, (XaY_5.out.alloc _).cell 0, (XaY_5.out.alloc _).cell 1⟩ | exact ⟨(XaX_6.out.alloc _).cell 0, (XaX_6.out.alloc _).cell 1, (XaY_6.out.alloc _).cell 0, (XaY_6.out.alloc _).cell 1⟩ | exact ⟨(XaX_7.out.alloc _).cell 0, (XaX_7.out.alloc _).cell 1, (XaY_7.out.alloc _).cell 0, (XaY_7.out.alloc _).cell 1⟩ | exact ⟨(XaX_8.out.alloc _).cell 0, (XaX_8.out.alloc _).cell 1, (XaY_8.out.alloc _).cell 0, (XaY_8.out.alloc _).cell 1⟩ | exact ⟨((XaX_8.out.far (by have := XaX_4.out.lt; dsimp only; omega) _).far (by have := XaX_4.out.lt; dsimp only; omega) _).cell 0, ((XaX_8.out.far (by have := XaX_4.out.lt; dsimp only; omega) _).far (by have := XaX_4.out.lt; dsimp only; omega) _).cell 1, ((XaY_8.out.far (by have := XaY_4.out.lt; dsimp only; omega) _).far (by have := XaY_4.out.lt; dsimp only; omega) _).cell 0, ((XaY_8.out.far (by have := XaY_4.out.lt; dsimp only; omega) _).far (by have := XaY_4.out.lt; dsimp only; omega) _).cell 1⟩) (first | (go_at_call 15; first | ((with_reducible refine (toBigInt_any a0g a0m len0m cap0m z0m _ Inz0m.out.len Inz0m.out.le (Inz0m.out.rd.below BW5.out)).mono ?_); rintro e w1 ⟨v0, rfl, ho0, hb⟩; have BW6 := Lib.hid (BW5.out.trans (hb.mono BW5.out.size)); have sz6 : ws1.drew.heap.size ≤ w1.heap.size := Nat.le_trans (by simp) hb.size; have XaX_6 := Lib.hid (XaX_5.out.below hb XaX_5.out.lt); have XaY_6 := Lib.hid (XaY_5.out.below hb XaY_5.out.lt); (try (have NN_6 := Lib.hid (NN_5.out.below hb NN_5.out.lt))); obtain ⟨At1m, ct1m, rfl⟩ := own_slice ho0; have Ut1m := Lib.hid (fun k (hk : (Value.slice At1m len0m ct1m).ownBlock = some k) => (ho0.lt k hk).2); have Ot1m_6 := Lib.hid ho0; clear ho0; clear hb) | (replace XaX_5 := Lib.hid (XaX_4.out.alloc (.cells #[.bool false, .slice none 0 0] 27)).drew; replace XaY_5 := Lib.hid (XaY_4.out.alloc (.cells #[.bool false, .slice none 0 0] 27)).drew; replace BW5 := Lib.hid (BW4.out.alloc BW4.out.size (.cells #[.bool false, .slice none 0 0] 27)).drew; have NN_5 := Lib.hid (Box.new ws1 27 #[.bool false, .slice none 0 0]).drew; (with_reducible refine (toBigInt_any a0g a0m len0m cap0m z0m _ Inz0m.out.len Inz0m.out.le (Inz0m.out.rd.below BW5.out)).mono ?_); rintro e w1 ⟨v0, rfl, ho0, hb⟩; have BW6 := Lib.hid (BW5.out.trans (hb.mono BW5.out.size)); have sz6 : ws1.drew.heap.size ≤ w1.heap.size := Nat.le_trans (by simp) hb.size; have XaX_6 := Lib.hid (XaX_5.out.below hb XaX_5.out.lt); have XaY_6 := Lib.hid (XaY_5.out.below hb XaY_5.out.lt); (try (have NN_6 := Lib.hid (NN_5.out.below hb NN_5.out.lt))); obtain ⟨At1m, ct1m, rfl⟩ := own_slice ho0; have Ut1m := Lib.hid (fun k (hk : (Value.slice At1m len0m ct1m).ownBlock = some k) => (ho0.lt k hk).2); have Ot1m_6 := Lib.hid ho0; clear ho0; clear hb)) | (go_at_call 15; first | ((with_reducible refine (toBigInt_any a1g a1m len1m cap1m z1m _ Inz1m.out.len Inz1m.out.le (Inz1m.out.rd.below BW6.out)).mono ?_); rintro e w2 ⟨v0, rfl, ho0, hb⟩; have BW7 := Lib.hid (BW6.out.trans (hb.mono BW6.out.size)); have sz7 : w1.heap.size ≤ w2.heap.size := Nat.le_trans (by simp) hb.size; have Ot1m_7 := Lib.hid (own_below Ot1m_6.out hb); have XaX_7 := Lib.hid (XaX_6.out.below hb XaX_6.out.lt); have XaY_7 := Lib.hid (XaY_6.out.below hb XaY_6.out.lt); (try (have NN_7 := Lib.hid (NN_6.out.below hb NN_6.out.lt))); obtain ⟨At2m, ct2m, rfl⟩ := own_slice ho0; have Ut2m := Lib.hid (fun k (hk : (Value.slice At2m len1m ct2m).ownBlock = some k) => (ho0.lt k hk).2); have Ot2m_7 := Lib.hid ho0; clear ho0; clear hb) | (replace Ot1m_6 := Lib.hid (Ot1m_6.out.alloc (.cells #[.bool false, .slice none 0 0] 27)); replace XaX_6 := Lib.hid (XaX_6.out.alloc (.cells #[.bool false, .slice none 0 0] 27)); replace XaY_6 := Lib.hid (XaY_6.out.alloc (.cells #[.bool false, .slice none 0 0] 27)); replace BW6 := Lib.hid (BW6.out.alloc BW6.out.size (.cells #[.bool false, .slice none 0 0] 27)); have NN_6 := Lib.hid (Box.new w1 27 #[.bool false, .slice none 0 0]); (with_reducible refine (toBigInt_any a1g a1m len1m cap1m z1m _ Inz1m.out.len Inz1m.out.le (Inz1m.out.rd.below BW6.out)).mono ?_); rintro e w2 ⟨v0, rfl, ho0, hb⟩; have BW7 := Lib.hid (BW6.out.trans (hb.mono BW6.out.size)); have sz7 : w1.heap.size ≤ w2.heap.size := Nat.le_trans (by simp) hb.size; have Ot1m_7 := Lib.hid (own_below Ot1m_6.out hb); have XaX_7 := Lib.hid (XaX_6.out.below hb XaX_6.out.lt); have XaY_7 := Lib.hid (XaY_6.out.below hb XaY_6.out.lt); (try (have NN_7 := Lib.hid (NN_6.out.below hb NN_6.out.lt))); obtain ⟨At2m, ct2m, rfl⟩ := own_slice ho0; have Ut2m := Lib.hid (fun k (hk : (Value.slice At2m len1m ct2m).ownBlock = some k) => (ho0.lt k hk).2); have Ot2m_7 := Lib.hid ho0; clear ho0; clear hb)) | (go_at_call 30; first | (refine (spec_bigIntMul a0g At1m len0m ct1m z0m a1g At2m len1m ct2m z1m _ (Inz0m.out.own Ot1m_7.out) (room_own Ot1m_7.out) (Inz1m.out.own Ot2m_7.out) (room_own Ot2m_7.out)).mono ?_; rintro e w3 ⟨r1_00, r1_01, v1_01, rfl, his, ho01, hb⟩; have BW8 := Lib.hid (BW7.out.trans (hb.mono BW7.out.size)); have sz8 : w2.heap.size ≤ w3.heap.size := Nat.le_trans (by simp) hb.size; have Ot1m_8 := Lib.hid (own_below Ot1m_7.out hb); have Ot2m_8 := Lib.hid (own_below Ot2m_7.out hb); have XaX_8 := Lib.hid (XaX_7.out.below hb XaX_7.out.lt); have XaY_8 := Lib.hid (XaY_7.out.below hb XaY_7.out.lt); (try (have NN_8 := Lib.hid (NN_7.out.below hb NN_7.out.lt))); clear hb; have IS := Lib.hid his; clear his; obtain ⟨hl, ho01⟩ := ho01; obtain ⟨N01, hN⟩ : ∃ N, N = r1_01.length := ⟨_, rfl⟩; rw [← hN] at hl ho01; have HN01 := Lib.hid hN.symm; have hl01 := hl; clear hN hl; obtain ⟨Aw0m, cw0m, rfl⟩ := own_slice ho01; have Uw0m := Lib.hid (fun k (hk : (Value.slice Aw0m N01 cw0m).ownBlock = some k) => (ho01.lt k hk).2); have Ow0m_8 := Lib.hid ho01; clear ho01; clear Ot1m_8 Ut1m; clear Ot2m_8 Ut2m; (try (have eN0 := NN_8.out.cell 0; have eN1 := NN_8.out.cell 1; simp at eN0 eN1; have fN0 := NN_8.out.free 0; have fN1 := NN_8.out.free 1))) | (replace Ot1m_7 := Lib.hid (Ot1m_7.out.alloc (.cells #[.bool false, .slice none 0 0] 27)); replace Ot2m_7 := Lib.hid (Ot2m_7.out.alloc (.cells #[.bool false, .slice none 0 0] 27)); replace XaX_7 := Lib.hid (XaX_7.out.alloc (.cells #[.bool false, .slice none 0 0] 27)); replace XaY_7 := Lib.hid (XaY_7.out.alloc (.cells #[.bool false, .slice none 0 0] 27)); replace BW7 := Lib.hid (BW7.out.alloc BW7.out.size (.cells #[.bool false, .slice none 0 0] 27)); have NN_7 := Lib.hid (Box.new w2 27 #[.bool false, .slice none 0 0]); refine (spec_bigIntMul a0g At1m len0m ct1m z0m a1g At2m len1m ct2m z1m _ (Inz0m.out.own Ot1m_7.out) (room_own Ot1m_7.out) (Inz1m.out.own Ot2m_7.out) (room_own Ot2m_7.out)).mono ?_; rintro e w3 ⟨r1_00, r1_01, v1_01, rfl, his, ho01, hb⟩; have BW8 := Lib.hid (BW7.out.trans (hb.mono BW7.out.size)); have sz8 : w2.heap.size ≤ w3.heap.size := Nat.le_trans (by simp) hb.size; have Ot1m_8 := Lib.hid (own_below Ot1m_7.out hb); have Ot2m_8 := Lib.hid (own_below Ot2m_7.out hb); have XaX_8 := Lib.hid (XaX_7.out.below hb XaX_7.out.lt); have XaY_8 := Lib.hid (XaY_7.out.below hb XaY_7.out.lt); (try (have NN_8 := Lib.hid (NN_7.out.below hb NN_7.out.lt))); clear hb; have IS := Lib.hid his; clear his; obtain ⟨hl, ho01⟩ := ho01; obtain ⟨N01, hN⟩ : ∃ N, N = r1_01.length := ⟨_, rfl⟩; rw [← hN] at hl ho01; have HN01 := Lib.hid hN.symm; have hl01 := hl; clear hN hl; obtain ⟨Aw0m, cw0m, rfl⟩ := own_slice ho01; have Uw0m := Lib.hid (fun k (hk : (Value.slice Aw0m N01 cw0m).ownBlock = some k) => (ho01.lt k hk).2); have Ow0m_8 := Lib.hid ho01; clear ho01; clear Ot1m_8 Ut1m; clear Ot2m_8 Ut2m; (try (have eN0 := NN_8.out.cell 0; have eN1 := NN_8.out.cell 1; simp at eN0 eN1; have fN0 := NN_8.out.free 0; have fN1 := NN_8.out.free 1)))))
    all_goals (go_wp2_with fail; go_meet; first | exact ⟨_, r1_00, r1_01, N01, _, _, rfl, IS, HN01, hl01, own_base (Ow0m_8.out.alloc _) (by first | omega | (simp; omega)), Box.new _ _ _, BW8.out.alloc BW8.out.size _, (by simp; omega), XaX_8.out.alloc _, XaY_8.out.alloc _⟩ | exact ⟨_, r1_00, r1_01, N01, _, _, rfl, IS, HN01, hl01, own_base ((own_box (own_box Ow0m_8.out NN_8.out 0 _) (NN_8.out.set_ 0 _) 1 _)) (by first | omega | (simp; omega)), ((NN_8.out.set_ 0 _).set_ 1 _), ((BW8.out.setCell (by dsimp only; omega) _).setCell (by dsimp only; omega) _), (by simp; omega), ((XaX_8.out.far (by have := XaX_4.out.lt; dsimp only; omega) _).far (by have := XaX_4.out.lt; dsimp only; omega) _), ((XaY_8.out.far (by have := XaY_4.out.lt; dsimp only; omega) _).far (by have := XaY_4.out.lt; dsimp only; omega) _)⟩)
  obtain ⟨gb1, r1_00, r1_01, N01, Aw0m, cw0m, rfl, IS, HN01, hl01, Ow0m_5, Xw0_5, BW5, sz5, XaX_5, XaY_5⟩ := hcut
  obtain ⟨wc1, rfl⟩ : ∃ q, q = wc := ⟨_, rfl⟩
  have Uw0m := Lib.hid (fun k (hk : (Value.slice Aw0m N01 cw0m).ownBlock = some k) => (Ow0m_5.out.lt k hk).2)
  have eaX0a : wc1.cell? ⟨w.heap.size, 0, none⟩ = some (.bool a0g) := XaX_5.out.cell 0
  have eaX1a : wc1.cell? ⟨w.heap.size, 1, none⟩ = some (.slice a0m len0m cap0m) := XaX_5.out.cell 1
  go_wp2_with fail
  clear eaX0a eaX1a
  refine (toBigInt_any a0g a0m len0m cap0m z0m _ Inz0m.out.len Inz0m.out.le (Inz0m.out.rd.below BW5.out)).mono ?_
  rintro e w4 ⟨v0, rfl, ho0, hb⟩
  have BW6 := Lib.hid (BW5.out.trans (hb.mono BW5.out.size))
  have sz6 : wc1.heap.size ≤ w4.heap.size := hb.size
  have Ow0m_6 := Lib.hid (own_below Ow0m_5.out hb)
  have XaX_6 := Lib.hid (XaX_5.out.below hb XaX_5.out.lt)
  have XaY_6 := Lib.hid (XaY_5.out.below hb XaY_5.out.lt)
  have Xw0_6 := Lib.hid (Xw0_5.out.below hb Xw0_5.out.lt)
  obtain ⟨Ax0m, cx0m, rfl⟩ := own_slice ho0
  have Ux0m := Lib.hid (fun k (hk : (Value.slice Ax0m len0m cx0m).ownBlock = some k) => (ho0.lt k hk).2)
  have Ox0m_6 := Lib.hid ho0
  clear ho0
  clear hb
  have BW7 := Lib.hid (BW6.out.alloc BW6.out.size (.cells #[.bool a0g, .slice Ax0m len0m cx0m] 27))
  have sz7 : w4.heap.size ≤ (w4.alloc (.cells #[.bool a0g, .slice Ax0m len0m cx0m] 27)).heap.size := (by simp)
  have Ow0m_7 := Lib.hid (Ow0m_6.out.alloc (.cells #[.bool a0g, .slice Ax0m len0m cx0m] 27))
  have Ox0m_7 := Lib.hid (Ox0m_6.out.alloc (.cells #[.bool a0g, .slice Ax0m len0m cx0m] 27))
  have XaX_7 := Lib.hid (XaX_6.out.alloc (.cells #[.bool a0g, .slice Ax0m len0m cx0m] 27))
  have XaY_7 := Lib.hid (XaY_6.out.alloc (.cells #[.bool a0g, .slice Ax0m len0m cx0m] 27))
  have Xw0_7 := Lib.hid (Xw0_6.out.alloc (.cells #[.bool a0g, .slice Ax0m len0m cx0m] 27))
  have Xx0_7 := Lib.hid (Box.new w4 27 #[.bool a0g, .slice Ax0m len0m cx0m])
  have eaY0a : w4.cell? ⟨w.heap.size + 1, 0, none⟩ = some (.bool a1g) := XaY_6.out.cell 0
  have eaY1a : w4.cell? ⟨w.heap.size + 1, 1, none⟩ = some (.slice a1m len1m cap1m) := XaY_6.out.cell 1
  have eaY0b : (w4.alloc (.cells #[.bool a0g, .slice Ax0m len0m cx0m] 27)).cell? ⟨w.heap.size + 1, 0, none⟩ = some (.bool a1g) := XaY_7.out.cell 0
  have eaY1b : (w4.alloc (.cells #[.bool a0g, .slice Ax0m len0m cx0m] 27)).cell? ⟨w.heap.size + 1, 1, none⟩ = some (.slice a1m len1m cap1m) := XaY_7.out.cell 1
  have neaY0 : w4.heap.size ≠ w.heap.size + 1 := (by have := XaY_6.out.lt; omega)
  go_wp2_with fail
  clear eaY0a eaY1a eaY0b eaY1b neaY0
  refine (toBigInt_any a1g a1m len1m cap1m z1m _ Inz1m.out.len Inz1m.out.le (Inz1m.out.rd.below BW7.out)).mono ?_
  rintro e w5 ⟨v0, rfl, ho0, hb⟩
  have BW8 := Lib.hid (BW7.out.trans (hb.mono BW7.out.size))
  have sz8 : (w4.alloc (.cells #[.bool a0g, .slice Ax0m len0m cx0m] 27)).heap.size ≤ w5.heap.size := hb.size
  have Ow0m_8 := Lib.hid (own_below Ow0m_7.out hb)
  have Ox0m_8 := Lib.hid (own_below Ox0m_7.out hb)
  have XaX_8 := Lib.hid (XaX_7.out.below hb XaX_7.out.lt)
  have XaY_8 := Lib.hid (XaY_7.out.below hb XaY_7.out.lt)
  have Xw0_8 := Lib.hid (Xw0_7.out.below hb Xw0_7.out.lt)
  have Xx0_8 := Lib.hid (Xx0_7.out.below hb Xx0_7.out.lt)
  obtain ⟨Ax1m, cx1m, rfl⟩ := own_slice ho0
  have Ux1m := Lib.hid (fun k (hk : (Value.slice Ax1m len1m cx1m).ownBlock = some k) => (ho0.lt k hk).2)
  have Ox1m_8 := Lib.hid ho0
  clear ho0
  clear hb
  have BW9 := Lib.hid (BW8.out.alloc BW8.out.size (.cells #[.bool a1g, .slice Ax1m len1m cx1m] 27))
  have sz9 : w5.heap.size ≤ (w5.alloc (.cells #[.bool a1g, .slice Ax1m len1m cx1m] 27)).heap.size := (by simp)
  have Ow0m_9 := Lib.hid (Ow0m_8.out.alloc (.cells #[.bool a1g, .slice Ax1m len1m cx1m] 27))
  have Ox0m_9 := Lib.hid (Ox0m_8.out.alloc (.cells #[.bool a1g, .slice Ax1m len1m cx1m] 27))
  have Ox1m_9 := Lib.hid (Ox1m_8.out.alloc (.cells #[.bool a1g, .slice Ax1m len1m cx1m] 27))
  have XaX_9 := Lib.hid (XaX_8.out.alloc (.cells #[.bool a1g, .slice Ax1m len1m cx1m] 27))
  have XaY_9 := Lib.hid (XaY_8.out.alloc (.cells #[.bool a1g, .slice Ax1m len1m cx1m] 27))
  have Xw0_9 := Lib.hid (Xw0_8.out.alloc (.cells #[.bool a1g, .slice Ax1m len1m cx1m] 27))
  have Xx0_9 := Lib.hid (Xx0_8.out.alloc (.cells #[.bool a1g, .slice Ax1m len1m cx1m] 27))
  have Xx1_9 := Lib.hid (Box.new w5 27 #[.bool a1g, .slice Ax1m len1m cx1m])
  have ex00a : w5.cell? ⟨w4.heap.size, 0, none⟩ = some (.bool a0g) := Xx0_8.out.cell 0
  have ex01a : w5.cell? ⟨w4.heap.size, 1, none⟩ = some (.slice Ax0m len0m cx0m) := Xx0_8.out.cell 1
  have ex00b : (w5.alloc (.cells #[.bool a1g, .slice Ax1m len1m cx1m] 27)).cell? ⟨w4.heap.size, 0, none⟩ = some (.bool a0g) := Xx0_9.out.cell 0
  have ex01b : (w5.alloc (.cells #[.bool a1g, .slice Ax1m len1m cx1m] 27)).cell? ⟨w4.heap.size, 1, none⟩ = some (.slice Ax0m len0m cx0m) := Xx0_9.out.cell 1
  have nex00 : w5.heap.size ≠ w4.heap.size := (by have := Xx0_8.out.lt; omega)
  go_wp2_with fail
  clear ex00a ex01a ex00b ex01b nex00
  refine (impl_bigIntMul a0g Ax0m len0m cx0m z0m a1g Ax1m len1m cx1m z1m _ (Inz0m.out.own Ox0m_9.out) (room_own Ox0m_9.out) (Inz1m.out.own Ox1m_9.out) (room_own Ox1m_9.out)).mono ?_
  rintro e w6 ⟨r2_00, r2_01, v2_01, rfl, his, ho01, hb⟩
  have BW10 := Lib.hid (BW9.out.trans (hb.mono BW9.out.size))
  have sz10 : (w5.alloc (.cells #[.bool a1g, .slice Ax1m len1m cx1m] 27)).heap.size ≤ w6.heap.size := hb.size
  have Ow0m_10 := Lib.hid (own_below Ow0m_9.out hb)
  have Ox0m_10 := Lib.hid (own_below Ox0m_9.out hb)
  have Ox1m_10 := Lib.hid (own_below Ox1m_9.out hb)
  have XaX_10 := Lib.hid (XaX_9.out.below hb XaX_9.out.lt)
  have XaY_10 := Lib.hid (XaY_9.out.below hb XaY_9.out.lt)
  have Xw0_10 := Lib.hid (Xw0_9.out.below hb Xw0_9.out.lt)
  have Xx0_10 := Lib.hid (Xx0_9.out.below hb Xx0_9.out.lt)
  have Xx1_10 := Lib.hid (Xx1_9.out.below hb Xx1_9.out.lt)
  clear hb
  obtain ⟨rfl, rfl⟩ := bigIntMul_unique IS.out his
  clear his
  replace ho01 := ho01.2
  rw [HN01.out] at ho01
  obtain ⟨Ag0m, cg0m, rfl⟩ := own_slice ho01
  have Ug0m := Lib.hid (fun k (hk : (Value.slice Ag0m N01 cg0m).ownBlock = some k) => (ho01.lt k hk).2)
  have Og0m_10 := Lib.hid ho01
  clear ho01
  have BW11 := Lib.hid (BW10.out.alloc BW10.out.size (.cells #[.bool r1_00, .slice Ag0m N01 cg0m] 27))
  have sz11 : w6.heap.size ≤ (w6.alloc (.cells #[.bool r1_00, .slice Ag0m N01 cg0m] 27)).heap.size := (by simp)
  have Ow0m_11 := Lib.hid (Ow0m_10.out.alloc (.cells #[.bool r1_00, .slice Ag0m N01 cg0m] 27))
  have Ox0m_11 := Lib.hid (Ox0m_10.out.alloc (.cells #[.bool r1_00, .slice Ag0m N01 cg0m] 27))
  have Ox1m_11 := Lib.hid (Ox1m_10.out.alloc (.cells #[.bool r1_00, .slice Ag0m N01 cg0m] 27))
  have Og0m_11 := Lib.hid (Og0m_10.out.alloc (.cells #[.bool r1_00, .slice Ag0m N01 cg0m] 27))
  have XaX_11 := Lib.hid (XaX_10.out.alloc (.cells #[.bool r1_00, .slice Ag0m N01 cg0m] 27))
  have XaY_11 := Lib.hid (XaY_10.out.alloc (.cells #[.bool r1_00, .slice Ag0m N01 cg0m] 27))
  have Xw0_11 := Lib.hid (Xw0_10.out.alloc (.cells #[.bool r1_00, .slice Ag0m N01 cg0m] 27))
  have Xx0_11 := Lib.hid (Xx0_10.out.alloc (.cells #[.bool r1_00, .slice Ag0m N01 cg0m] 27))
  have Xx1_11 := Lib.hid (Xx1_10.out.alloc (.cells #[.bool r1_00, .slice Ag0m N01 cg0m] 27))
  have Xg0_11 := Lib.hid (Box.new w6 27 #[.bool r1_00, .slice Ag0m N01 cg0m])
  have ew00a : w6.cell? ⟨gb1, 0, none⟩ = some (.bool r1_00) := Xw0_10.out.cell 0
  have ew01a : w6.cell? ⟨gb1, 1, none⟩ = some (.slice Aw0m N01 cw0m) := Xw0_10.out.cell 1
  have ew00b : (w6.alloc (.cells #[.bool r1_00, .slice Ag0m N01 cg0m] 27)).cell? ⟨gb1, 0, none⟩ = some (.bool r1_00) := Xw0_11.out.cell 0
  have ew01b : (w6.alloc (.cells #[.bool r1_00, .slice Ag0m N01 cg0m] 27)).cell? ⟨gb1, 1, none⟩ = some (.slice Aw0m N01 cw0m) := Xw0_11.out.cell 1
  have new00 : w6.heap.size ≠ gb1 := (by have := Xw0_10.out.lt; omega)
  go_wp2_with fail
  clear ew00a ew01a ew00b ew01b new00
  refine (eqBigInt_same r1_00 Ag0m Aw0m N01 cg0m cw0m r1_01 _ HN01.out (by unfold maxLen; omega) (Reads.of_own Og0m_11.out) (Reads.of_own Ow0m_11.out)).mono ?_
  rintro e w7 ⟨rfl, hb⟩
  have BW12 := Lib.hid (BW11.out.trans (hb.mono BW11.out.size))
  have sz12 : (w6.alloc (.cells #[.bool r1_00, .slice Ag0m N01 cg0m] 27)).heap.size ≤ w7.heap.size := hb.size
  have Ow0m_12 := Lib.hid (own_below Ow0m_11.out hb)
  have Ox0m_12 := Lib.hid (own_below Ox0m_11.out hb)
  have Ox1m_12 := Lib.hid (own_below Ox1m_11.out hb)
  have Og0m_12 := Lib.hid (own_below Og0m_11.out hb)
  have XaX_12 := Lib.hid (XaX_11.out.below hb XaX_11.out.lt)
  have XaY_12 := Lib.hid (XaY_11.out.below hb XaY_11.out.lt)
  have Xw0_12 := Lib.hid (Xw0_11.out.below hb Xw0_11.out.lt)
  have Xx0_12 := Lib.hid (Xx0_11.out.below hb Xx0_11.out.lt)
  have Xx1_12 := Lib.hid (Xx1_11.out.below hb Xx1_11.out.lt)
  have Xg0_12 := Lib.hid (Xg0_11.out.below hb Xg0_11.out.lt)
  clear hb
  go_wp2_with fail
  have BW13 := Lib.hid BW12.out.drew
  have sz13 : w7.heap.size ≤ w7.drew.heap.size := Nat.le_refl _
  have Ow0m_13 := Lib.hid (own_drew Ow0m_12.out)
  have Ox0m_13 := Lib.hid (own_drew Ox0m_12.out)
  have Ox1m_13 := Lib.hid (own_drew Ox1m_12.out)
  have Og0m_13 := Lib.hid (own_drew Og0m_12.out)
  have XaX_13 := Lib.hid XaX_12.out.drew
  have XaY_13 := Lib.hid XaY_12.out.drew
  have Xw0_13 := Lib.hid Xw0_12.out.drew
  have Xx0_13 := Lib.hid Xx0_12.out.drew
  have Xx1_13 := Lib.hid Xx1_12.out.drew
  have Xg0_13 := Lib.hid Xg0_12.out.drew
  go_region_held3 (fun w' => w'.cell? ⟨w4.heap.size, 0, none⟩ = some (.bool a0g) ∧ w'.cell? ⟨w4.heap.size, 1, none⟩ = some (.slice Ax0m len0m cx0m) ∧ w'.cell? ⟨w.heap.size, 0, none⟩ = some (.bool a0g) ∧ w'.cell? ⟨w.heap.size, 1, none⟩ = some (.slice a0m len0m cap0m)) (first | exact ⟨Xx0_13.out.cell 0, Xx0_13.out.cell 1, XaX_13.out.cell 0, XaX_13.out.cell 1⟩ | exact ⟨Xx0_14.out.cell 0, Xx0_14.out.cell 1, XaX_14.out.cell 0, XaX_14.out.cell 1⟩ | exact ⟨Xx0_15.out.cell 0, Xx0_15.out.cell 1, XaX_15.out.cell 0, XaX_15.out.cell 1⟩) (first | (go_at_call 17; refine (eqBigInt_same a0g Ax0m At3m len0m cx0m ct3m z0m _ Inz0m.out.len (by unfold maxLen; omega) (Reads.of_own Ox0m_14.out) (Reads.of_own Ot3m_14.out)).mono ?_; rintro e w9 ⟨rfl, hb⟩; have BW15 := Lib.hid (BW14.out.trans (hb.mono BW14.out.size)); have sz15 : w8.heap.size ≤ w9.heap.size := hb.size; have Ow0m_15 := Lib.hid (own_below Ow0m_14.out hb); have Ox0m_15 := Lib.hid (own_below Ox0m_14.out hb); have Ox1m_15 := Lib.hid (own_below Ox1m_14.out hb); have Og0m_15 := Lib.hid (own_below Og0m_14.out hb); have Ot3m_15 := Lib.hid (own_below Ot3m_14.out hb); have XaX_15 := Lib.hid (XaX_14.out.below hb XaX_14.out.lt); have XaY_15 := Lib.hid (XaY_14.out.below hb XaY_14.out.lt); have Xw0_15 := Lib.hid (Xw0_14.out.below hb Xw0_14.out.lt); have Xx0_15 := Lib.hid (Xx0_14.out.below hb Xx0_14.out.lt); have Xx1_15 := Lib.hid (Xx1_14.out.below hb Xx1_14.out.lt); have Xg0_15 := Lib.hid (Xg0_14.out.below hb Xg0_14.out.lt); clear hb) | (go_at_call 15; refine (toBigInt_any a0g a0m len0m cap0m z0m _ Inz0m.out.len Inz0m.out.le (Inz0m.out.rd.below BW13.out)).mono ?_; rintro e w8 ⟨v0, rfl, ho0, hb⟩; have BW14 := Lib.hid (BW13.out.trans (hb.mono BW13.out.size)); have sz14 : w7.drew.heap.size ≤ w8.heap.size := hb.size; have Ow0m_14 := Lib.hid (own_below Ow0m_13.out hb); have Ox0m_14 := Lib.hid (own_below Ox0m_13.out hb); have Ox1m_14 := Lib.hid (own_below Ox1m_13.out hb); have Og0m_14 := Lib.hid (own_below Og0m_13.out hb); have XaX_14 := Lib.hid (XaX_13.out.below hb XaX_13.out.lt); have XaY_14 := Lib.hid (XaY_13.out.below hb XaY_13.out.lt); have Xw0_14 := Lib.hid (Xw0_13.out.below hb Xw0_13.out.lt); have Xx0_14 := Lib.hid (Xx0_13.out.below hb Xx0_13.out.lt); have Xx1_14 := Lib.hid (Xx1_13.out.below hb Xx1_13.out.lt); have Xg0_14 := Lib.hid (Xg0_13.out.below hb Xg0_13.out.lt); obtain ⟨At3m, ct3m, rfl⟩ := own_slice ho0; have Ut3m := Lib.hid (fun k (hk : (Value.slice At3m len0m ct3m).ownBlock = some k) => (ho0.lt k hk).2); have Ot3m_14 := Lib.hid ho0; clear ho0; clear hb))
  clear Ot3m_15 Ut3m
  go_wp2_with fail
  have BW16 := Lib.hid BW15.out.drew
  have sz16 : w9.heap.size ≤ w9.drew.heap.size := Nat.le_refl _
  have Ow0m_16 := Lib.hid (own_drew Ow0m_15.out)
  have Ox0m_16 := Lib.hid (own_drew Ox0m_15.out)
  have Ox1m_16 := Lib.hid (own_drew Ox1m_15.out)
  have Og0m_16 := Lib.hid (own_drew Og0m_15.out)
  have XaX_16 := Lib.hid XaX_15.out.drew
  have XaY_16 := Lib.hid XaY_15.out.drew
  have Xw0_16 := Lib.hid Xw0_15.out.drew
  have Xx0_16 := Lib.hid Xx0_15.out.drew
  have Xx1_16 := Lib.hid Xx1_15.out.drew
  have Xg0_16 := Lib.hid Xg0_15.out.drew
  go_region_held3 (fun w' => w'.cell? ⟨w5.heap.size, 0, none⟩ = some (.bool a1g) ∧ w'.cell? ⟨w5.heap.size, 1, none⟩ = some (.slice Ax1m len1m cx1m) ∧ w'.cell? ⟨w.heap.size + 1, 0, none⟩ = some (.bool a1g) ∧ w'.cell? ⟨w.heap.size + 1, 1, none⟩ = some (.slice a1m len1m cap1m)) (first | exact ⟨Xx1_16.out.cell 0, Xx1_16.out.cell 1, XaY_16.out.cell 0, XaY_16.out.cell 1⟩ | exact ⟨Xx1_17.out.cell 0, Xx1_17.out.cell 1, XaY_17.out.cell 0, XaY_17.out.cell 1⟩ | exact ⟨Xx1_18.out.cell 0, Xx1_18.out.cell 1, XaY_18.out.cell 0, XaY_18.out.cell 1⟩) (first | (go_at_call 17; refine (eqBigInt_same a1g Ax1m At4m len1m cx1m ct4m z1m _ Inz1m.out.len (by unfold maxLen; omega) (Reads.of_own Ox1m_17.out) (Reads.of_own Ot4m_17.out)).mono ?_; rintro e w11 ⟨rfl, hb⟩; have BW18 := Lib.hid (BW17.out.trans (hb.mono BW17.out.size)); have sz18 : w10.heap.size ≤ w11.heap.size := hb.size; have Ow0m_18 := Lib.hid (own_below Ow0m_17.out hb); have Ox0m_18 := Lib.hid (own_below Ox0m_17.out hb); have Ox1m_18 := Lib.hid (own_below Ox1m_17.out hb); have Og0m_18 := Lib.hid (own_below Og0m_17.out hb); have Ot4m_18 := Lib.hid (own_below Ot4m_17.out hb); have XaX_18 := Lib.hid (XaX_17.out.below hb XaX_17.out.lt); have XaY_18 := Lib.hid (XaY_17.out.below hb XaY_17.out.lt); have Xw0_18 := Lib.hid (Xw0_17.out.below hb Xw0_17.out.lt); have Xx0_18 := Lib.hid (Xx0_17.out.below hb Xx0_17.out.lt); have Xx1_18 := Lib.hid (Xx1_17.out.below hb Xx1_17.out.lt); have Xg0_18 := Lib.hid (Xg0_17.out.below hb Xg0_17.out.lt); clear hb) | (go_at_call 15; refine (toBigInt_any a1g a1m len1m cap1m z1m _ Inz1m.out.len Inz1m.out.le (Inz1m.out.rd.below BW16.out)).mono ?_; rintro e w10 ⟨v0, rfl, ho0, hb⟩; have BW17 := Lib.hid (BW16.out.trans (hb.mono BW16.out.size)); have sz17 : w9.drew.heap.size ≤ w10.heap.size := hb.size; have Ow0m_17 := Lib.hid (own_below Ow0m_16.out hb); have Ox0m_17 := Lib.hid (own_below Ox0m_16.out hb); have Ox1m_17 := Lib.hid (own_below Ox1m_16.out hb); have Og0m_17 := Lib.hid (own_below Og0m_16.out hb); have XaX_17 := Lib.hid (XaX_16.out.below hb XaX_16.out.lt); have XaY_17 := Lib.hid (XaY_16.out.below hb XaY_16.out.lt); have Xw0_17 := Lib.hid (Xw0_16.out.below hb Xw0_16.out.lt); have Xx0_17 := Lib.hid (Xx0_16.out.below hb Xx0_16.out.lt); have Xx1_17 := Lib.hid (Xx1_16.out.below hb Xx1_16.out.lt); have Xg0_17 := Lib.hid (Xg0_16.out.below hb Xg0_16.out.lt); obtain ⟨At4m, ct4m, rfl⟩ := own_slice ho0; have Ut4m := Lib.hid (fun k (hk : (Value.slice At4m len1m ct4m).ownBlock = some k) => (ho0.lt k hk).2); have Ot4m_17 := Lib.hid ho0; clear ho0; clear hb))
  clear Ot4m_18 Ut4m
  have ex00a : w11.cell? ⟨w4.heap.size, 0, none⟩ = some (.bool a0g) := Xx0_18.out.cell 0
  have ex01a : w11.cell? ⟨w4.heap.size, 1, none⟩ = some (.slice Ax0m len0m cx0m) := Xx0_18.out.cell 1
  go_wp2_with fail
  clear ex00a ex01a
  refine (markBigInt_own a0g _ Ax0m len0m cx0m (1) _ _ (by unfold maxLen; omega) Ox0m_18.out (ints_are _)).mono ?_
  rintro e w12 ⟨rfl, ho, hg⟩
  have BW19 := Lib.hid (below_marked BW18.out Ox0m_18.out hg (by omega) (by omega))
  have sz19 : w11.heap.size ≤ w12.heap.size := hg.size
  have Ow0m_19 := Lib.hid (Ow0m_18.out.kept hg (own_apart Ow0m_18.out Uw0m.out Ox0m_18.out Ux0m.out (.inl (by omega))))
  have Ox1m_19 := Lib.hid (Ox1m_18.out.kept hg (own_apart Ox1m_18.out Ux1m.out Ox0m_18.out Ux0m.out (.inr (by omega))))
  have Og0m_19 := Lib.hid (Og0m_18.out.kept hg (own_apart Og0m_18.out Ug0m.out Ox0m_18.out Ux0m.out (.inr (by omega))))
  have XaX_19 := Lib.hid (XaX_18.out.grown hg (ne_own XaX_18.out Ox0m_18.out))
  have XaY_19 := Lib.hid (XaY_18.out.grown hg (ne_own XaY_18.out Ox0m_18.out))
  have Xw0_19 := Lib.hid (Xw0_18.out.grown hg (ne_own Xw0_18.out Ox0m_18.out))
  have Xx0_19 := Lib.hid (Xx0_18.out.grown hg (ne_own Xx0_18.out Ox0m_18.out))
  have Xx1_19 := Lib.hid (Xx1_18.out.grown hg (ne_own Xx1_18.out Ox0m_18.out))
  have Xg0_19 := Lib.hid (Xg0_18.out.grown hg (ne_own Xg0_18.out Ox0m_18.out))
  have Ox0m_19 := Lib.hid ho
  clear ho hg
  clear Ox0m_19 Ux0m Xx0_19
  have ex10a : w12.cell? ⟨w5.heap.size, 0, none⟩ = some (.bool a1g) := Xx1_19.out.cell 0
  have ex11a : w12.cell? ⟨w5.heap.size, 1, none⟩ = some (.slice Ax1m len1m cx1m) := Xx1_19.out.cell 1
  go_wp2_with fail
  clear ex10a ex11a
  refine (markBigInt_own a1g _ Ax1m len1m cx1m (1 + len0m) _ _ (by unfold maxLen; omega) Ox1m_19.out (ints_are _)).mono ?_
  rintro e w13 ⟨rfl, ho, hg⟩
  have BW20 := Lib.hid (below_marked BW19.out Ox1m_19.out hg (by omega) (by omega))
  have sz20 : w12.heap.size ≤ w13.heap.size := hg.size
  have Ow0m_20 := Lib.hid (Ow0m_19.out.kept hg (own_apart Ow0m_19.out Uw0m.out Ox1m_19.out Ux1m.out (.inl (by omega))))
  have Og0m_20 := Lib.hid (Og0m_19.out.kept hg (own_apart Og0m_19.out Ug0m.out Ox1m_19.out Ux1m.out (.inr (by omega))))
  have XaX_20 := Lib.hid (XaX_19.out.grown hg (ne_own XaX_19.out Ox1m_19.out))
  have XaY_20 := Lib.hid (XaY_19.out.grown hg (ne_own XaY_19.out Ox1m_19.out))
  have Xw0_20 := Lib.hid (Xw0_19.out.grown hg (ne_own Xw0_19.out Ox1m_19.out))
  have Xx1_20 := Lib.hid (Xx1_19.out.grown hg (ne_own Xx1_19.out Ox1m_19.out))
  have Xg0_20 := Lib.hid (Xg0_19.out.grown hg (ne_own Xg0_19.out Ox1m_19.out))
  have Ox1m_20 := Lib.hid ho
  clear ho hg
  clear Ox1m_20 Ux1m Xx1_20
  have eg00a : w13.cell? ⟨w6.heap.size, 0, none⟩ = some (.bool r1_00) := Xg0_20.out.cell 0
  have eg01a : w13.cell? ⟨w6.heap.size, 1, none⟩ = some (.slice Ag0m N01 cg0m) := Xg0_20.out.cell 1
  have ew00a : w13.cell? ⟨gb1, 0, none⟩ = some (.bool r1_00) := Xw0_20.out.cell 0
  have ew01a : w13.cell? ⟨gb1, 1, none⟩ = some (.slice Aw0m N01 cw0m) := Xw0_20.out.cell 1
  go_wp2_with fail
  clear eg00a eg01a ew00a ew01a
  refine (eqBigInt_same r1_00 Ag0m Aw0m N01 cg0m cw0m r1_01 _ HN01.out (by unfold maxLen; omega) (Reads.of_own Og0m_20.out) (Reads.of_own Ow0m_20.out)).mono ?_
  rintro e w14 ⟨rfl, hb⟩
  have BW21 := Lib.hid (BW20.out.trans (hb.mono BW20.out.size))
  have sz21 : w13.heap.size ≤ w14.heap.size := hb.size
  have Ow0m_21 := Lib.hid (own_below Ow0m_20.out hb)
  have Og0m_21 := Lib.hid (own_below Og0m_20.out hb)
  have XaX_21 := Lib.hid (XaX_20.out.below hb XaX_20.out.lt)
  have XaY_21 := Lib.hid (XaY_20.out.below hb XaY_20.out.lt)
  have Xw0_21 := Lib.hid (Xw0_20.out.below hb Xw0_20.out.lt)
  have Xg0_21 := Lib.hid (Xg0_20.out.below hb Xg0_20.out.lt)
  clear hb
  have eg00a : w14.cell? ⟨w6.heap.size, 0, none⟩ = some (.bool r1_00) := Xg0_21.out.cell 0
  have eg01a : w14.cell? ⟨w6.heap.size, 1, none⟩ = some (.slice Ag0m N01 cg0m) := Xg0_21.out.cell 1
  go_wp2_with fail
  clear eg00a eg01a
  refine (markBigInt_own r1_00 _ Ag0m N01 cg0m (1) _ _ (by unfold maxLen; omega) Og0m_21.out (ints_are _)).mono ?_
  rintro e w15 ⟨rfl, ho, hg⟩
  have BW22 := Lib.hid (below_marked BW21.out Og0m_21.out hg (by omega) (by omega))
  have sz22 : w14.heap.size ≤ w15.heap.size := hg.size
  have Ow0m_22 := Lib.hid (Ow0m_21.out.kept hg (own_apart Ow0m_21.out Uw0m.out Og0m_21.out Ug0m.out (.inl (by omega))))
  have XaX_22 := Lib.hid (XaX_21.out.grown hg (ne_own XaX_21.out Og0m_21.out))
  have XaY_22 := Lib.hid (XaY_21.out.grown hg (ne_own XaY_21.out Og0m_21.out))
  have Xw0_22 := Lib.hid (Xw0_21.out.grown hg (ne_own Xw0_21.out Og0m_21.out))
  have Xg0_22 := Lib.hid (Xg0_21.out.grown hg (ne_own Xg0_21.out Og0m_21.out))
  have Og0m_22 := Lib.hid ho
  clear ho hg
  have eg00a : w15.cell? ⟨w6.heap.size, 0, none⟩ = some (.bool r1_00) := Xg0_22.out.cell 0
  have eg01a : w15.cell? ⟨w6.heap.size, 1, none⟩ = some (.slice Ag0m N01 cg0m) := Xg0_22.out.cell 1
  go_wp2_with fail
  clear eg00a eg01a
  refine (heldBigInt_same r1_00 Ag0m N01 cg0m (1) _ (by unfold maxLen; omega) (Reads.of_own Og0m_22.out)).mono ?_
  rintro e w16 ⟨rfl, hb⟩
  have BW23 := Lib.hid (BW22.out.trans (hb.mono BW22.out.size))
  have sz23 : w15.heap.size ≤ w16.heap.size := hb.size
  have Ow0m_23 := Lib.hid (own_below Ow0m_22.out hb)
  have Og0m_23 := Lib.hid (own_below Og0m_22.out hb)
  have XaX_23 := Lib.hid (XaX_22.out.below hb XaX_22.out.lt)
  have XaY_23 := Lib.hid (XaY_22.out.below hb XaY_22.out.lt)
  have Xw0_23 := Lib.hid (Xw0_22.out.below hb Xw0_22.out.lt)
  have Xg0_23 := Lib.hid (Xg0_22.out.below hb Xg0_22.out.lt)
  clear hb
  go_upto_region 31 with fail
  go_cut [13] (fun s13 wx => ∃ (gb : Nat) (Ah0m : Option Addr) (ch0m : Nat), s13 = .pointer (some ⟨gb, 0, none⟩) ∧ Hid (wx.ownsRow w16.heap.size 3 1 (.slice Ah0m N01 ch0m) N01 (r1_01.map (.int .i64))) ∧ Hid (Box wx gb 27 #[.bool r1_00, .slice Ah0m N01 ch0m]) ∧ Hid (Below w.heap.size w wx) ∧ w16.heap.size ≤ wx.heap.size ∧ Hid (wx.ownsRow ws1.heap.size 3 1 (.slice Aw0m N01 cw0m) N01 (r1_01.map (.int .i64))) ∧ Hid (wx.ownsRow (w5.alloc (.cells #[.bool a1g, .slice Ax1m len1m cx1m] 27)).heap.size 3 1 (.slice Ag0m N01 cg0m) N01 (marks markI (1) N01)) ∧ Hid (Box wx (w.heap.size) 24 #[.bool a0g, .slice a0m len0m cap0m]) ∧ Hid (Box wx (w.heap.size + 1) 24 #[.bool a1g, .slice a1m len1m cap1m]) ∧ Hid (Box wx (gb1) 27 #[.bool r1_00, .slice Aw0m N01 cw0m]) ∧ Hid (Box wx (w6.heap.size) 27 #[.bool r1_00, .slice Ag0m N01 cg0m]))
  case first =>
    have BW24 := Lib.hid BW23.out.drew
    have sz24 : w16.heap.size ≤ w16.drew.heap.size := Nat.le_refl _
    have Ow0m_24 := Lib.hid (own_drew Ow0m_23.out)
    have Og0m_24 := Lib.hid (own_drew Og0m_23.out)
    have XaX_24 := Lib.hid XaX_23.out.drew
    have XaY_24 := Lib.hid XaY_23.out.drew
    have Xw0_24 := Lib.hid Xw0_23.out.drew
    have Xg0_24 := Lib.hid Xg0_23.out.drew
    go_region_held3 (fun w' => w'.cell? ⟨w.heap.size, 0, none⟩ = some (.bool a0g) ∧ w'.cell? ⟨w.heap.size, 1, none⟩ = some (.slice a0m len0m cap0m) ∧ w'.cell? ⟨w.heap.size + 1, 0, none⟩ = some (.bool a1g) ∧ w'.cell? ⟨w.heap.size + 1, 1, none⟩ = some (.slice a1m len1m cap1m)) (first | exact ⟨XaX_24.out.cell 0, XaX_24.out.cell 1, XaY_24.out.cell 0, XaY_24.out.cell 1⟩ | exact ⟨XaX_25.out.cell 0, XaX_25.out.cell 1, XaY_25.out.cell 0, XaY_25.out.cell 1⟩ | exact ⟨XaX_26.out.cell 0, XaX_26.out.cell 1, XaY_26.out.cell 0, XaY_26.out.cell 1⟩ | exact ⟨XaX_27.out.cell 0, XaX_27.out.cell 1, XaY_27.out.cell 0, XaY_27.out.cell 1⟩ | exact ⟨(XaX_24.out.alloc _).cell 0, (XaX_24.out.alloc _).cell 1, (XaY_24.out.alloc _).cell 0, (XaY_24.out.alloc _).cell 1⟩ | exact ⟨(XaX_25.out.alloc _).cell 0, (XaX_25.out.alloc _).cell 1, (XaY_25.out.alloc _).cell 0, (XaY_25.out.alloc _).cell 1⟩ | exact ⟨(XaX_26.out.alloc _).cell 0, (XaX_26.out.alloc _).cell 1, (XaY_26.out.alloc _).cell 0, (XaY_26.out.alloc _).cell 1⟩ | exact ⟨(XaX_27.out.alloc _).cell 0, (XaX_27.out.alloc _).cell 1, (XaY_27.out.alloc _).cell 0, (XaY_27.out.alloc _).cell 1⟩ | exact ⟨((XaX_27.out.far (by have := XaX_23.out.lt; dsimp only; omega) _).far (by have := XaX_23.out.lt; dsimp only; omega) _).cell 0, ((XaX_27.out.far (by have := XaX_23.out.lt; dsimp only; omega) _).far (by have := XaX_23.out.lt; dsimp only; omega) _).cell 1, ((XaY_27.out.far (by have := XaY_23.out.lt; dsimp only; omega) _).far (by have := XaY_23.out.lt; dsimp only; omega) _).cell 0, ((XaY_27.out.far (by have := XaY_23.out.lt; dsimp only; omega) _).far (by have := XaY_23.out.lt; dsimp only; omega) _).cell 1⟩) (first | (go_at_call 15; first | ((with_reducible refine (toBigInt_any a0g a0m len0m cap0m z0m _ Inz0m.out.len Inz0m.out.le (Inz0m.out.rd.below BW24.out)).mono ?_); rintro e w17 ⟨v0, rfl, ho0, hb⟩; have BW25 := Lib.hid (BW24.out.trans (hb.mono BW24.out.size)); have sz25 : w16.drew.heap.size ≤ w17.heap.size := Nat.le_trans (by simp) hb.size; have Ow0m_25 := Lib.hid (own_below Ow0m_24.out hb); have Og0m_25 := Lib.hid (own_below Og0m_24.out hb); have XaX_25 := Lib.hid (XaX_24.out.below hb XaX_24.out.lt); have XaY_25 := Lib.hid (XaY_24.out.below hb XaY_24.out.lt); have Xw0_25 := Lib.hid (Xw0_24.out.below hb Xw0_24.out.lt); have Xg0_25 := Lib.hid (Xg0_24.out.below hb Xg0_24.out.lt); (try (have NN_25 := Lib.hid (NN_24.out.below hb NN_24.out.lt))); obtain ⟨At5m, ct5m, rfl⟩ := own_slice ho0; have Ut5m := Lib.hid (fun k (hk : (Value.slice At5m len0m ct5m).ownBlock = some k) => (ho0.lt k hk).2); have Ot5m_25 := Lib.hid ho0; clear ho0; clear hb) | (replace Ow0m_24 := Lib.hid (own_drew (Ow0m_23.out.alloc (.cells #[.bool false, .slice none 0 0] 27))); replace Og0m_24 := Lib.hid (own_drew (Og0m_23.out.alloc (.cells #[.bool false, .slice none 0 0] 27))); replace XaX_24 := Lib.hid (XaX_23.out.alloc (.cells #[.bool false, .slice none 0 0] 27)).drew; replace XaY_24 := Lib.hid (XaY_23.out.alloc (.cells #[.bool false, .slice none 0 0] 27)).drew; replace Xw0_24 := Lib.hid (Xw0_23.out.alloc (.cells #[.bool false, .slice none 0 0] 27)).drew; replace Xg0_24 := Lib.hid (Xg0_23.out.alloc (.cells #[.bool false, .slice none 0 0] 27)).drew; replace BW24 := Lib.hid (BW23.out.alloc BW23.out.size (.cells #[.bool false, .slice none 0 0] 27)).drew; have NN_24 := Lib.hid (Box.new w16 27 #[.bool false, .slice none 0 0]).drew; (with_reducible refine (toBigInt_any a0g a0m len0m cap0m z0m _ Inz0m.out.len Inz0m.out.le (Inz0m.out.rd.below BW24.out)).mono ?_); rintro e w17 ⟨v0, rfl, ho0, hb⟩; have BW25 := Lib.hid (BW24.out.trans (hb.mono BW24.out.size)); have sz25 : w16.drew.heap.size ≤ w17.heap.size := Nat.le_trans (by simp) hb.size; have Ow0m_25 := Lib.hid (own_below Ow0m_24.out hb); have Og0m_25 := Lib.hid (own_below Og0m_24.out hb); have XaX_25 := Lib.hid (XaX_24.out.below hb XaX_24.out.lt); have XaY_25 := Lib.hid (XaY_24.out.below hb XaY_24.out.lt); have Xw0_25 := Lib.hid (Xw0_24.out.below hb Xw0_24.out.lt); have Xg0_25 := Lib.hid (Xg0_24.out.below hb Xg0_24.out.lt); (try (have NN_25 := Lib.hid (NN_24.out.below hb NN_24.out.lt))); obtain ⟨At5m, ct5m, rfl⟩ := own_slice ho0; have Ut5m := Lib.hid (fun k (hk : (Value.slice At5m len0m ct5m).ownBlock = some k) => (ho0.lt k hk).2); have Ot5m_25 := Lib.hid ho0; clear ho0; clear hb)) | (go_at_call 15; first | ((with_reducible refine (toBigInt_any a1g a1m len1m cap1m z1m _ Inz1m.out.len Inz1m.out.le (Inz1m.out.rd.below BW25.out)).mono ?_); rintro e w18 ⟨v0, rfl, ho0, hb⟩; have BW26 := Lib.hid (BW25.out.trans (hb.mono BW25.out.size)); have sz26 : w17.heap.size ≤ w18.heap.size := Nat.le_trans (by simp) hb.size; have Ow0m_26 := Lib.hid (own_below Ow0m_25.out hb); have Og0m_26 := Lib.hid (own_below Og0m_25.out hb); have Ot5m_26 := Lib.hid (own_below Ot5m_25.out hb); have XaX_26 := Lib.hid (XaX_25.out.below hb XaX_25.out.lt); have XaY_26 := Lib.hid (XaY_25.out.below hb XaY_25.out.lt); have Xw0_26 := Lib.hid (Xw0_25.out.below hb Xw0_25.out.lt); have Xg0_26 := Lib.hid (Xg0_25.out.below hb Xg0_25.out.lt); (try (have NN_26 := Lib.hid (NN_25.out.below hb NN_25.out.lt))); obtain ⟨At6m, ct6m, rfl⟩ := own_slice ho0; have Ut6m := Lib.hid (fun k (hk : (Value.slice At6m len1m ct6m).ownBlock = some k) => (ho0.lt k hk).2); have Ot6m_26 := Lib.hid ho0; clear ho0; clear hb) | (replace Ow0m_25 := Lib.hid (Ow0m_25.out.alloc (.cells #[.bool false, .slice none 0 0] 27)); replace Og0m_25 := Lib.hid (Og0m_25.out.alloc (.cells #[.bool false, .slice none 0 0] 27)); replace Ot5m_25 := Lib.hid (Ot5m_25.out.alloc (.cells #[.bool false, .slice none 0 0] 27)); replace XaX_25 := Lib.hid (XaX_25.out.alloc (.cells #[.bool false, .slice none 0 0] 27)); replace XaY_25 := Lib.hid (XaY_25.out.alloc (.cells #[.bool false, .slice none 0 0] 27)); replace Xw0_25 := Lib.hid (Xw0_25.out.alloc (.cells #[.bool false, .slice none 0 0] 27)); replace Xg0_25 := Lib.hid (Xg0_25.out.alloc (.cells #[.bool false, .slice none 0 0] 27)); replace BW25 := Lib.hid (BW25.out.alloc BW25.out.size (.cells #[.bool false, .slice none 0 0] 27)); have NN_25 := Lib.hid (Box.new w17 27 #[.bool false, .slice none 0 0]); (with_reducible refine (toBigInt_any a1g a1m len1m cap1m z1m _ Inz1m.out.len Inz1m.out.le (Inz1m.out.rd.below BW25.out)).mono ?_); rintro e w18 ⟨v0, rfl, ho0, hb⟩; have BW26 := Lib.hid (BW25.out.trans (hb.mono BW25.out.size)); have sz26 : w17.heap.size ≤ w18.heap.size := Nat.le_trans (by simp) hb.size; have Ow0m_26 := Lib.hid (own_below Ow0m_25.out hb); have Og0m_26 := Lib.hid (own_below Og0m_25.out hb); have Ot5m_26 := Lib.hid (own_below Ot5m_25.out hb); have XaX_26 := Lib.hid (XaX_25.out.below hb XaX_25.out.lt); have XaY_26 := Lib.hid (XaY_25.out.below hb XaY_25.out.lt); have Xw0_26 := Lib.hid (Xw0_25.out.below hb Xw0_25.out.lt); have Xg0_26 := Lib.hid (Xg0_25.out.below hb Xg0_25.out.lt); (try (have NN_26 := Lib.hid (NN_25.out.below hb NN_25.out.lt))); obtain ⟨At6m, ct6m, rfl⟩ := own_slice ho0; have Ut6m := Lib.hid (fun k (hk : (Value.slice At6m len1m ct6m).ownBlock = some k) => (ho0.lt k hk).2); have Ot6m_26 := Lib.hid ho0; clear ho0; clear hb)) | (go_at_call 31; first | (refine (impl_bigIntMul a0g At5m len0m ct5m z0m a1g At6m len1m ct6m z1m _ (Inz0m.out.own Ot5m_26.out) (room_own Ot5m_26.out) (Inz1m.out.own Ot6m_26.out) (room_own Ot6m_26.out)).mono ?_; rintro e w19 ⟨r3_00, r3_01, v3_01, rfl, his, ho01, hb⟩; have BW27 := Lib.hid (BW26.out.trans (hb.mono BW26.out.size)); have sz27 : w18.heap.size ≤ w19.heap.size := Nat.le_trans (by simp) hb.size; have Ow0m_27 := Lib.hid (own_below Ow0m_26.out hb); have Og0m_27 := Lib.hid (own_below Og0m_26.out hb); have Ot5m_27 := Lib.hid (own_below Ot5m_26.out hb); have Ot6m_27 := Lib.hid (own_below Ot6m_26.out hb); have XaX_27 := Lib.hid (XaX_26.out.below hb XaX_26.out.lt); have XaY_27 := Lib.hid (XaY_26.out.below hb XaY_26.out.lt); have Xw0_27 := Lib.hid (Xw0_26.out.below hb Xw0_26.out.lt); have Xg0_27 := Lib.hid (Xg0_26.out.below hb Xg0_26.out.lt); (try (have NN_27 := Lib.hid (NN_26.out.below hb NN_26.out.lt))); clear hb; obtain ⟨rfl, rfl⟩ := bigIntMul_unique IS.out his; clear his; replace ho01 := ho01.2; rw [HN01.out] at ho01; obtain ⟨Ah0m, ch0m, rfl⟩ := own_slice ho01; have Uh0m := Lib.hid (fun k (hk : (Value.slice Ah0m N01 ch0m).ownBlock = some k) => (ho01.lt k hk).2); have Oh0m_27 := Lib.hid ho01; clear ho01; clear Ot5m_27 Ut5m; clear Ot6m_27 Ut6m; (try (have eN0 := NN_27.out.cell 0; have eN1 := NN_27.out.cell 1; simp at eN0 eN1; have fN0 := NN_27.out.free 0; have fN1 := NN_27.out.free 1))) | (replace Ow0m_26 := Lib.hid (Ow0m_26.out.alloc (.cells #[.bool false, .slice none 0 0] 27)); replace Og0m_26 := Lib.hid (Og0m_26.out.alloc (.cells #[.bool false, .slice none 0 0] 27)); replace Ot5m_26 := Lib.hid (Ot5m_26.out.alloc (.cells #[.bool false, .slice none 0 0] 27)); replace Ot6m_26 := Lib.hid (Ot6m_26.out.alloc (.cells #[.bool false, .slice none 0 0] 27)); replace XaX_26 := Lib.hid (XaX_26.out.alloc (.cells #[.bool false, .slice none 0 0] 27)); replace XaY_26 := Lib.hid (XaY_26.out.alloc (.cells #[.bool false, .slice none 0 0] 27)); replace Xw0_26 := Lib.hid (Xw0_26.out.alloc (.cells #[.bool false, .slice none 0 0] 27)); replace Xg0_26 := Lib.hid (Xg0_26.out.alloc (.cells #[.bool false, .slice none 0 0] 27)); replace BW26 := Lib.hid (BW26.out.alloc BW26.out.size (.cells #[.bool false, .slice none 0 0] 27)); have NN_26 := Lib.hid (Box.new w18 27 #[.bool false, .slice none 0 0]); refine (impl_bigIntMul a0g At5m len0m ct5m z0m a1g At6m len1m ct6m z1m _ (Inz0m.out.own Ot5m_26.out) (room_own Ot5m_26.out) (Inz1m.out.own Ot6m_26.out) (room_own Ot6m_26.out)).mono ?_; rintro e w19 ⟨r3_00, r3_01, v3_01, rfl, his, ho01, hb⟩; have BW27 := Lib.hid (BW26.out.trans (hb.mono BW26.out.size)); have sz27 : w18.heap.size ≤ w19.heap.size := Nat.le_trans (by simp) hb.size; have Ow0m_27 := Lib.hid (own_below Ow0m_26.out hb); have Og0m_27 := Lib.hid (own_below Og0m_26.out hb); have Ot5m_27 := Lib.hid (own_below Ot5m_26.out hb); have Ot6m_27 := Lib.hid (own_below Ot6m_26.out hb); have XaX_27 := Lib.hid (XaX_26.out.below hb XaX_26.out.lt); have XaY_27 := Lib.hid (XaY_26.out.below hb XaY_26.out.lt); have Xw0_27 := Lib.hid (Xw0_26.out.below hb Xw0_26.out.lt); have Xg0_27 := Lib.hid (Xg0_26.out.below hb Xg0_26.out.lt); (try (have NN_27 := Lib.hid (NN_26.out.below hb NN_26.out.lt))); clear hb; obtain ⟨rfl, rfl⟩ := bigIntMul_unique IS.out his; clear his; replace ho01 := ho01.2; rw [HN01.out] at ho01; obtain ⟨Ah0m, ch0m, rfl⟩ := own_slice ho01; have Uh0m := Lib.hid (fun k (hk : (Value.slice Ah0m N01 ch0m).ownBlock = some k) => (ho01.lt k hk).2); have Oh0m_27 := Lib.hid ho01; clear ho01; clear Ot5m_27 Ut5m; clear Ot6m_27 Ut6m; (try (have eN0 := NN_27.out.cell 0; have eN1 := NN_27.out.cell 1; simp at eN0 eN1; have fN0 := NN_27.out.free 0; have fN1 := NN_27.out.free 1)))))
    all_goals (go_wp2_with fail; go_meet; first | exact ⟨_, _, _, rfl, own_base (Oh0m_27.out.alloc _) (by first | omega | (simp; omega)), Box.new _ _ _, BW27.out.alloc BW27.out.size _, (by simp; omega), Ow0m_27.out.alloc _, Og0m_27.out.alloc _, XaX_27.out.alloc _, XaY_27.out.alloc _, Xw0_27.out.alloc _, Xg0_27.out.alloc _⟩ | exact ⟨_, _, _, rfl, own_base ((own_box (own_box Oh0m_27.out NN_27.out 0 _) (NN_27.out.set_ 0 _) 1 _)) (by first | omega | (simp; omega)), ((NN_27.out.set_ 0 _).set_ 1 _), ((BW27.out.setCell (by dsimp only; omega) _).setCell (by dsimp only; omega) _), (by simp; omega), (own_box (own_box Ow0m_27.out NN_27.out 0 _) (NN_27.out.set_ 0 _) 1 _), (own_box (own_box Og0m_27.out NN_27.out 0 _) (NN_27.out.set_ 0 _) 1 _), ((XaX_27.out.far (by have := XaX_23.out.lt; dsimp only; omega) _).far (by have := XaX_23.out.lt; dsimp only; omega) _), ((XaY_27.out.far (by have := XaY_23.out.lt; dsimp only; omega) _).far (by have := XaY_23.out.lt; dsimp only; omega) _), ((Xw0_27.out.far (by have := Xw0_23.out.lt; dsimp only; omega) _).far (by have := Xw0_23.out.lt; dsimp only; omega) _), ((Xg0_27.out.far (by have := Xg0_23.out.lt; dsimp only; omega) _).far (by have := Xg0_23.out.lt; dsimp only; omega) _)⟩)
  obtain ⟨gb4, Ah0m, ch0m, rfl, Oh0m_24, Xh0_24, BW24, sz24, Ow0m_24, Og0m_24, XaX_24, XaY_24, Xw0_24, Xg0_24⟩ := hcut
  obtain ⟨wc4, rfl⟩ : ∃ q, q = wc := ⟨_, rfl⟩
  have Uh0m := Lib.hid (fun k (hk : (Value.slice Ah0m N01 ch0m).ownBlock = some k) => (Oh0m_24.out.lt k hk).2)
  have eh00a : wc4.cell? ⟨gb4, 0, none⟩ = some (.bool r1_00) := Xh0_24.out.cell 0
  have eh01a : wc4.cell? ⟨gb4, 1, none⟩ = some (.slice Ah0m N01 ch0m) := Xh0_24.out.cell 1
  have ew00a : wc4.cell? ⟨gb1, 0, none⟩ = some (.bool r1_00) := Xw0_24.out.cell 0
  have ew01a : wc4.cell? ⟨gb1, 1, none⟩ = some (.slice Aw0m N01 cw0m) := Xw0_24.out.cell 1
  go_wp2_with fail
  clear eh00a eh01a ew00a ew01a
  refine (eqBigInt_same r1_00 Ah0m Aw0m N01 ch0m cw0m r1_01 _ HN01.out (by unfold maxLen; omega) (Reads.of_own Oh0m_24.out) (Reads.of_own Ow0m_24.out)).mono ?_
  rintro e w20 ⟨rfl, hb⟩
  have BW25 := Lib.hid (BW24.out.trans (hb.mono BW24.out.size))
  have sz25 : wc4.heap.size ≤ w20.heap.size := hb.size
  have Ow0m_25 := Lib.hid (own_below Ow0m_24.out hb)
  have Og0m_25 := Lib.hid (own_below Og0m_24.out hb)
  have Oh0m_25 := Lib.hid (own_below Oh0m_24.out hb)
  have XaX_25 := Lib.hid (XaX_24.out.below hb XaX_24.out.lt)
  have XaY_25 := Lib.hid (XaY_24.out.below hb XaY_24.out.lt)
  have Xw0_25 := Lib.hid (Xw0_24.out.below hb Xw0_24.out.lt)
  have Xg0_25 := Lib.hid (Xg0_24.out.below hb Xg0_24.out.lt)
  have Xh0_25 := Lib.hid (Xh0_24.out.below hb Xh0_24.out.lt)
  clear hb
  clear Ow0m_25 Uw0m Xw0_25
  clear Oh0m_25 Uh0m Xh0_25
  have eg00a : w20.cell? ⟨w6.heap.size, 0, none⟩ = some (.bool r1_00) := Xg0_25.out.cell 0
  have eg01a : w20.cell? ⟨w6.heap.size, 1, none⟩ = some (.slice Ag0m N01 cg0m) := Xg0_25.out.cell 1
  go_wp2_with fail
  clear eg00a eg01a
  refine (heldBigInt_same r1_00 Ag0m N01 cg0m (1) _ (by unfold maxLen; omega) (Reads.of_own Og0m_25.out)).mono ?_
  rintro e w21 ⟨rfl, hb⟩
  have BW26 := Lib.hid (BW25.out.trans (hb.mono BW25.out.size))
  have sz26 : w20.heap.size ≤ w21.heap.size := hb.size
  have Og0m_26 := Lib.hid (own_below Og0m_25.out hb)
  have XaX_26 := Lib.hid (XaX_25.out.below hb XaX_25.out.lt)
  have XaY_26 := Lib.hid (XaY_25.out.below hb XaY_25.out.lt)
  have Xg0_26 := Lib.hid (Xg0_25.out.below hb Xg0_25.out.lt)
  clear hb
  clear Og0m_26 Ug0m Xg0_26
  go_wp2_with fail
  go_ret
  exact ⟨rfl, BW26.out⟩
-- THE FRAME, by wip/tools/frame.py
theorem own : ownKnob Try.prog.godebug = none := by kernel_rfl
theorem laidOut : laidOutB Try.prog = true := by kernel_rfl

set_option maxRecDepth 100000 in
theorem lifted (os : Os) (started : os.Started) (H : Type) (enc : TypeId × Value → H) :
    ReturnsInHanded {} Try.checked os 9 .any (Rows.fnExactBigIntMulSpec.pre6 enc Try.prog Try.f9 Rows.fnExactBigIntMulRow.domain false) (Rows.fnExactBigIntMulSpec.post enc Try.prog Try.f9 false true false false) := by
  refine returnsInHanded_of_change (C := Try.checked) own started (by kernel_rfl) Try.func9
    (ChangeSpec.witness6 (enc := enc) (C := Try.checked) false ⟨#[], #[.agg #[.bool false, .slice none 0 0], .agg #[.bool false, .slice none 0 0]], []⟩ 8 (by kernel_rfl) (by kernel_rfl) (by kernel_rfl) (by kernel_rfl)) ?_
  intro W base args ds gs before hval0 hW _ _
  have hval : ∀ (j : Nat) t v, Try.f9.params[j]? = some t → args[j]? = some v → Value.okWide Try.prog W .any base t v := hval0
  have hW' := hW
  obtain ⟨p, q, hA0, hV, rfl, _, _⟩ := hW
  have hA : DataW.TrodAll enc Try.prog W 0 (fun _ => true) true Try.f9.params.toList args.toList ds p := hA0
  rw [Try.params9] at hA hval
  obtain ⟨v0, vs0, d0, ds0, p0, q0, hargs, rfl, rfl, h0, r0⟩ := trodAll_cons hA
  obtain ⟨v1, vs1, d1, ds1, p1, q1, rfl, rfl, rfl, h1, r1⟩ := trodAll_cons r0
  obtain ⟨rfl, rfl, rfl⟩ := trodAll_nil r1
  obtain rfl : args = #[v0, v1] := by cases args; simp_all
  obtain ⟨rfl, rfl⟩ := trodVars_none hV
  have k0 := h0
  have lt0 : ∀ x ∈ p0, x.block < W.heap.size := by obtain ⟨m, hm⟩ := k0; exact DataW.trod_lt m _ _ _ hm
  obtain ⟨g0, a0, len0, cap0, z0, rfl, w0⟩ := open_big (e := 3) Try.underlying24 (by kernel_rfl) (by kernel_rfl) Try.underlying4 Try.underlying22 Try.underlying3 (by kernel_rfl) (hval 0 24 v0 rfl rfl) h0
  have k1 := h1
  have lt1 : ∀ x ∈ p1, x.block < W.heap.size := by obtain ⟨m, hm⟩ := k1; exact DataW.trod_lt m _ _ _ hm
  obtain ⟨g1, a1, len1, cap1, z1, rfl, w1⟩ := open_big (e := 3) Try.underlying24 (by kernel_rfl) (by kernel_rfl) Try.underlying4 Try.underlying22 Try.underlying3 (by kernel_rfl) (hval 1 24 v1 rfl rfl) h1
  clear hA0 hval0
  refine (walk (w := W) g0 a0 len0 cap0 z0 w0 g1 a1 len1 cap1 z1 w1).mono fun e W' ⟨he, bel⟩ => ?_
  subst he
  exact ⟨_, rfl, _, _, _, [], _, [], hW', trodAll_mk1 (shut_bool Try.underlying4 _), (trodAll_cons_mk (Below.trod laidOut (by kernel_rfl) (of_decide_eq_true (by kernel_rfl)) k0 bel lt0) (trodAll_cons_mk (Below.trod laidOut (by kernel_rfl) (of_decide_eq_true (by kernel_rfl)) k1 bel lt1) trodAll_mk0)), rfl, bel.frame _, fun h => by cases h⟩

theorem over : Rows.fnExactBigIntMulRow.holds Try.pinned (OpenSpec.ofChange Rows.fnExactBigIntMulSpec) :=
  OpenClaim.holds_of_wide 9 Try.f9 rfl rfl rfl rfl rfl rfl rfl ⟨rfl, rfl, rfl, rfl, rfl⟩ rfl rfl rfl rfl rfl (by kernel_rfl) Try.func9 (by kernel_rfl)
    (of_decide_eq_true (by kernel_rfl)) (by unfold Func.isWrapper; rw [if_neg (of_decide_eq_false (by kernel_rfl))]; exact ⟨rfl, rfl⟩)
    (fun os started H enc _ => lifted os started H enc)

theorem proved : Rows.FnExactBigIntMulSaid := over
end Go.Proofs.Ytjjbgpgpacopjaa.fnExactBigIntMul
