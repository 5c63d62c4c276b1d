/- The walk of the law: for all arguments the law FnExactRatMax returns true: the program's RatMax answers as the model's; no condition on them. -/
import Derived.Test.YtbfanjalinkmhaaRatLaw
import Derived.Test.YtbfanjalinkmhaaRatS9
import Derived.ProofKit
import Derived.OpenShut
import Derived.ShutString
import Derived.Lib.SmallJoins
namespace Go.Proofs.Ytbfanjalinkmhaa.fnExactRatMax
set_option maxRecDepth 100000
open Go.ChangeShapes Go.WideShapes Go.ChangeAt Go.RowKit Go.Joins Go.Deep
open Go.ChangeMaps (open_string shut_string)

set_option maxRecDepth 100000 in
set_option maxHeartbeats 16000000 in
theorem walk {w : World} (a0g : Bool) (a0m : Option Addr) (len0m cap0m : Nat) (z0m : List Int) (hz0m : IsInts w a0m len0m z0m) (a0d : Option Addr) (len0d cap0d : Nat) (z0d : List Int) (hz0d : IsInts w a0d len0d z0d) (a1g : Bool) (a1m : Option Addr) (len1m cap1m : Nat) (z1m : List Int) (hz1m : IsInts w a1m len1m z1m) (a1d : Option Addr) (len1d cap1d : Nat) (z1d : List Int) (hz1d : IsInts w a1d len1d z1d) :
    Calls Try.prog 16 #[.agg #[.bool a0g, .slice a0m len0m cap0m, .slice a0d len0d cap0d], .agg #[.bool a1g, .slice a1m len1m cap1m, .slice a1d len1d cap1d]] w fun e w' => e = .returned (.bool true) ∧ Below w.heap.size w w' := by
  have hmz0m : len0m ≤ maxLen := hz0m.2.1
  have Hz0m := Lib.hid hz0m
  clear hz0m
  have hmz0d : len0d ≤ maxLen := hz0d.2.1
  have Hz0d := Lib.hid hz0d
  clear hz0d
  have hmz1m : len1m ≤ maxLen := hz1m.2.1
  have Hz1m := Lib.hid hz1m
  clear hz1m
  have hmz1d : len1d ≤ maxLen := hz1d.2.1
  have Hz1d := Lib.hid hz1d
  clear hz1d
  unfold maxLen at hmz0m hmz0d hmz1m hmz1d
  have BW0 : Hid (Below w.heap.size w w) := Below.refl _ _
  have BW1 := Lib.hid (BW0.out.alloc BW0.out.size (.cells #[.bool a0g, .slice a0m len0m cap0m, .slice a0d len0d cap0d] 26))
  have XaR_1 := Lib.hid (by have := Box.new w 26 #[.bool a0g, .slice a0m len0m cap0m, .slice a0d len0d cap0d]; simpa using this : Box (w.alloc (.cells #[.bool a0g, .slice a0m len0m cap0m, .slice a0d len0d cap0d] 26)) (w.heap.size) 26 #[.bool a0g, .slice a0m len0m cap0m, .slice a0d len0d cap0d])
  have sz1 : w.heap.size ≤ (w.alloc (.cells #[.bool a0g, .slice a0m len0m cap0m, .slice a0d len0d cap0d] 26)).heap.size := (by simp)
  have BW2 := Lib.hid (BW1.out.alloc BW1.out.size (.cells #[.bool a1g, .slice a1m len1m cap1m, .slice a1d len1d cap1d] 26))
  have XaR_2 := Lib.hid (XaR_1.out.alloc (.cells #[.bool a1g, .slice a1m len1m cap1m, .slice a1d len1d cap1d] 26))
  have XaS_2 := Lib.hid (by have := Box.new (w.alloc (.cells #[.bool a0g, .slice a0m len0m cap0m, .slice a0d len0d cap0d] 26)) 26 #[.bool a1g, .slice a1m len1m cap1m, .slice a1d len1d cap1d]; simpa using this : Box ((w.alloc (.cells #[.bool a0g, .slice a0m len0m cap0m, .slice a0d len0d cap0d] 26)).alloc (.cells #[.bool a1g, .slice a1m len1m cap1m, .slice a1d len1d cap1d] 26)) (w.heap.size + 1) 26 #[.bool a1g, .slice a1m len1m cap1m, .slice a1d len1d cap1d])
  have sz2 : (w.alloc (.cells #[.bool a0g, .slice a0m len0m cap0m, .slice a0d len0d cap0d] 26)).heap.size ≤ ((w.alloc (.cells #[.bool a0g, .slice a0m len0m cap0m, .slice a0d len0d cap0d] 26)).alloc (.cells #[.bool a1g, .slice a1m len1m cap1m, .slice a1d len1d cap1d] 26)).heap.size := (by simp)
  by_cases bigs0 : (1048576 : Int) - (len0m : Int) - (len0d : Int) < 0
  · go_enter Try.func16, Try.ntmps16
    go_wp2_with fail
    refine (szRat_neg a0g a0m len0m cap0m a0d len0d cap0d ((1048576 : Int)) _ (by omega) (by omega) (by unfold maxLen; omega) (by unfold maxLen; omega) (by omega)).mono ?_
    rintro e ws0 ⟨rfl, hb⟩
    have BW3 := Lib.hid (BW2.out.trans (hb.mono BW2.out.size))
    have sz3 : ((w.alloc (.cells #[.bool a0g, .slice a0m len0m cap0m, .slice a0d len0d cap0d] 26)).alloc (.cells #[.bool a1g, .slice a1m len1m cap1m, .slice a1d len1d cap1d] 26)).heap.size ≤ ws0.heap.size := hb.size
    have XaR_3 := Lib.hid (XaR_2.out.below hb XaR_2.out.lt)
    have XaS_3 := Lib.hid (XaS_2.out.below hb XaS_2.out.lt)
    clear hb
    go_wp2_with fail
    go_ret
    exact ⟨rfl, BW3.out⟩
  by_cases bigs1 : (1048576 : Int) - (len0m : Int) - (len0d : Int) - (len1m : Int) - (len1d : Int) < 0
  · go_enter Try.func16, Try.ntmps16
    go_wp2_with fail
    refine (szRat_pos a0g a0m len0m cap0m a0d len0d cap0d ((1048576 : Int)) _ (by omega) (by omega)  (by omega)).mono ?_
    rintro e ws0 ⟨rfl, hb⟩
    have BW3 := Lib.hid (BW2.out.trans (hb.mono BW2.out.size))
    have sz3 : ((w.alloc (.cells #[.bool a0g, .slice a0m len0m cap0m, .slice a0d len0d cap0d] 26)).alloc (.cells #[.bool a1g, .slice a1m len1m cap1m, .slice a1d len1d cap1d] 26)).heap.size ≤ ws0.heap.size := hb.size
    have XaR_3 := Lib.hid (XaR_2.out.below hb XaR_2.out.lt)
    have XaS_3 := Lib.hid (XaS_2.out.below hb XaS_2.out.lt)
    clear hb
    have eaS0a : ws0.cell? ⟨w.heap.size + 1, 0, none⟩ = some (.bool a1g) := XaS_3.out.cell 0
    have eaS1a : ws0.cell? ⟨w.heap.size + 1, 1, none⟩ = some (.slice a1m len1m cap1m) := XaS_3.out.cell 1
    have eaS2a : ws0.cell? ⟨w.heap.size + 1, 2, none⟩ = some (.slice a1d len1d cap1d) := XaS_3.out.cell 2
    go_wp2_with fail
    clear eaS0a eaS1a eaS2a
    refine (szRat_neg a1g a1m len1m cap1m a1d len1d cap1d ((1048576 : Int) - (len0m : Int) - (len0d : Int)) _ (by omega) (by omega) (by unfold maxLen; omega) (by unfold maxLen; omega) (by omega)).mono ?_
    rintro e ws1 ⟨rfl, hb⟩
    have BW4 := Lib.hid (BW3.out.trans (hb.mono BW3.out.size))
    have sz4 : ws0.heap.size ≤ ws1.heap.size := hb.size
    have XaR_4 := Lib.hid (XaR_3.out.below hb XaR_3.out.lt)
    have XaS_4 := Lib.hid (XaS_3.out.below hb XaS_3.out.lt)
    clear hb
    go_wp2_with fail
    go_ret
    exact ⟨rfl, BW4.out⟩
  have Inz0m : Hid (InI w a0m len0m z0m) := ⟨Hz0m.out.1, by omega, Hz0m.out.2.2.1, Hz0m.out.2.2.2⟩
  have Inz0d : Hid (InI w a0d len0d z0d) := ⟨Hz0d.out.1, by omega, Hz0d.out.2.2.1, Hz0d.out.2.2.2⟩
  have Inz1m : Hid (InI w a1m len1m z1m) := ⟨Hz1m.out.1, by omega, Hz1m.out.2.2.1, Hz1m.out.2.2.2⟩
  have Inz1d : Hid (InI w a1d len1d z1d) := ⟨Hz1d.out.1, by omega, Hz1d.out.2.2.1, Hz1d.out.2.2.2⟩
  go_enter Try.func16, Try.ntmps16
  go_wp2_with fail
  refine (szRat_pos a0g a0m len0m cap0m a0d len0d cap0d ((1048576 : Int)) _ (by omega) (by omega)  (by omega)).mono ?_
  rintro e ws0 ⟨rfl, hb⟩
  have BW3 := Lib.hid (BW2.out.trans (hb.mono BW2.out.size))
  have sz3 : ((w.alloc (.cells #[.bool a0g, .slice a0m len0m cap0m, .slice a0d len0d cap0d] 26)).alloc (.cells #[.bool a1g, .slice a1m len1m cap1m, .slice a1d len1d cap1d] 26)).heap.size ≤ ws0.heap.size := hb.size
  have XaR_3 := Lib.hid (XaR_2.out.below hb XaR_2.out.lt)
  have XaS_3 := Lib.hid (XaS_2.out.below hb XaS_2.out.lt)
  clear hb
  have eaS0a : ws0.cell? ⟨w.heap.size + 1, 0, none⟩ = some (.bool a1g) := XaS_3.out.cell 0
  have eaS1a : ws0.cell? ⟨w.heap.size + 1, 1, none⟩ = some (.slice a1m len1m cap1m) := XaS_3.out.cell 1
  have eaS2a : ws0.cell? ⟨w.heap.size + 1, 2, none⟩ = some (.slice a1d len1d cap1d) := XaS_3.out.cell 2
  go_wp2_with fail
  clear eaS0a eaS1a eaS2a
  refine (szRat_pos a1g a1m len1m cap1m a1d len1d cap1d ((1048576 : Int) - (len0m : Int) - (len0d : Int)) _ (by omega) (by omega)  (by omega)).mono ?_
  rintro e ws1 ⟨rfl, hb⟩
  have BW4 := Lib.hid (BW3.out.trans (hb.mono BW3.out.size))
  have sz4 : ws0.heap.size ≤ ws1.heap.size := hb.size
  have XaR_4 := Lib.hid (XaR_3.out.below hb XaR_3.out.lt)
  have XaS_4 := Lib.hid (XaS_3.out.below hb XaS_3.out.lt)
  clear hb
  go_upto_region 8 with fail
  go_cut [6] (fun s6 wx => ∃ (gb : Nat) (r1_00 : Bool) (r1_01 : List Int) (r1_02 : List Int) (N01 : Nat) (N02 : Nat) (Aw0m : Option Addr) (cw0m : Nat) (Aw0d : Option Addr) (cw0d : Nat), s6 = .pointer (some ⟨gb, 0, none⟩) ∧ Hid (RatMaxIs a0g z0m z0d a1g z1m z1d r1_00 r1_01 r1_02) ∧ Hid (r1_01.length = N01) ∧ N01 ≤ 4194304 ∧ Hid (r1_02.length = N02) ∧ N02 ≤ 4194304 ∧ Hid (wx.ownsRow ws1.heap.size 3 1 (.slice Aw0m N01 cw0m) N01 (r1_01.map (.int .i64))) ∧ Hid (wx.ownsRow ws1.heap.size 3 1 (.slice Aw0d N02 cw0d) N02 (r1_02.map (.int .i64))) ∧ Hid (Box wx gb 31 #[.bool r1_00, .slice Aw0m N01 cw0m, .slice Aw0d N02 cw0d]) ∧ Hid (Apart (.slice Aw0d N02 cw0d) (.slice Aw0m N01 cw0m)) ∧ Hid (Below w.heap.size w wx) ∧ ws1.heap.size ≤ wx.heap.size ∧ Hid (Box wx (w.heap.size) 26 #[.bool a0g, .slice a0m len0m cap0m, .slice a0d len0d cap0d]) ∧ Hid (Box wx (w.heap.size + 1) 26 #[.bool a1g, .slice a1m len1m cap1m, .slice a1d len1d cap1d]))
  case first =>
    have BW5 := Lib.hid BW4.out.drew
    have sz5 : ws1.heap.size ≤ ws1.drew.heap.size := Nat.le_refl _
    have XaR_5 := Lib.hid XaR_4.out.drew
    have XaS_5 := Lib.hid XaS_4.out.drew
    have cvaR0 : Hid ((#[.bool a0g, .slice a0m len0m cap0m, .slice a0d len0d cap0d] : Array Value)[0]? = some (.bool a0g)) := rfl
    have cvaR1 : Hid ((#[.bool a0g, .slice a0m len0m cap0m, .slice a0d len0d cap0d] : Array Value)[1]? = some (.slice a0m len0m cap0m)) := rfl
    have cvaR2 : Hid ((#[.bool a0g, .slice a0m len0m cap0m, .slice a0d len0d cap0d] : Array Value)[2]? = some (.slice a0d len0d cap0d)) := rfl
    have cvaS0 : Hid ((#[.bool a1g, .slice a1m len1m cap1m, .slice a1d len1d cap1d] : Array Value)[0]? = some (.bool a1g)) := rfl
    have cvaS1 : Hid ((#[.bool a1g, .slice a1m len1m cap1m, .slice a1d len1d cap1d] : Array Value)[1]? = some (.slice a1m len1m cap1m)) := rfl
    have cvaS2 : Hid ((#[.bool a1g, .slice a1m len1m cap1m, .slice a1d len1d cap1d] : Array Value)[2]? = some (.slice a1d len1d cap1d)) := rfl
    go_region_held3 (fun w' => w'.cell? ⟨w.heap.size, 0, none⟩ = some (.bool a0g) ∧ w'.cell? ⟨w.heap.size, 1, none⟩ = some (.slice a0m len0m cap0m) ∧ w'.cell? ⟨w.heap.size, 2, none⟩ = some (.slice a0d len0d cap0d) ∧ w'.cell? ⟨w.heap.size + 1, 0, none⟩ = some (.bool a1g) ∧ w'.cell? ⟨w.heap.size + 1, 1, none⟩ = some (.slice a1m len1m cap1m) ∧ w'.cell? ⟨w.heap.size + 1, 2, none⟩ = some (.slice a1d len1d cap1d)) (first | with_reducible exact ⟨cellS XaR_8 cvaR0, cellS XaR_8 cvaR1, cellS XaR_8 cvaR2, cellS XaS_8 cvaS0, cellS XaS_8 cvaS1, cellS XaS_8 cvaS2⟩ | with_reducible exact ⟨cellS (hAlloc XaR_8 _) cvaR0, cellS (hAlloc XaR_8 _) cvaR1, cellS (hAlloc XaR_8 _) cvaR2, cellS (hAlloc XaS_8 _) cvaS0, cellS (hAlloc XaS_8 _) cvaS1, cellS (hAlloc XaS_8 _) cvaS2⟩ | with_reducible exact ⟨cellS (hFar (hFar (hFar XaR_8 (by have := XaR_4.out.lt; dsimp only; omega) _) (by have := XaR_4.out.lt; dsimp only; omega) _) (by have := XaR_4.out.lt; dsimp only; omega) _) cvaR0, cellS (hFar (hFar (hFar XaR_8 (by have := XaR_4.out.lt; dsimp only; omega) _) (by have := XaR_4.out.lt; dsimp only; omega) _) (by have := XaR_4.out.lt; dsimp only; omega) _) cvaR1, cellS (hFar (hFar (hFar XaR_8 (by have := XaR_4.out.lt; dsimp only; omega) _) (by have := XaR_4.out.lt; dsimp only; omega) _) (by have := XaR_4.out.lt; dsimp only; omega) _) cvaR2, cellS (hFar (hFar (hFar XaS_8 (by have := XaS_4.out.lt; dsimp only; omega) _) (by have := XaS_4.out.lt; dsimp only; omega) _) (by have := XaS_4.out.lt; dsimp only; omega) _) cvaS0, cellS (hFar (hFar (hFar XaS_8 (by have := XaS_4.out.lt; dsimp only; omega) _) (by have := XaS_4.out.lt; dsimp only; omega) _) (by have := XaS_4.out.lt; dsimp only; omega) _) cvaS1, cellS (hFar (hFar (hFar XaS_8 (by have := XaS_4.out.lt; dsimp only; omega) _) (by have := XaS_4.out.lt; dsimp only; omega) _) (by have := XaS_4.out.lt; dsimp only; omega) _) cvaS2⟩ | with_reducible exact ⟨cellS XaR_7 cvaR0, cellS XaR_7 cvaR1, cellS XaR_7 cvaR2, cellS XaS_7 cvaS0, cellS XaS_7 cvaS1, cellS XaS_7 cvaS2⟩ | with_reducible exact ⟨cellS (hAlloc XaR_7 _) cvaR0, cellS (hAlloc XaR_7 _) cvaR1, cellS (hAlloc XaR_7 _) cvaR2, cellS (hAlloc XaS_7 _) cvaS0, cellS (hAlloc XaS_7 _) cvaS1, cellS (hAlloc XaS_7 _) cvaS2⟩ | with_reducible exact ⟨cellS XaR_6 cvaR0, cellS XaR_6 cvaR1, cellS XaR_6 cvaR2, cellS XaS_6 cvaS0, cellS XaS_6 cvaS1, cellS XaS_6 cvaS2⟩ | with_reducible exact ⟨cellS (hAlloc XaR_6 _) cvaR0, cellS (hAlloc XaR_6 _) cvaR1, cellS (hAlloc XaR_6 _) cvaR2, cellS (hAlloc XaS_6 _) cvaS0, cellS (hAlloc XaS_6 _) cvaS1, cellS (hAlloc XaS_6 _) cvaS2⟩ | with_reducible exact ⟨cellS XaR_5 cvaR0, cellS XaR_5 cvaR1, cellS XaR_5 cvaR2, cellS XaS_5 cvaS0, cellS XaS_5 cvaS1, cellS XaS_5 cvaS2⟩ | with_reducible exact ⟨cellS (hAlloc XaR_5 _) cvaR0, cellS (hAlloc XaR_5 _) cvaR1, cellS (hAlloc XaR_5 _) cvaR2, cellS (hAlloc XaS_5 _) cvaS0, cellS (hAlloc XaS_5 _) cvaS1, cellS (hAlloc XaS_5 _) cvaS2⟩ | with_reducible exact ⟨cellS (hDrew (hAlloc XaR_4 _)) cvaR0, cellS (hDrew (hAlloc XaR_4 _)) cvaR1, cellS (hDrew (hAlloc XaR_4 _)) cvaR2, cellS (hDrew (hAlloc XaS_4 _)) cvaS0, cellS (hDrew (hAlloc XaS_4 _)) cvaS1, cellS (hDrew (hAlloc XaS_4 _)) cvaS2⟩) (first | (go_at_call 53; first | ((with_reducible refine (spec_ratMax a0g At1m len0m ct1m z0m At1d len0d ct1d z0d a1g At2m len1m ct2m z1m At2d len1d ct2d z1d _ (Inz0m.out.own Ot1m_7.out) (room_own Ot1m_7.out) (Inz0d.out.own Ot1d_7.out) (room_own Ot1d_7.out) (Inz1m.out.own Ot2m_7.out) (room_own Ot2m_7.out) (Inz1d.out.own Ot2d_7.out) (room_own Ot2d_7.out)).mono ?_); rintro e w3 ⟨r1_00, r1_01, v1_01, r1_02, v1_02, rfl, his, ho01, ho02, hap10, hb⟩; have BW8 := Lib.hid (BW7.out.trans (hb.mono BW7.out.size)); have sz8 : w2.heap.size ≤ w3.heap.size := Nat.le_trans (by simp) hb.size; have Ot1m_8 := Lib.hid (own_below Ot1m_7.out hb); have Ot1d_8 := Lib.hid (own_below Ot1d_7.out hb); have Ot2m_8 := Lib.hid (own_below Ot2m_7.out hb); have Ot2d_8 := Lib.hid (own_below Ot2d_7.out hb); have XaR_8 := Lib.hid (XaR_7.out.below hb XaR_7.out.lt); have XaS_8 := Lib.hid (XaS_7.out.below hb XaS_7.out.lt); (try (have NN_8 := Lib.hid (NN_7.out.below hb NN_7.out.lt))); clear hb; have IS := Lib.hid his; clear his; obtain ⟨hl, ho01⟩ := ho01; obtain ⟨N01, hN⟩ : ∃ N, N = r1_01.length := ⟨_, rfl⟩; rw [← hN] at hl ho01; have HN01 := Lib.hid hN.symm; have hl01 := hl; clear hN hl; obtain ⟨hl, ho02⟩ := ho02; obtain ⟨N02, hN⟩ : ∃ N, N = r1_02.length := ⟨_, rfl⟩; rw [← hN] at hl ho02; have HN02 := Lib.hid hN.symm; have hl02 := hl; clear hN hl; obtain ⟨Aw0m, cw0m, rfl⟩ := own_slice ho01; have Uw0m := Lib.hid (fun k (hk : (Value.slice Aw0m N01 cw0m).ownBlock = some k) => (ho01.lt k hk).2); have Ow0m_8 := Lib.hid ho01; clear ho01; obtain ⟨Aw0d, cw0d, rfl⟩ := own_slice ho02; have Uw0d := Lib.hid (fun k (hk : (Value.slice Aw0d N02 cw0d).ownBlock = some k) => (ho02.lt k hk).2); have Ow0d_8 := Lib.hid ho02; clear ho02; have APw0d_w0m := Lib.hid hap10; have APw0m_w0d := Lib.hid hap10.symm; clear hap10; clear Ot1m_8 Ut1m Ot1d_8 Ut1d; clear Ot2m_8 Ut2m Ot2d_8 Ut2d; (try (have eN0 := NN_8.out.cell 0; have eN1 := NN_8.out.cell 1; have eN2 := NN_8.out.cell 2; simp at eN0 eN1 eN2; have fN0 := NN_8.out.free 0; have fN1 := NN_8.out.free 1; have fN2 := NN_8.out.free 2))) | (replace Ot1m_7 := Lib.hid (Ot1m_7.out.alloc (.cells #[.bool false, .slice none 0 0, .slice none 0 0] 31)); replace Ot1d_7 := Lib.hid (Ot1d_7.out.alloc (.cells #[.bool false, .slice none 0 0, .slice none 0 0] 31)); replace Ot2m_7 := Lib.hid (Ot2m_7.out.alloc (.cells #[.bool false, .slice none 0 0, .slice none 0 0] 31)); replace Ot2d_7 := Lib.hid (Ot2d_7.out.alloc (.cells #[.bool false, .slice none 0 0, .slice none 0 0] 31)); replace XaR_7 := Lib.hid (XaR_7.out.alloc (.cells #[.bool false, .slice none 0 0, .slice none 0 0] 31)); replace XaS_7 := Lib.hid (XaS_7.out.alloc (.cells #[.bool false, .slice none 0 0, .slice none 0 0] 31)); replace BW7 := Lib.hid (BW7.out.alloc BW7.out.size (.cells #[.bool false, .slice none 0 0, .slice none 0 0] 31)); have NN_7 := Lib.hid (Box.new w2 31 #[.bool false, .slice none 0 0, .slice none 0 0]); (with_reducible refine (spec_ratMax a0g At1m len0m ct1m z0m At1d len0d ct1d z0d a1g At2m len1m ct2m z1m At2d len1d ct2d z1d _ (Inz0m.out.own Ot1m_7.out) (room_own Ot1m_7.out) (Inz0d.out.own Ot1d_7.out) (room_own Ot1d_7.out) (Inz1m.out.own Ot2m_7.out) (room_own Ot2m_7.out) (Inz1d.out.own Ot2d_7.out) (room_own Ot2d_7.out)).mono ?_); rintro e w3 ⟨r1_00, r1_01, v1_01, r1_02, v1_02, rfl, his, ho01, ho02, hap10, hb⟩; have BW8 := Lib.hid (BW7.out.trans (hb.mono BW7.out.size)); have sz8 : w2.heap.size ≤ w3.heap.size := Nat.le_trans (by simp) hb.size; have Ot1m_8 := Lib.hid (own_below Ot1m_7.out hb); have Ot1d_8 := Lib.hid (own_below Ot1d_7.out hb); have Ot2m_8 := Lib.hid (own_below Ot2m_7.out hb); have Ot2d_8 := Lib.hid (own_below Ot2d_7.out hb); have XaR_8 := Lib.hid (XaR_7.out.below hb XaR_7.out.lt); have XaS_8 := Lib.hid (XaS_7.out.below hb XaS_7.out.lt); (try (have NN_8 := Lib.hid (NN_7.out.below hb NN_7.out.lt))); clear hb; have IS := Lib.hid his; clear his; obtain ⟨hl, ho01⟩ := ho01; obtain ⟨N01, hN⟩ : ∃ N, N = r1_01.length := ⟨_, rfl⟩; rw [← hN] at hl ho01; have HN01 := Lib.hid hN.symm; have hl01 := hl; clear hN hl; obtain ⟨hl, ho02⟩ := ho02; obtain ⟨N02, hN⟩ : ∃ N, N = r1_02.length := ⟨_, rfl⟩; rw [← hN] at hl ho02; have HN02 := Lib.hid hN.symm; have hl02 := hl; clear hN hl; obtain ⟨Aw0m, cw0m, rfl⟩ := own_slice ho01; have Uw0m := Lib.hid (fun k (hk : (Value.slice Aw0m N01 cw0m).ownBlock = some k) => (ho01.lt k hk).2); have Ow0m_8 := Lib.hid ho01; clear ho01; obtain ⟨Aw0d, cw0d, rfl⟩ := own_slice ho02; have Uw0d := Lib.hid (fun k (hk : (Value.slice Aw0d N02 cw0d).ownBlock = some k) => (ho02.lt k hk).2); have Ow0d_8 := Lib.hid ho02; clear ho02; have APw0d_w0m := Lib.hid hap10; have APw0m_w0d := Lib.hid hap10.symm; clear hap10; clear Ot1m_8 Ut1m Ot1d_8 Ut1d; clear Ot2m_8 Ut2m Ot2d_8 Ut2d; (try (have eN0 := NN_8.out.cell 0; have eN1 := NN_8.out.cell 1; have eN2 := NN_8.out.cell 2; simp at eN0 eN1 eN2; have fN0 := NN_8.out.free 0; have fN1 := NN_8.out.free 1; have fN2 := NN_8.out.free 2)))) | (go_at_call 20; first | ((with_reducible refine (toRat_any a1g a1m len1m cap1m z1m a1d len1d cap1d z1d _ Inz1m.out.len Inz1m.out.le (Inz1m.out.rd.below BW6.out) Inz1d.out.len Inz1d.out.le (Inz1d.out.rd.below BW6.out)).mono ?_); rintro e w2 ⟨v0, v1, rfl, ho0, ho1, hap10, hb⟩; have BW7 := Lib.hid (BW6.out.trans (hb.mono BW6.out.size)); have sz7 : w1.heap.size ≤ w2.heap.size := Nat.le_trans (by simp) hb.size; have Ot1m_7 := Lib.hid (own_below Ot1m_6.out hb); have Ot1d_7 := Lib.hid (own_below Ot1d_6.out hb); have XaR_7 := Lib.hid (XaR_6.out.below hb XaR_6.out.lt); have XaS_7 := Lib.hid (XaS_6.out.below hb XaS_6.out.lt); (try (have NN_7 := Lib.hid (NN_6.out.below hb NN_6.out.lt))); obtain ⟨At2m, ct2m, rfl⟩ := own_slice ho0; have Ut2m := Lib.hid (fun k (hk : (Value.slice At2m len1m ct2m).ownBlock = some k) => (ho0.lt k hk).2); have Ot2m_7 := Lib.hid ho0; clear ho0; obtain ⟨At2d, ct2d, rfl⟩ := own_slice ho1; have Ut2d := Lib.hid (fun k (hk : (Value.slice At2d len1d ct2d).ownBlock = some k) => (ho1.lt k hk).2); have Ot2d_7 := Lib.hid ho1; clear ho1; have APt2d_t2m := Lib.hid hap10; have APt2m_t2d := Lib.hid hap10.symm; clear hap10; clear hb) | (replace Ot1m_6 := Lib.hid (Ot1m_6.out.alloc (.cells #[.bool false, .slice none 0 0, .slice none 0 0] 31)); replace Ot1d_6 := Lib.hid (Ot1d_6.out.alloc (.cells #[.bool false, .slice none 0 0, .slice none 0 0] 31)); replace XaR_6 := Lib.hid (XaR_6.out.alloc (.cells #[.bool false, .slice none 0 0, .slice none 0 0] 31)); replace XaS_6 := Lib.hid (XaS_6.out.alloc (.cells #[.bool false, .slice none 0 0, .slice none 0 0] 31)); replace BW6 := Lib.hid (BW6.out.alloc BW6.out.size (.cells #[.bool false, .slice none 0 0, .slice none 0 0] 31)); have NN_6 := Lib.hid (Box.new w1 31 #[.bool false, .slice none 0 0, .slice none 0 0]); (with_reducible refine (toRat_any a1g a1m len1m cap1m z1m a1d len1d cap1d z1d _ Inz1m.out.len Inz1m.out.le (Inz1m.out.rd.below BW6.out) Inz1d.out.len Inz1d.out.le (Inz1d.out.rd.below BW6.out)).mono ?_); rintro e w2 ⟨v0, v1, rfl, ho0, ho1, hap10, hb⟩; have BW7 := Lib.hid (BW6.out.trans (hb.mono BW6.out.size)); have sz7 : w1.heap.size ≤ w2.heap.size := Nat.le_trans (by simp) hb.size; have Ot1m_7 := Lib.hid (own_below Ot1m_6.out hb); have Ot1d_7 := Lib.hid (own_below Ot1d_6.out hb); have XaR_7 := Lib.hid (XaR_6.out.below hb XaR_6.out.lt); have XaS_7 := Lib.hid (XaS_6.out.below hb XaS_6.out.lt); (try (have NN_7 := Lib.hid (NN_6.out.below hb NN_6.out.lt))); obtain ⟨At2m, ct2m, rfl⟩ := own_slice ho0; have Ut2m := Lib.hid (fun k (hk : (Value.slice At2m len1m ct2m).ownBlock = some k) => (ho0.lt k hk).2); have Ot2m_7 := Lib.hid ho0; clear ho0; obtain ⟨At2d, ct2d, rfl⟩ := own_slice ho1; have Ut2d := Lib.hid (fun k (hk : (Value.slice At2d len1d ct2d).ownBlock = some k) => (ho1.lt k hk).2); have Ot2d_7 := Lib.hid ho1; clear ho1; have APt2d_t2m := Lib.hid hap10; have APt2m_t2d := Lib.hid hap10.symm; clear hap10; clear hb)) | (go_at_call 20; first | ((with_reducible refine (toRat_any a0g a0m len0m cap0m z0m a0d len0d cap0d z0d _ Inz0m.out.len Inz0m.out.le (Inz0m.out.rd.below BW5.out) Inz0d.out.len Inz0d.out.le (Inz0d.out.rd.below BW5.out)).mono ?_); rintro e w1 ⟨v0, v1, rfl, ho0, ho1, hap10, hb⟩; have BW6 := Lib.hid (BW5.out.trans (hb.mono BW5.out.size)); have sz6 : ws1.drew.heap.size ≤ w1.heap.size := Nat.le_trans (by simp) hb.size; have XaR_6 := Lib.hid (XaR_5.out.below hb XaR_5.out.lt); have XaS_6 := Lib.hid (XaS_5.out.below hb XaS_5.out.lt); (try (have NN_6 := Lib.hid (NN_5.out.below hb NN_5.out.lt))); obtain ⟨At1m, ct1m, rfl⟩ := own_slice ho0; have Ut1m := Lib.hid (fun k (hk : (Value.slice At1m len0m ct1m).ownBlock = some k) => (ho0.lt k hk).2); have Ot1m_6 := Lib.hid ho0; clear ho0; obtain ⟨At1d, ct1d, rfl⟩ := own_slice ho1; have Ut1d := Lib.hid (fun k (hk : (Value.slice At1d len0d ct1d).ownBlock = some k) => (ho1.lt k hk).2); have Ot1d_6 := Lib.hid ho1; clear ho1; have APt1d_t1m := Lib.hid hap10; have APt1m_t1d := Lib.hid hap10.symm; clear hap10; clear hb) | (replace XaR_5 := Lib.hid (XaR_4.out.alloc (.cells #[.bool false, .slice none 0 0, .slice none 0 0] 31)).drew; replace XaS_5 := Lib.hid (XaS_4.out.alloc (.cells #[.bool false, .slice none 0 0, .slice none 0 0] 31)).drew; replace BW5 := Lib.hid (BW4.out.alloc BW4.out.size (.cells #[.bool false, .slice none 0 0, .slice none 0 0] 31)).drew; have NN_5 := Lib.hid (Box.new ws1 31 #[.bool false, .slice none 0 0, .slice none 0 0]).drew; (with_reducible refine (toRat_any a0g a0m len0m cap0m z0m a0d len0d cap0d z0d _ Inz0m.out.len Inz0m.out.le (Inz0m.out.rd.below BW5.out) Inz0d.out.len Inz0d.out.le (Inz0d.out.rd.below BW5.out)).mono ?_); rintro e w1 ⟨v0, v1, rfl, ho0, ho1, hap10, hb⟩; have BW6 := Lib.hid (BW5.out.trans (hb.mono BW5.out.size)); have sz6 : ws1.drew.heap.size ≤ w1.heap.size := Nat.le_trans (by simp) hb.size; have XaR_6 := Lib.hid (XaR_5.out.below hb XaR_5.out.lt); have XaS_6 := Lib.hid (XaS_5.out.below hb XaS_5.out.lt); (try (have NN_6 := Lib.hid (NN_5.out.below hb NN_5.out.lt))); obtain ⟨At1m, ct1m, rfl⟩ := own_slice ho0; have Ut1m := Lib.hid (fun k (hk : (Value.slice At1m len0m ct1m).ownBlock = some k) => (ho0.lt k hk).2); have Ot1m_6 := Lib.hid ho0; clear ho0; obtain ⟨At1d, ct1d, rfl⟩ := own_slice ho1; have Ut1d := Lib.hid (fun k (hk : (Value.slice At1d len0d ct1d).ownBlock = some k) => (ho1.lt k hk).2); have Ot1d_6 := Lib.hid ho1; clear ho1; have APt1d_t1m := Lib.hid hap10; have APt1m_t1d := Lib.hid hap10.symm; clear hap10; clear hb)))
    all_goals (go_wp2_with fail; go_meet; first | exact ⟨_, r1_00, r1_01, r1_02, N01, N02, _, _, _, _, rfl, IS, HN01, hl01, HN02, hl02, own_base (Ow0m_8.out.alloc _) (by first | omega | (simp; omega)), own_base (Ow0d_8.out.alloc _) (by first | omega | (simp; omega)), Box.new _ _ _, APw0d_w0m, BW8.out.alloc BW8.out.size _, (by simp; omega), XaR_8.out.alloc _, XaS_8.out.alloc _⟩ | exact ⟨_, r1_00, r1_01, r1_02, N01, N02, _, _, _, _, rfl, IS, HN01, hl01, HN02, hl02, own_base ((own_box (own_box (own_box Ow0m_8.out NN_8.out 0 _) (NN_8.out.set_ 0 _) 1 _) ((NN_8.out.set_ 0 _).set_ 1 _) 2 _)) (by first | omega | (simp; omega)), own_base ((own_box (own_box (own_box Ow0d_8.out NN_8.out 0 _) (NN_8.out.set_ 0 _) 1 _) ((NN_8.out.set_ 0 _).set_ 1 _) 2 _)) (by first | omega | (simp; omega)), (((NN_8.out.set_ 0 _).set_ 1 _).set_ 2 _), APw0d_w0m, (((BW8.out.setCell (by dsimp only; omega) _).setCell (by dsimp only; omega) _).setCell (by dsimp only; omega) _), (by simp; omega), (((XaR_8.out.far (by have := XaR_4.out.lt; dsimp only; omega) _).far (by have := XaR_4.out.lt; dsimp only; omega) _).far (by have := XaR_4.out.lt; dsimp only; omega) _), (((XaS_8.out.far (by have := XaS_4.out.lt; dsimp only; omega) _).far (by have := XaS_4.out.lt; dsimp only; omega) _).far (by have := XaS_4.out.lt; dsimp only; omega) _)⟩)
  obtain ⟨gb1, r1_00, r1_01, r1_02, N01, N02, Aw0m, cw0m, Aw0d, cw0d, rfl, IS, HN01, hl01, HN02, hl02, Ow0m_5, Ow0d_5, Xw0_5, APw0d_w0m, BW5, sz5, XaR_5, XaS_5⟩ := hcut
  obtain ⟨wc1, rfl⟩ : ∃ q, q = wc := ⟨_, rfl⟩
  have APw0m_w0d := Lib.hid APw0d_w0m.out.symm
  have Uw0m := Lib.hid (fun k (hk : (Value.slice Aw0m N01 cw0m).ownBlock = some k) => (Ow0m_5.out.lt k hk).2)
  have Uw0d := Lib.hid (fun k (hk : (Value.slice Aw0d N02 cw0d).ownBlock = some k) => (Ow0d_5.out.lt k hk).2)
  have eaR0a : wc1.cell? ⟨w.heap.size, 0, none⟩ = some (.bool a0g) := XaR_5.out.cell 0
  have eaR1a : wc1.cell? ⟨w.heap.size, 1, none⟩ = some (.slice a0m len0m cap0m) := XaR_5.out.cell 1
  have eaR2a : wc1.cell? ⟨w.heap.size, 2, none⟩ = some (.slice a0d len0d cap0d) := XaR_5.out.cell 2
  go_wp2_with fail
  clear eaR0a eaR1a eaR2a
  refine (toRat_any a0g a0m len0m cap0m z0m a0d len0d cap0d z0d _ Inz0m.out.len Inz0m.out.le (Inz0m.out.rd.below BW5.out) Inz0d.out.len Inz0d.out.le (Inz0d.out.rd.below BW5.out)).mono ?_
  rintro e w4 ⟨v0, v1, rfl, ho0, ho1, hap10, hb⟩
  have BW6 := Lib.hid (BW5.out.trans (hb.mono BW5.out.size))
  have sz6 : wc1.heap.size ≤ w4.heap.size := hb.size
  have Ow0m_6 := Lib.hid (own_below Ow0m_5.out hb)
  have Ow0d_6 := Lib.hid (own_below Ow0d_5.out hb)
  have XaR_6 := Lib.hid (XaR_5.out.below hb XaR_5.out.lt)
  have XaS_6 := Lib.hid (XaS_5.out.below hb XaS_5.out.lt)
  have Xw0_6 := Lib.hid (Xw0_5.out.below hb Xw0_5.out.lt)
  obtain ⟨Ax0m, cx0m, rfl⟩ := own_slice ho0
  have Ux0m := Lib.hid (fun k (hk : (Value.slice Ax0m len0m cx0m).ownBlock = some k) => (ho0.lt k hk).2)
  have Ox0m_6 := Lib.hid ho0
  clear ho0
  obtain ⟨Ax0d, cx0d, rfl⟩ := own_slice ho1
  have Ux0d := Lib.hid (fun k (hk : (Value.slice Ax0d len0d cx0d).ownBlock = some k) => (ho1.lt k hk).2)
  have Ox0d_6 := Lib.hid ho1
  clear ho1
  have APx0d_x0m := Lib.hid hap10
  have APx0m_x0d := Lib.hid hap10.symm
  clear hap10
  clear hb
  have BW7 := Lib.hid (BW6.out.alloc BW6.out.size (.cells #[.bool a0g, .slice Ax0m len0m cx0m, .slice Ax0d len0d cx0d] 31))
  have sz7 : w4.heap.size ≤ (w4.alloc (.cells #[.bool a0g, .slice Ax0m len0m cx0m, .slice Ax0d len0d cx0d] 31)).heap.size := (by simp)
  have Ow0m_7 := Lib.hid (Ow0m_6.out.alloc (.cells #[.bool a0g, .slice Ax0m len0m cx0m, .slice Ax0d len0d cx0d] 31))
  have Ow0d_7 := Lib.hid (Ow0d_6.out.alloc (.cells #[.bool a0g, .slice Ax0m len0m cx0m, .slice Ax0d len0d cx0d] 31))
  have Ox0m_7 := Lib.hid (Ox0m_6.out.alloc (.cells #[.bool a0g, .slice Ax0m len0m cx0m, .slice Ax0d len0d cx0d] 31))
  have Ox0d_7 := Lib.hid (Ox0d_6.out.alloc (.cells #[.bool a0g, .slice Ax0m len0m cx0m, .slice Ax0d len0d cx0d] 31))
  have XaR_7 := Lib.hid (XaR_6.out.alloc (.cells #[.bool a0g, .slice Ax0m len0m cx0m, .slice Ax0d len0d cx0d] 31))
  have XaS_7 := Lib.hid (XaS_6.out.alloc (.cells #[.bool a0g, .slice Ax0m len0m cx0m, .slice Ax0d len0d cx0d] 31))
  have Xw0_7 := Lib.hid (Xw0_6.out.alloc (.cells #[.bool a0g, .slice Ax0m len0m cx0m, .slice Ax0d len0d cx0d] 31))
  have Xx0_7 := Lib.hid (Box.new w4 31 #[.bool a0g, .slice Ax0m len0m cx0m, .slice Ax0d len0d cx0d])
  have eaS0a : w4.cell? ⟨w.heap.size + 1, 0, none⟩ = some (.bool a1g) := XaS_6.out.cell 0
  have eaS1a : w4.cell? ⟨w.heap.size + 1, 1, none⟩ = some (.slice a1m len1m cap1m) := XaS_6.out.cell 1
  have eaS2a : w4.cell? ⟨w.heap.size + 1, 2, none⟩ = some (.slice a1d len1d cap1d) := XaS_6.out.cell 2
  have eaS0b : (w4.alloc (.cells #[.bool a0g, .slice Ax0m len0m cx0m, .slice Ax0d len0d cx0d] 31)).cell? ⟨w.heap.size + 1, 0, none⟩ = some (.bool a1g) := XaS_7.out.cell 0
  have eaS1b : (w4.alloc (.cells #[.bool a0g, .slice Ax0m len0m cx0m, .slice Ax0d len0d cx0d] 31)).cell? ⟨w.heap.size + 1, 1, none⟩ = some (.slice a1m len1m cap1m) := XaS_7.out.cell 1
  have eaS2b : (w4.alloc (.cells #[.bool a0g, .slice Ax0m len0m cx0m, .slice Ax0d len0d cx0d] 31)).cell? ⟨w.heap.size + 1, 2, none⟩ = some (.slice a1d len1d cap1d) := XaS_7.out.cell 2
  have neaS0 : w4.heap.size ≠ w.heap.size + 1 := (by have := XaS_6.out.lt; omega)
  go_wp2_with fail
  clear eaS0a eaS1a eaS2a eaS0b eaS1b eaS2b neaS0
  refine (toRat_any a1g a1m len1m cap1m z1m a1d len1d cap1d z1d _ Inz1m.out.len Inz1m.out.le (Inz1m.out.rd.below BW7.out) Inz1d.out.len Inz1d.out.le (Inz1d.out.rd.below BW7.out)).mono ?_
  rintro e w5 ⟨v0, v1, rfl, ho0, ho1, hap10, hb⟩
  have BW8 := Lib.hid (BW7.out.trans (hb.mono BW7.out.size))
  have sz8 : (w4.alloc (.cells #[.bool a0g, .slice Ax0m len0m cx0m, .slice Ax0d len0d cx0d] 31)).heap.size ≤ w5.heap.size := hb.size
  have Ow0m_8 := Lib.hid (own_below Ow0m_7.out hb)
  have Ow0d_8 := Lib.hid (own_below Ow0d_7.out hb)
  have Ox0m_8 := Lib.hid (own_below Ox0m_7.out hb)
  have Ox0d_8 := Lib.hid (own_below Ox0d_7.out hb)
  have XaR_8 := Lib.hid (XaR_7.out.below hb XaR_7.out.lt)
  have XaS_8 := Lib.hid (XaS_7.out.below hb XaS_7.out.lt)
  have Xw0_8 := Lib.hid (Xw0_7.out.below hb Xw0_7.out.lt)
  have Xx0_8 := Lib.hid (Xx0_7.out.below hb Xx0_7.out.lt)
  obtain ⟨Ax1m, cx1m, rfl⟩ := own_slice ho0
  have Ux1m := Lib.hid (fun k (hk : (Value.slice Ax1m len1m cx1m).ownBlock = some k) => (ho0.lt k hk).2)
  have Ox1m_8 := Lib.hid ho0
  clear ho0
  obtain ⟨Ax1d, cx1d, rfl⟩ := own_slice ho1
  have Ux1d := Lib.hid (fun k (hk : (Value.slice Ax1d len1d cx1d).ownBlock = some k) => (ho1.lt k hk).2)
  have Ox1d_8 := Lib.hid ho1
  clear ho1
  have APx1d_x1m := Lib.hid hap10
  have APx1m_x1d := Lib.hid hap10.symm
  clear hap10
  clear hb
  have BW9 := Lib.hid (BW8.out.alloc BW8.out.size (.cells #[.bool a1g, .slice Ax1m len1m cx1m, .slice Ax1d len1d cx1d] 31))
  have sz9 : w5.heap.size ≤ (w5.alloc (.cells #[.bool a1g, .slice Ax1m len1m cx1m, .slice Ax1d len1d cx1d] 31)).heap.size := (by simp)
  have Ow0m_9 := Lib.hid (Ow0m_8.out.alloc (.cells #[.bool a1g, .slice Ax1m len1m cx1m, .slice Ax1d len1d cx1d] 31))
  have Ow0d_9 := Lib.hid (Ow0d_8.out.alloc (.cells #[.bool a1g, .slice Ax1m len1m cx1m, .slice Ax1d len1d cx1d] 31))
  have Ox0m_9 := Lib.hid (Ox0m_8.out.alloc (.cells #[.bool a1g, .slice Ax1m len1m cx1m, .slice Ax1d len1d cx1d] 31))
  have Ox0d_9 := Lib.hid (Ox0d_8.out.alloc (.cells #[.bool a1g, .slice Ax1m len1m cx1m, .slice Ax1d len1d cx1d] 31))
  have Ox1m_9 := Lib.hid (Ox1m_8.out.alloc (.cells #[.bool a1g, .slice Ax1m len1m cx1m, .slice Ax1d len1d cx1d] 31))
  have Ox1d_9 := Lib.hid (Ox1d_8.out.alloc (.cells #[.bool a1g, .slice Ax1m len1m cx1m, .slice Ax1d len1d cx1d] 31))
  have XaR_9 := Lib.hid (XaR_8.out.alloc (.cells #[.bool a1g, .slice Ax1m len1m cx1m, .slice Ax1d len1d cx1d] 31))
  have XaS_9 := Lib.hid (XaS_8.out.alloc (.cells #[.bool a1g, .slice Ax1m len1m cx1m, .slice Ax1d len1d cx1d] 31))
  have Xw0_9 := Lib.hid (Xw0_8.out.alloc (.cells #[.bool a1g, .slice Ax1m len1m cx1m, .slice Ax1d len1d cx1d] 31))
  have Xx0_9 := Lib.hid (Xx0_8.out.alloc (.cells #[.bool a1g, .slice Ax1m len1m cx1m, .slice Ax1d len1d cx1d] 31))
  have Xx1_9 := Lib.hid (Box.new w5 31 #[.bool a1g, .slice Ax1m len1m cx1m, .slice Ax1d len1d cx1d])
  have ex00a : w5.cell? ⟨w4.heap.size, 0, none⟩ = some (.bool a0g) := Xx0_8.out.cell 0
  have ex01a : w5.cell? ⟨w4.heap.size, 1, none⟩ = some (.slice Ax0m len0m cx0m) := Xx0_8.out.cell 1
  have ex02a : w5.cell? ⟨w4.heap.size, 2, none⟩ = some (.slice Ax0d len0d cx0d) := Xx0_8.out.cell 2
  have ex00b : (w5.alloc (.cells #[.bool a1g, .slice Ax1m len1m cx1m, .slice Ax1d len1d cx1d] 31)).cell? ⟨w4.heap.size, 0, none⟩ = some (.bool a0g) := Xx0_9.out.cell 0
  have ex01b : (w5.alloc (.cells #[.bool a1g, .slice Ax1m len1m cx1m, .slice Ax1d len1d cx1d] 31)).cell? ⟨w4.heap.size, 1, none⟩ = some (.slice Ax0m len0m cx0m) := Xx0_9.out.cell 1
  have ex02b : (w5.alloc (.cells #[.bool a1g, .slice Ax1m len1m cx1m, .slice Ax1d len1d cx1d] 31)).cell? ⟨w4.heap.size, 2, none⟩ = some (.slice Ax0d len0d cx0d) := Xx0_9.out.cell 2
  have nex00 : w5.heap.size ≠ w4.heap.size := (by have := Xx0_8.out.lt; omega)
  go_wp2_with fail
  clear ex00a ex01a ex02a ex00b ex01b ex02b nex00
  refine (impl_ratMax a0g Ax0m len0m cx0m z0m Ax0d len0d cx0d z0d a1g Ax1m len1m cx1m z1m Ax1d len1d cx1d z1d _ (Inz0m.out.own Ox0m_9.out) (room_own Ox0m_9.out) (Inz0d.out.own Ox0d_9.out) (room_own Ox0d_9.out) (Inz1m.out.own Ox1m_9.out) (room_own Ox1m_9.out) (Inz1d.out.own Ox1d_9.out) (room_own Ox1d_9.out)).mono ?_
  rintro e w6 ⟨r2_00, r2_01, v2_01, r2_02, v2_02, rfl, his, ho01, ho02, hap10, hb⟩
  have BW10 := Lib.hid (BW9.out.trans (hb.mono BW9.out.size))
  have sz10 : (w5.alloc (.cells #[.bool a1g, .slice Ax1m len1m cx1m, .slice Ax1d len1d cx1d] 31)).heap.size ≤ w6.heap.size := hb.size
  have Ow0m_10 := Lib.hid (own_below Ow0m_9.out hb)
  have Ow0d_10 := Lib.hid (own_below Ow0d_9.out hb)
  have Ox0m_10 := Lib.hid (own_below Ox0m_9.out hb)
  have Ox0d_10 := Lib.hid (own_below Ox0d_9.out hb)
  have Ox1m_10 := Lib.hid (own_below Ox1m_9.out hb)
  have Ox1d_10 := Lib.hid (own_below Ox1d_9.out hb)
  have XaR_10 := Lib.hid (XaR_9.out.below hb XaR_9.out.lt)
  have XaS_10 := Lib.hid (XaS_9.out.below hb XaS_9.out.lt)
  have Xw0_10 := Lib.hid (Xw0_9.out.below hb Xw0_9.out.lt)
  have Xx0_10 := Lib.hid (Xx0_9.out.below hb Xx0_9.out.lt)
  have Xx1_10 := Lib.hid (Xx1_9.out.below hb Xx1_9.out.lt)
  clear hb
  obtain ⟨rfl, rfl, rfl⟩ := ratMax_unique IS.out his
  clear his
  replace ho01 := ho01.2
  rw [HN01.out] at ho01
  replace ho02 := ho02.2
  rw [HN02.out] at ho02
  obtain ⟨Ag0m, cg0m, rfl⟩ := own_slice ho01
  have Ug0m := Lib.hid (fun k (hk : (Value.slice Ag0m N01 cg0m).ownBlock = some k) => (ho01.lt k hk).2)
  have Og0m_10 := Lib.hid ho01
  clear ho01
  obtain ⟨Ag0d, cg0d, rfl⟩ := own_slice ho02
  have Ug0d := Lib.hid (fun k (hk : (Value.slice Ag0d N02 cg0d).ownBlock = some k) => (ho02.lt k hk).2)
  have Og0d_10 := Lib.hid ho02
  clear ho02
  have APg0d_g0m := Lib.hid hap10
  have APg0m_g0d := Lib.hid hap10.symm
  clear hap10
  have BW11 := Lib.hid (BW10.out.alloc BW10.out.size (.cells #[.bool r1_00, .slice Ag0m N01 cg0m, .slice Ag0d N02 cg0d] 31))
  have sz11 : w6.heap.size ≤ (w6.alloc (.cells #[.bool r1_00, .slice Ag0m N01 cg0m, .slice Ag0d N02 cg0d] 31)).heap.size := (by simp)
  have Ow0m_11 := Lib.hid (Ow0m_10.out.alloc (.cells #[.bool r1_00, .slice Ag0m N01 cg0m, .slice Ag0d N02 cg0d] 31))
  have Ow0d_11 := Lib.hid (Ow0d_10.out.alloc (.cells #[.bool r1_00, .slice Ag0m N01 cg0m, .slice Ag0d N02 cg0d] 31))
  have Ox0m_11 := Lib.hid (Ox0m_10.out.alloc (.cells #[.bool r1_00, .slice Ag0m N01 cg0m, .slice Ag0d N02 cg0d] 31))
  have Ox0d_11 := Lib.hid (Ox0d_10.out.alloc (.cells #[.bool r1_00, .slice Ag0m N01 cg0m, .slice Ag0d N02 cg0d] 31))
  have Ox1m_11 := Lib.hid (Ox1m_10.out.alloc (.cells #[.bool r1_00, .slice Ag0m N01 cg0m, .slice Ag0d N02 cg0d] 31))
  have Ox1d_11 := Lib.hid (Ox1d_10.out.alloc (.cells #[.bool r1_00, .slice Ag0m N01 cg0m, .slice Ag0d N02 cg0d] 31))
  have Og0m_11 := Lib.hid (Og0m_10.out.alloc (.cells #[.bool r1_00, .slice Ag0m N01 cg0m, .slice Ag0d N02 cg0d] 31))
  have Og0d_11 := Lib.hid (Og0d_10.out.alloc (.cells #[.bool r1_00, .slice Ag0m N01 cg0m, .slice Ag0d N02 cg0d] 31))
  have XaR_11 := Lib.hid (XaR_10.out.alloc (.cells #[.bool r1_00, .slice Ag0m N01 cg0m, .slice Ag0d N02 cg0d] 31))
  have XaS_11 := Lib.hid (XaS_10.out.alloc (.cells #[.bool r1_00, .slice Ag0m N01 cg0m, .slice Ag0d N02 cg0d] 31))
  have Xw0_11 := Lib.hid (Xw0_10.out.alloc (.cells #[.bool r1_00, .slice Ag0m N01 cg0m, .slice Ag0d N02 cg0d] 31))
  have Xx0_11 := Lib.hid (Xx0_10.out.alloc (.cells #[.bool r1_00, .slice Ag0m N01 cg0m, .slice Ag0d N02 cg0d] 31))
  have Xx1_11 := Lib.hid (Xx1_10.out.alloc (.cells #[.bool r1_00, .slice Ag0m N01 cg0m, .slice Ag0d N02 cg0d] 31))
  have Xg0_11 := Lib.hid (Box.new w6 31 #[.bool r1_00, .slice Ag0m N01 cg0m, .slice Ag0d N02 cg0d])
  have ew00a : w6.cell? ⟨gb1, 0, none⟩ = some (.bool r1_00) := Xw0_10.out.cell 0
  have ew01a : w6.cell? ⟨gb1, 1, none⟩ = some (.slice Aw0m N01 cw0m) := Xw0_10.out.cell 1
  have ew02a : w6.cell? ⟨gb1, 2, none⟩ = some (.slice Aw0d N02 cw0d) := Xw0_10.out.cell 2
  have ew00b : (w6.alloc (.cells #[.bool r1_00, .slice Ag0m N01 cg0m, .slice Ag0d N02 cg0d] 31)).cell? ⟨gb1, 0, none⟩ = some (.bool r1_00) := Xw0_11.out.cell 0
  have ew01b : (w6.alloc (.cells #[.bool r1_00, .slice Ag0m N01 cg0m, .slice Ag0d N02 cg0d] 31)).cell? ⟨gb1, 1, none⟩ = some (.slice Aw0m N01 cw0m) := Xw0_11.out.cell 1
  have ew02b : (w6.alloc (.cells #[.bool r1_00, .slice Ag0m N01 cg0m, .slice Ag0d N02 cg0d] 31)).cell? ⟨gb1, 2, none⟩ = some (.slice Aw0d N02 cw0d) := Xw0_11.out.cell 2
  have new00 : w6.heap.size ≠ gb1 := (by have := Xw0_10.out.lt; omega)
  go_wp2_with fail
  clear ew00a ew01a ew02a ew00b ew01b ew02b new00
  refine (eqRat_same r1_00 Ag0m Aw0m N01 cg0m cw0m r1_01 Ag0d Aw0d N02 cg0d cw0d r1_02 _ HN01.out (by unfold maxLen; omega) (Reads.of_own Og0m_11.out) (Reads.of_own Ow0m_11.out) HN02.out (by unfold maxLen; omega) (Reads.of_own Og0d_11.out) (Reads.of_own Ow0d_11.out)).mono ?_
  rintro e w7 ⟨rfl, hb⟩
  have BW12 := Lib.hid (BW11.out.trans (hb.mono BW11.out.size))
  have sz12 : (w6.alloc (.cells #[.bool r1_00, .slice Ag0m N01 cg0m, .slice Ag0d N02 cg0d] 31)).heap.size ≤ w7.heap.size := hb.size
  have Ow0m_12 := Lib.hid (own_below Ow0m_11.out hb)
  have Ow0d_12 := Lib.hid (own_below Ow0d_11.out hb)
  have Ox0m_12 := Lib.hid (own_below Ox0m_11.out hb)
  have Ox0d_12 := Lib.hid (own_below Ox0d_11.out hb)
  have Ox1m_12 := Lib.hid (own_below Ox1m_11.out hb)
  have Ox1d_12 := Lib.hid (own_below Ox1d_11.out hb)
  have Og0m_12 := Lib.hid (own_below Og0m_11.out hb)
  have Og0d_12 := Lib.hid (own_below Og0d_11.out hb)
  have XaR_12 := Lib.hid (XaR_11.out.below hb XaR_11.out.lt)
  have XaS_12 := Lib.hid (XaS_11.out.below hb XaS_11.out.lt)
  have Xw0_12 := Lib.hid (Xw0_11.out.below hb Xw0_11.out.lt)
  have Xx0_12 := Lib.hid (Xx0_11.out.below hb Xx0_11.out.lt)
  have Xx1_12 := Lib.hid (Xx1_11.out.below hb Xx1_11.out.lt)
  have Xg0_12 := Lib.hid (Xg0_11.out.below hb Xg0_11.out.lt)
  clear hb
  go_wp2_with fail
  have BW13 := Lib.hid BW12.out.drew
  have sz13 : w7.heap.size ≤ w7.drew.heap.size := Nat.le_refl _
  have Ow0m_13 := Lib.hid (own_drew Ow0m_12.out)
  have Ow0d_13 := Lib.hid (own_drew Ow0d_12.out)
  have Ox0m_13 := Lib.hid (own_drew Ox0m_12.out)
  have Ox0d_13 := Lib.hid (own_drew Ox0d_12.out)
  have Ox1m_13 := Lib.hid (own_drew Ox1m_12.out)
  have Ox1d_13 := Lib.hid (own_drew Ox1d_12.out)
  have Og0m_13 := Lib.hid (own_drew Og0m_12.out)
  have Og0d_13 := Lib.hid (own_drew Og0d_12.out)
  have XaR_13 := Lib.hid XaR_12.out.drew
  have XaS_13 := Lib.hid XaS_12.out.drew
  have Xw0_13 := Lib.hid Xw0_12.out.drew
  have Xx0_13 := Lib.hid Xx0_12.out.drew
  have Xx1_13 := Lib.hid Xx1_12.out.drew
  have Xg0_13 := Lib.hid Xg0_12.out.drew
  have cvx00 : Hid ((#[.bool a0g, .slice Ax0m len0m cx0m, .slice Ax0d len0d cx0d] : Array Value)[0]? = some (.bool a0g)) := rfl
  have cvx01 : Hid ((#[.bool a0g, .slice Ax0m len0m cx0m, .slice Ax0d len0d cx0d] : Array Value)[1]? = some (.slice Ax0m len0m cx0m)) := rfl
  have cvx02 : Hid ((#[.bool a0g, .slice Ax0m len0m cx0m, .slice Ax0d len0d cx0d] : Array Value)[2]? = some (.slice Ax0d len0d cx0d)) := rfl
  have cvaR0 : Hid ((#[.bool a0g, .slice a0m len0m cap0m, .slice a0d len0d cap0d] : Array Value)[0]? = some (.bool a0g)) := rfl
  have cvaR1 : Hid ((#[.bool a0g, .slice a0m len0m cap0m, .slice a0d len0d cap0d] : Array Value)[1]? = some (.slice a0m len0m cap0m)) := rfl
  have cvaR2 : Hid ((#[.bool a0g, .slice a0m len0m cap0m, .slice a0d len0d cap0d] : Array Value)[2]? = some (.slice a0d len0d cap0d)) := rfl
  go_region_held3 (fun w' => w'.cell? ⟨w4.heap.size, 0, none⟩ = some (.bool a0g) ∧ w'.cell? ⟨w4.heap.size, 1, none⟩ = some (.slice Ax0m len0m cx0m) ∧ w'.cell? ⟨w4.heap.size, 2, none⟩ = some (.slice Ax0d len0d cx0d) ∧ w'.cell? ⟨w.heap.size, 0, none⟩ = some (.bool a0g) ∧ w'.cell? ⟨w.heap.size, 1, none⟩ = some (.slice a0m len0m cap0m) ∧ w'.cell? ⟨w.heap.size, 2, none⟩ = some (.slice a0d len0d cap0d)) (first | with_reducible exact ⟨cellS Xx0_15 cvx00, cellS Xx0_15 cvx01, cellS Xx0_15 cvx02, cellS XaR_15 cvaR0, cellS XaR_15 cvaR1, cellS XaR_15 cvaR2⟩ | with_reducible exact ⟨cellS Xx0_14 cvx00, cellS Xx0_14 cvx01, cellS Xx0_14 cvx02, cellS XaR_14 cvaR0, cellS XaR_14 cvaR1, cellS XaR_14 cvaR2⟩ | with_reducible exact ⟨cellS Xx0_13 cvx00, cellS Xx0_13 cvx01, cellS Xx0_13 cvx02, cellS XaR_13 cvaR0, cellS XaR_13 cvaR1, cellS XaR_13 cvaR2⟩) (first | (go_at_call 22; refine (eqRat_same a0g Ax0m At3m len0m cx0m ct3m z0m Ax0d At3d len0d cx0d ct3d z0d _ Inz0m.out.len (by unfold maxLen; omega) (Reads.of_own Ox0m_14.out) (Reads.of_own Ot3m_14.out) Inz0d.out.len (by unfold maxLen; omega) (Reads.of_own Ox0d_14.out) (Reads.of_own Ot3d_14.out)).mono ?_; rintro e w9 ⟨rfl, hb⟩; have BW15 := Lib.hid (BW14.out.trans (hb.mono BW14.out.size)); have sz15 : w8.heap.size ≤ w9.heap.size := hb.size; have Ow0m_15 := Lib.hid (own_below Ow0m_14.out hb); have Ow0d_15 := Lib.hid (own_below Ow0d_14.out hb); have Ox0m_15 := Lib.hid (own_below Ox0m_14.out hb); have Ox0d_15 := Lib.hid (own_below Ox0d_14.out hb); have Ox1m_15 := Lib.hid (own_below Ox1m_14.out hb); have Ox1d_15 := Lib.hid (own_below Ox1d_14.out hb); have Og0m_15 := Lib.hid (own_below Og0m_14.out hb); have Og0d_15 := Lib.hid (own_below Og0d_14.out hb); have Ot3m_15 := Lib.hid (own_below Ot3m_14.out hb); have Ot3d_15 := Lib.hid (own_below Ot3d_14.out hb); have XaR_15 := Lib.hid (XaR_14.out.below hb XaR_14.out.lt); have XaS_15 := Lib.hid (XaS_14.out.below hb XaS_14.out.lt); have Xw0_15 := Lib.hid (Xw0_14.out.below hb Xw0_14.out.lt); have Xx0_15 := Lib.hid (Xx0_14.out.below hb Xx0_14.out.lt); have Xx1_15 := Lib.hid (Xx1_14.out.below hb Xx1_14.out.lt); have Xg0_15 := Lib.hid (Xg0_14.out.below hb Xg0_14.out.lt); clear hb) | (go_at_call 20; refine (toRat_any a0g a0m len0m cap0m z0m a0d len0d cap0d z0d _ Inz0m.out.len Inz0m.out.le (Inz0m.out.rd.below BW13.out) Inz0d.out.len Inz0d.out.le (Inz0d.out.rd.below BW13.out)).mono ?_; rintro e w8 ⟨v0, v1, rfl, ho0, ho1, hap10, hb⟩; have BW14 := Lib.hid (BW13.out.trans (hb.mono BW13.out.size)); have sz14 : w7.drew.heap.size ≤ w8.heap.size := hb.size; have Ow0m_14 := Lib.hid (own_below Ow0m_13.out hb); have Ow0d_14 := Lib.hid (own_below Ow0d_13.out hb); have Ox0m_14 := Lib.hid (own_below Ox0m_13.out hb); have Ox0d_14 := Lib.hid (own_below Ox0d_13.out hb); have Ox1m_14 := Lib.hid (own_below Ox1m_13.out hb); have Ox1d_14 := Lib.hid (own_below Ox1d_13.out hb); have Og0m_14 := Lib.hid (own_below Og0m_13.out hb); have Og0d_14 := Lib.hid (own_below Og0d_13.out hb); have XaR_14 := Lib.hid (XaR_13.out.below hb XaR_13.out.lt); have XaS_14 := Lib.hid (XaS_13.out.below hb XaS_13.out.lt); have Xw0_14 := Lib.hid (Xw0_13.out.below hb Xw0_13.out.lt); have Xx0_14 := Lib.hid (Xx0_13.out.below hb Xx0_13.out.lt); have Xx1_14 := Lib.hid (Xx1_13.out.below hb Xx1_13.out.lt); have Xg0_14 := Lib.hid (Xg0_13.out.below hb Xg0_13.out.lt); obtain ⟨At3m, ct3m, rfl⟩ := own_slice ho0; have Ut3m := Lib.hid (fun k (hk : (Value.slice At3m len0m ct3m).ownBlock = some k) => (ho0.lt k hk).2); have Ot3m_14 := Lib.hid ho0; clear ho0; obtain ⟨At3d, ct3d, rfl⟩ := own_slice ho1; have Ut3d := Lib.hid (fun k (hk : (Value.slice At3d len0d ct3d).ownBlock = some k) => (ho1.lt k hk).2); have Ot3d_14 := Lib.hid ho1; clear ho1; have APt3d_t3m := Lib.hid hap10; have APt3m_t3d := Lib.hid hap10.symm; clear hap10; clear hb))
  clear cvx00 cvx01 cvx02 cvaR0 cvaR1 cvaR2
  clear Ot3m_15 Ut3m Ot3d_15 Ut3d
  go_wp2_with fail
  have BW16 := Lib.hid BW15.out.drew
  have sz16 : w9.heap.size ≤ w9.drew.heap.size := Nat.le_refl _
  have Ow0m_16 := Lib.hid (own_drew Ow0m_15.out)
  have Ow0d_16 := Lib.hid (own_drew Ow0d_15.out)
  have Ox0m_16 := Lib.hid (own_drew Ox0m_15.out)
  have Ox0d_16 := Lib.hid (own_drew Ox0d_15.out)
  have Ox1m_16 := Lib.hid (own_drew Ox1m_15.out)
  have Ox1d_16 := Lib.hid (own_drew Ox1d_15.out)
  have Og0m_16 := Lib.hid (own_drew Og0m_15.out)
  have Og0d_16 := Lib.hid (own_drew Og0d_15.out)
  have XaR_16 := Lib.hid XaR_15.out.drew
  have XaS_16 := Lib.hid XaS_15.out.drew
  have Xw0_16 := Lib.hid Xw0_15.out.drew
  have Xx0_16 := Lib.hid Xx0_15.out.drew
  have Xx1_16 := Lib.hid Xx1_15.out.drew
  have Xg0_16 := Lib.hid Xg0_15.out.drew
  have cvx10 : Hid ((#[.bool a1g, .slice Ax1m len1m cx1m, .slice Ax1d len1d cx1d] : Array Value)[0]? = some (.bool a1g)) := rfl
  have cvx11 : Hid ((#[.bool a1g, .slice Ax1m len1m cx1m, .slice Ax1d len1d cx1d] : Array Value)[1]? = some (.slice Ax1m len1m cx1m)) := rfl
  have cvx12 : Hid ((#[.bool a1g, .slice Ax1m len1m cx1m, .slice Ax1d len1d cx1d] : Array Value)[2]? = some (.slice Ax1d len1d cx1d)) := rfl
  have cvaS0 : Hid ((#[.bool a1g, .slice a1m len1m cap1m, .slice a1d len1d cap1d] : Array Value)[0]? = some (.bool a1g)) := rfl
  have cvaS1 : Hid ((#[.bool a1g, .slice a1m len1m cap1m, .slice a1d len1d cap1d] : Array Value)[1]? = some (.slice a1m len1m cap1m)) := rfl
  have cvaS2 : Hid ((#[.bool a1g, .slice a1m len1m cap1m, .slice a1d len1d cap1d] : Array Value)[2]? = some (.slice a1d len1d cap1d)) := rfl
  go_region_held3 (fun w' => w'.cell? ⟨w5.heap.size, 0, none⟩ = some (.bool a1g) ∧ w'.cell? ⟨w5.heap.size, 1, none⟩ = some (.slice Ax1m len1m cx1m) ∧ w'.cell? ⟨w5.heap.size, 2, none⟩ = some (.slice Ax1d len1d cx1d) ∧ w'.cell? ⟨w.heap.size + 1, 0, none⟩ = some (.bool a1g) ∧ w'.cell? ⟨w.heap.size + 1, 1, none⟩ = some (.slice a1m len1m cap1m) ∧ w'.cell? ⟨w.heap.size + 1, 2, none⟩ = some (.slice a1d len1d cap1d)) (first | with_reducible exact ⟨cellS Xx1_18 cvx10, cellS Xx1_18 cvx11, cellS Xx1_18 cvx12, cellS XaS_18 cvaS0, cellS XaS_18 cvaS1, cellS XaS_18 cvaS2⟩ | with_reducible exact ⟨cellS Xx1_17 cvx10, cellS Xx1_17 cvx11, cellS Xx1_17 cvx12, cellS XaS_17 cvaS0, cellS XaS_17 cvaS1, cellS XaS_17 cvaS2⟩ | with_reducible exact ⟨cellS Xx1_16 cvx10, cellS Xx1_16 cvx11, cellS Xx1_16 cvx12, cellS XaS_16 cvaS0, cellS XaS_16 cvaS1, cellS XaS_16 cvaS2⟩) (first | (go_at_call 22; refine (eqRat_same a1g Ax1m At4m len1m cx1m ct4m z1m Ax1d At4d len1d cx1d ct4d z1d _ Inz1m.out.len (by unfold maxLen; omega) (Reads.of_own Ox1m_17.out) (Reads.of_own Ot4m_17.out) Inz1d.out.len (by unfold maxLen; omega) (Reads.of_own Ox1d_17.out) (Reads.of_own Ot4d_17.out)).mono ?_; rintro e w11 ⟨rfl, hb⟩; have BW18 := Lib.hid (BW17.out.trans (hb.mono BW17.out.size)); have sz18 : w10.heap.size ≤ w11.heap.size := hb.size; have Ow0m_18 := Lib.hid (own_below Ow0m_17.out hb); have Ow0d_18 := Lib.hid (own_below Ow0d_17.out hb); have Ox0m_18 := Lib.hid (own_below Ox0m_17.out hb); have Ox0d_18 := Lib.hid (own_below Ox0d_17.out hb); have Ox1m_18 := Lib.hid (own_below Ox1m_17.out hb); have Ox1d_18 := Lib.hid (own_below Ox1d_17.out hb); have Og0m_18 := Lib.hid (own_below Og0m_17.out hb); have Og0d_18 := Lib.hid (own_below Og0d_17.out hb); have Ot4m_18 := Lib.hid (own_below Ot4m_17.out hb); have Ot4d_18 := Lib.hid (own_below Ot4d_17.out hb); have XaR_18 := Lib.hid (XaR_17.out.below hb XaR_17.out.lt); have XaS_18 := Lib.hid (XaS_17.out.below hb XaS_17.out.lt); have Xw0_18 := Lib.hid (Xw0_17.out.below hb Xw0_17.out.lt); have Xx0_18 := Lib.hid (Xx0_17.out.below hb Xx0_17.out.lt); have Xx1_18 := Lib.hid (Xx1_17.out.below hb Xx1_17.out.lt); have Xg0_18 := Lib.hid (Xg0_17.out.below hb Xg0_17.out.lt); clear hb) | (go_at_call 20; refine (toRat_any a1g a1m len1m cap1m z1m a1d len1d cap1d z1d _ Inz1m.out.len Inz1m.out.le (Inz1m.out.rd.below BW16.out) Inz1d.out.len Inz1d.out.le (Inz1d.out.rd.below BW16.out)).mono ?_; rintro e w10 ⟨v0, v1, rfl, ho0, ho1, hap10, hb⟩; have BW17 := Lib.hid (BW16.out.trans (hb.mono BW16.out.size)); have sz17 : w9.drew.heap.size ≤ w10.heap.size := hb.size; have Ow0m_17 := Lib.hid (own_below Ow0m_16.out hb); have Ow0d_17 := Lib.hid (own_below Ow0d_16.out hb); have Ox0m_17 := Lib.hid (own_below Ox0m_16.out hb); have Ox0d_17 := Lib.hid (own_below Ox0d_16.out hb); have Ox1m_17 := Lib.hid (own_below Ox1m_16.out hb); have Ox1d_17 := Lib.hid (own_below Ox1d_16.out hb); have Og0m_17 := Lib.hid (own_below Og0m_16.out hb); have Og0d_17 := Lib.hid (own_below Og0d_16.out hb); have XaR_17 := Lib.hid (XaR_16.out.below hb XaR_16.out.lt); have XaS_17 := Lib.hid (XaS_16.out.below hb XaS_16.out.lt); have Xw0_17 := Lib.hid (Xw0_16.out.below hb Xw0_16.out.lt); have Xx0_17 := Lib.hid (Xx0_16.out.below hb Xx0_16.out.lt); have Xx1_17 := Lib.hid (Xx1_16.out.below hb Xx1_16.out.lt); have Xg0_17 := Lib.hid (Xg0_16.out.below hb Xg0_16.out.lt); obtain ⟨At4m, ct4m, rfl⟩ := own_slice ho0; have Ut4m := Lib.hid (fun k (hk : (Value.slice At4m len1m ct4m).ownBlock = some k) => (ho0.lt k hk).2); have Ot4m_17 := Lib.hid ho0; clear ho0; obtain ⟨At4d, ct4d, rfl⟩ := own_slice ho1; have Ut4d := Lib.hid (fun k (hk : (Value.slice At4d len1d ct4d).ownBlock = some k) => (ho1.lt k hk).2); have Ot4d_17 := Lib.hid ho1; clear ho1; have APt4d_t4m := Lib.hid hap10; have APt4m_t4d := Lib.hid hap10.symm; clear hap10; clear hb))
  clear cvx10 cvx11 cvx12 cvaS0 cvaS1 cvaS2
  clear Ot4m_18 Ut4m Ot4d_18 Ut4d
  have ex00a : w11.cell? ⟨w4.heap.size, 0, none⟩ = some (.bool a0g) := Xx0_18.out.cell 0
  have ex01a : w11.cell? ⟨w4.heap.size, 1, none⟩ = some (.slice Ax0m len0m cx0m) := Xx0_18.out.cell 1
  have ex02a : w11.cell? ⟨w4.heap.size, 2, none⟩ = some (.slice Ax0d len0d cx0d) := Xx0_18.out.cell 2
  go_wp2_with fail
  clear ex00a ex01a ex02a
  refine (markRat_own a0g _ _ Ax0m len0m cx0m Ax0d len0d cx0d (1) _ _ _ (by unfold maxLen; omega) Ox0m_18.out (ints_are _) Ox0d_18.out (ints_are _) APx0d_x0m.out).mono ?_
  rintro e w13 ⟨w12, rfl, ho, hg, hoz, hgz⟩
  have BW19 := Lib.hid (below_marked BW18.out Ox0m_18.out hg (by omega) (by omega))
  have sz19 : w11.heap.size ≤ w12.heap.size := hg.size
  have Ow0m_19 := Lib.hid (Ow0m_18.out.kept hg (own_apart Ow0m_18.out Uw0m.out Ox0m_18.out Ux0m.out (.inl (by omega))))
  have Ow0d_19 := Lib.hid (Ow0d_18.out.kept hg (own_apart Ow0d_18.out Uw0d.out Ox0m_18.out Ux0m.out (.inl (by omega))))
  have Ox0d_19 := Lib.hid (Ox0d_18.out.kept hg (apart_of APx0d_x0m.out))
  have Ox1m_19 := Lib.hid (Ox1m_18.out.kept hg (own_apart Ox1m_18.out Ux1m.out Ox0m_18.out Ux0m.out (.inr (by omega))))
  have Ox1d_19 := Lib.hid (Ox1d_18.out.kept hg (own_apart Ox1d_18.out Ux1d.out Ox0m_18.out Ux0m.out (.inr (by omega))))
  have Og0m_19 := Lib.hid (Og0m_18.out.kept hg (own_apart Og0m_18.out Ug0m.out Ox0m_18.out Ux0m.out (.inr (by omega))))
  have Og0d_19 := Lib.hid (Og0d_18.out.kept hg (own_apart Og0d_18.out Ug0d.out Ox0m_18.out Ux0m.out (.inr (by omega))))
  have XaR_19 := Lib.hid (XaR_18.out.grown hg (ne_own XaR_18.out Ox0m_18.out))
  have XaS_19 := Lib.hid (XaS_18.out.grown hg (ne_own XaS_18.out Ox0m_18.out))
  have Xw0_19 := Lib.hid (Xw0_18.out.grown hg (ne_own Xw0_18.out Ox0m_18.out))
  have Xx0_19 := Lib.hid (Xx0_18.out.grown hg (ne_own Xx0_18.out Ox0m_18.out))
  have Xx1_19 := Lib.hid (Xx1_18.out.grown hg (ne_own Xx1_18.out Ox0m_18.out))
  have Xg0_19 := Lib.hid (Xg0_18.out.grown hg (ne_own Xg0_18.out Ox0m_18.out))
  have Ox0m_19 := Lib.hid ho
  clear ho hg
  have BW20 := Lib.hid (below_marked BW19.out Ox0d_19.out hgz (by omega) (by omega))
  have sz20 : w12.heap.size ≤ w13.heap.size := hgz.size
  have Ow0m_20 := Lib.hid (Ow0m_19.out.kept hgz (own_apart Ow0m_19.out Uw0m.out Ox0d_19.out Ux0d.out (.inl (by omega))))
  have Ow0d_20 := Lib.hid (Ow0d_19.out.kept hgz (own_apart Ow0d_19.out Uw0d.out Ox0d_19.out Ux0d.out (.inl (by omega))))
  have Ox0m_20 := Lib.hid (Ox0m_19.out.kept hgz (apart_of APx0m_x0d.out))
  have Ox1m_20 := Lib.hid (Ox1m_19.out.kept hgz (own_apart Ox1m_19.out Ux1m.out Ox0d_19.out Ux0d.out (.inr (by omega))))
  have Ox1d_20 := Lib.hid (Ox1d_19.out.kept hgz (own_apart Ox1d_19.out Ux1d.out Ox0d_19.out Ux0d.out (.inr (by omega))))
  have Og0m_20 := Lib.hid (Og0m_19.out.kept hgz (own_apart Og0m_19.out Ug0m.out Ox0d_19.out Ux0d.out (.inr (by omega))))
  have Og0d_20 := Lib.hid (Og0d_19.out.kept hgz (own_apart Og0d_19.out Ug0d.out Ox0d_19.out Ux0d.out (.inr (by omega))))
  have XaR_20 := Lib.hid (XaR_19.out.grown hgz (ne_own XaR_19.out Ox0d_19.out))
  have XaS_20 := Lib.hid (XaS_19.out.grown hgz (ne_own XaS_19.out Ox0d_19.out))
  have Xw0_20 := Lib.hid (Xw0_19.out.grown hgz (ne_own Xw0_19.out Ox0d_19.out))
  have Xx0_20 := Lib.hid (Xx0_19.out.grown hgz (ne_own Xx0_19.out Ox0d_19.out))
  have Xx1_20 := Lib.hid (Xx1_19.out.grown hgz (ne_own Xx1_19.out Ox0d_19.out))
  have Xg0_20 := Lib.hid (Xg0_19.out.grown hgz (ne_own Xg0_19.out Ox0d_19.out))
  have Ox0d_20 := Lib.hid hoz
  clear hoz hgz
  clear Ox0m_20 Ux0m Ox0d_20 Ux0d Xx0_20
  have ex10a : w13.cell? ⟨w5.heap.size, 0, none⟩ = some (.bool a1g) := Xx1_20.out.cell 0
  have ex11a : w13.cell? ⟨w5.heap.size, 1, none⟩ = some (.slice Ax1m len1m cx1m) := Xx1_20.out.cell 1
  have ex12a : w13.cell? ⟨w5.heap.size, 2, none⟩ = some (.slice Ax1d len1d cx1d) := Xx1_20.out.cell 2
  go_wp2_with fail
  clear ex10a ex11a ex12a
  refine (markRat_own a1g _ _ Ax1m len1m cx1m Ax1d len1d cx1d (1 + len0m + len0d) _ _ _ (by unfold maxLen; omega) Ox1m_20.out (ints_are _) Ox1d_20.out (ints_are _) APx1d_x1m.out).mono ?_
  rintro e w15 ⟨w14, rfl, ho, hg, hoz, hgz⟩
  have BW21 := Lib.hid (below_marked BW20.out Ox1m_20.out hg (by omega) (by omega))
  have sz21 : w13.heap.size ≤ w14.heap.size := hg.size
  have Ow0m_21 := Lib.hid (Ow0m_20.out.kept hg (own_apart Ow0m_20.out Uw0m.out Ox1m_20.out Ux1m.out (.inl (by omega))))
  have Ow0d_21 := Lib.hid (Ow0d_20.out.kept hg (own_apart Ow0d_20.out Uw0d.out Ox1m_20.out Ux1m.out (.inl (by omega))))
  have Ox1d_21 := Lib.hid (Ox1d_20.out.kept hg (apart_of APx1d_x1m.out))
  have Og0m_21 := Lib.hid (Og0m_20.out.kept hg (own_apart Og0m_20.out Ug0m.out Ox1m_20.out Ux1m.out (.inr (by omega))))
  have Og0d_21 := Lib.hid (Og0d_20.out.kept hg (own_apart Og0d_20.out Ug0d.out Ox1m_20.out Ux1m.out (.inr (by omega))))
  have XaR_21 := Lib.hid (XaR_20.out.grown hg (ne_own XaR_20.out Ox1m_20.out))
  have XaS_21 := Lib.hid (XaS_20.out.grown hg (ne_own XaS_20.out Ox1m_20.out))
  have Xw0_21 := Lib.hid (Xw0_20.out.grown hg (ne_own Xw0_20.out Ox1m_20.out))
  have Xx1_21 := Lib.hid (Xx1_20.out.grown hg (ne_own Xx1_20.out Ox1m_20.out))
  have Xg0_21 := Lib.hid (Xg0_20.out.grown hg (ne_own Xg0_20.out Ox1m_20.out))
  have Ox1m_21 := Lib.hid ho
  clear ho hg
  have BW22 := Lib.hid (below_marked BW21.out Ox1d_21.out hgz (by omega) (by omega))
  have sz22 : w14.heap.size ≤ w15.heap.size := hgz.size
  have Ow0m_22 := Lib.hid (Ow0m_21.out.kept hgz (own_apart Ow0m_21.out Uw0m.out Ox1d_21.out Ux1d.out (.inl (by omega))))
  have Ow0d_22 := Lib.hid (Ow0d_21.out.kept hgz (own_apart Ow0d_21.out Uw0d.out Ox1d_21.out Ux1d.out (.inl (by omega))))
  have Ox1m_22 := Lib.hid (Ox1m_21.out.kept hgz (apart_of APx1m_x1d.out))
  have Og0m_22 := Lib.hid (Og0m_21.out.kept hgz (own_apart Og0m_21.out Ug0m.out Ox1d_21.out Ux1d.out (.inr (by omega))))
  have Og0d_22 := Lib.hid (Og0d_21.out.kept hgz (own_apart Og0d_21.out Ug0d.out Ox1d_21.out Ux1d.out (.inr (by omega))))
  have XaR_22 := Lib.hid (XaR_21.out.grown hgz (ne_own XaR_21.out Ox1d_21.out))
  have XaS_22 := Lib.hid (XaS_21.out.grown hgz (ne_own XaS_21.out Ox1d_21.out))
  have Xw0_22 := Lib.hid (Xw0_21.out.grown hgz (ne_own Xw0_21.out Ox1d_21.out))
  have Xx1_22 := Lib.hid (Xx1_21.out.grown hgz (ne_own Xx1_21.out Ox1d_21.out))
  have Xg0_22 := Lib.hid (Xg0_21.out.grown hgz (ne_own Xg0_21.out Ox1d_21.out))
  have Ox1d_22 := Lib.hid hoz
  clear hoz hgz
  clear Ox1m_22 Ux1m Ox1d_22 Ux1d Xx1_22
  have eg00a : w15.cell? ⟨w6.heap.size, 0, none⟩ = some (.bool r1_00) := Xg0_22.out.cell 0
  have eg01a : w15.cell? ⟨w6.heap.size, 1, none⟩ = some (.slice Ag0m N01 cg0m) := Xg0_22.out.cell 1
  have eg02a : w15.cell? ⟨w6.heap.size, 2, none⟩ = some (.slice Ag0d N02 cg0d) := Xg0_22.out.cell 2
  have ew00a : w15.cell? ⟨gb1, 0, none⟩ = some (.bool r1_00) := Xw0_22.out.cell 0
  have ew01a : w15.cell? ⟨gb1, 1, none⟩ = some (.slice Aw0m N01 cw0m) := Xw0_22.out.cell 1
  have ew02a : w15.cell? ⟨gb1, 2, none⟩ = some (.slice Aw0d N02 cw0d) := Xw0_22.out.cell 2
  go_wp2_with fail
  clear eg00a eg01a eg02a ew00a ew01a ew02a
  refine (eqRat_same r1_00 Ag0m Aw0m N01 cg0m cw0m r1_01 Ag0d Aw0d N02 cg0d cw0d r1_02 _ HN01.out (by unfold maxLen; omega) (Reads.of_own Og0m_22.out) (Reads.of_own Ow0m_22.out) HN02.out (by unfold maxLen; omega) (Reads.of_own Og0d_22.out) (Reads.of_own Ow0d_22.out)).mono ?_
  rintro e w16 ⟨rfl, hb⟩
  have BW23 := Lib.hid (BW22.out.trans (hb.mono BW22.out.size))
  have sz23 : w15.heap.size ≤ w16.heap.size := hb.size
  have Ow0m_23 := Lib.hid (own_below Ow0m_22.out hb)
  have Ow0d_23 := Lib.hid (own_below Ow0d_22.out hb)
  have Og0m_23 := Lib.hid (own_below Og0m_22.out hb)
  have Og0d_23 := Lib.hid (own_below Og0d_22.out hb)
  have XaR_23 := Lib.hid (XaR_22.out.below hb XaR_22.out.lt)
  have XaS_23 := Lib.hid (XaS_22.out.below hb XaS_22.out.lt)
  have Xw0_23 := Lib.hid (Xw0_22.out.below hb Xw0_22.out.lt)
  have Xg0_23 := Lib.hid (Xg0_22.out.below hb Xg0_22.out.lt)
  clear hb
  have eg00a : w16.cell? ⟨w6.heap.size, 0, none⟩ = some (.bool r1_00) := Xg0_23.out.cell 0
  have eg01a : w16.cell? ⟨w6.heap.size, 1, none⟩ = some (.slice Ag0m N01 cg0m) := Xg0_23.out.cell 1
  have eg02a : w16.cell? ⟨w6.heap.size, 2, none⟩ = some (.slice Ag0d N02 cg0d) := Xg0_23.out.cell 2
  go_wp2_with fail
  clear eg00a eg01a eg02a
  refine (markRat_own r1_00 _ _ Ag0m N01 cg0m Ag0d N02 cg0d (1) _ _ _ (by unfold maxLen; omega) Og0m_23.out (ints_are _) Og0d_23.out (ints_are _) APg0d_g0m.out).mono ?_
  rintro e w18 ⟨w17, rfl, ho, hg, hoz, hgz⟩
  have BW24 := Lib.hid (below_marked BW23.out Og0m_23.out hg (by omega) (by omega))
  have sz24 : w16.heap.size ≤ w17.heap.size := hg.size
  have Ow0m_24 := Lib.hid (Ow0m_23.out.kept hg (own_apart Ow0m_23.out Uw0m.out Og0m_23.out Ug0m.out (.inl (by omega))))
  have Ow0d_24 := Lib.hid (Ow0d_23.out.kept hg (own_apart Ow0d_23.out Uw0d.out Og0m_23.out Ug0m.out (.inl (by omega))))
  have Og0d_24 := Lib.hid (Og0d_23.out.kept hg (apart_of APg0d_g0m.out))
  have XaR_24 := Lib.hid (XaR_23.out.grown hg (ne_own XaR_23.out Og0m_23.out))
  have XaS_24 := Lib.hid (XaS_23.out.grown hg (ne_own XaS_23.out Og0m_23.out))
  have Xw0_24 := Lib.hid (Xw0_23.out.grown hg (ne_own Xw0_23.out Og0m_23.out))
  have Xg0_24 := Lib.hid (Xg0_23.out.grown hg (ne_own Xg0_23.out Og0m_23.out))
  have Og0m_24 := Lib.hid ho
  clear ho hg
  have BW25 := Lib.hid (below_marked BW24.out Og0d_24.out hgz (by omega) (by omega))
  have sz25 : w17.heap.size ≤ w18.heap.size := hgz.size
  have Ow0m_25 := Lib.hid (Ow0m_24.out.kept hgz (own_apart Ow0m_24.out Uw0m.out Og0d_24.out Ug0d.out (.inl (by omega))))
  have Ow0d_25 := Lib.hid (Ow0d_24.out.kept hgz (own_apart Ow0d_24.out Uw0d.out Og0d_24.out Ug0d.out (.inl (by omega))))
  have Og0m_25 := Lib.hid (Og0m_24.out.kept hgz (apart_of APg0m_g0d.out))
  have XaR_25 := Lib.hid (XaR_24.out.grown hgz (ne_own XaR_24.out Og0d_24.out))
  have XaS_25 := Lib.hid (XaS_24.out.grown hgz (ne_own XaS_24.out Og0d_24.out))
  have Xw0_25 := Lib.hid (Xw0_24.out.grown hgz (ne_own Xw0_24.out Og0d_24.out))
  have Xg0_25 := Lib.hid (Xg0_24.out.grown hgz (ne_own Xg0_24.out Og0d_24.out))
  have Og0d_25 := Lib.hid hoz
  clear hoz hgz
  have eg00a : w18.cell? ⟨w6.heap.size, 0, none⟩ = some (.bool r1_00) := Xg0_25.out.cell 0
  have eg01a : w18.cell? ⟨w6.heap.size, 1, none⟩ = some (.slice Ag0m N01 cg0m) := Xg0_25.out.cell 1
  have eg02a : w18.cell? ⟨w6.heap.size, 2, none⟩ = some (.slice Ag0d N02 cg0d) := Xg0_25.out.cell 2
  go_wp2_with fail
  clear eg00a eg01a eg02a
  refine (heldRat_same r1_00 Ag0m N01 cg0m Ag0d N02 cg0d (1) _ (by unfold maxLen; omega) (Reads.of_own Og0m_25.out) (Reads.of_own Og0d_25.out)).mono ?_
  rintro e w19 ⟨rfl, hb⟩
  have BW26 := Lib.hid (BW25.out.trans (hb.mono BW25.out.size))
  have sz26 : w18.heap.size ≤ w19.heap.size := hb.size
  have Ow0m_26 := Lib.hid (own_below Ow0m_25.out hb)
  have Ow0d_26 := Lib.hid (own_below Ow0d_25.out hb)
  have Og0m_26 := Lib.hid (own_below Og0m_25.out hb)
  have Og0d_26 := Lib.hid (own_below Og0d_25.out hb)
  have XaR_26 := Lib.hid (XaR_25.out.below hb XaR_25.out.lt)
  have XaS_26 := Lib.hid (XaS_25.out.below hb XaS_25.out.lt)
  have Xw0_26 := Lib.hid (Xw0_25.out.below hb Xw0_25.out.lt)
  have Xg0_26 := Lib.hid (Xg0_25.out.below hb Xg0_25.out.lt)
  clear hb
  go_upto_region 31 with fail
  go_cut [13] (fun s13 wx => ∃ (gb : Nat) (Ah0m : Option Addr) (ch0m : Nat) (Ah0d : Option Addr) (ch0d : Nat), s13 = .pointer (some ⟨gb, 0, none⟩) ∧ Hid (wx.ownsRow w19.heap.size 3 1 (.slice Ah0m N01 ch0m) N01 (r1_01.map (.int .i64))) ∧ Hid (wx.ownsRow w19.heap.size 3 1 (.slice Ah0d N02 ch0d) N02 (r1_02.map (.int .i64))) ∧ Hid (Box wx gb 31 #[.bool r1_00, .slice Ah0m N01 ch0m, .slice Ah0d N02 ch0d]) ∧ Hid (Apart (.slice Ah0d N02 ch0d) (.slice Ah0m N01 ch0m)) ∧ Hid (Below w.heap.size w wx) ∧ w19.heap.size ≤ wx.heap.size ∧ Hid (wx.ownsRow ws1.heap.size 3 1 (.slice Aw0m N01 cw0m) N01 (r1_01.map (.int .i64))) ∧ Hid (wx.ownsRow ws1.heap.size 3 1 (.slice Aw0d N02 cw0d) N02 (r1_02.map (.int .i64))) ∧ Hid (wx.ownsRow (w5.alloc (.cells #[.bool a1g, .slice Ax1m len1m cx1m, .slice Ax1d len1d cx1d] 31)).heap.size 3 1 (.slice Ag0m N01 cg0m) N01 (marks markI (1) N01)) ∧ Hid (wx.ownsRow (w5.alloc (.cells #[.bool a1g, .slice Ax1m len1m cx1m, .slice Ax1d len1d cx1d] 31)).heap.size 3 1 (.slice Ag0d N02 cg0d) N02 (marks markI (1 + N01) N02)) ∧ Hid (Box wx (w.heap.size) 26 #[.bool a0g, .slice a0m len0m cap0m, .slice a0d len0d cap0d]) ∧ Hid (Box wx (w.heap.size + 1) 26 #[.bool a1g, .slice a1m len1m cap1m, .slice a1d len1d cap1d]) ∧ Hid (Box wx (gb1) 31 #[.bool r1_00, .slice Aw0m N01 cw0m, .slice Aw0d N02 cw0d]) ∧ Hid (Box wx (w6.heap.size) 31 #[.bool r1_00, .slice Ag0m N01 cg0m, .slice Ag0d N02 cg0d]))
  case first =>
    have BW27 := Lib.hid BW26.out.drew
    have sz27 : w19.heap.size ≤ w19.drew.heap.size := Nat.le_refl _
    have Ow0m_27 := Lib.hid (own_drew Ow0m_26.out)
    have Ow0d_27 := Lib.hid (own_drew Ow0d_26.out)
    have Og0m_27 := Lib.hid (own_drew Og0m_26.out)
    have Og0d_27 := Lib.hid (own_drew Og0d_26.out)
    have XaR_27 := Lib.hid XaR_26.out.drew
    have XaS_27 := Lib.hid XaS_26.out.drew
    have Xw0_27 := Lib.hid Xw0_26.out.drew
    have Xg0_27 := Lib.hid Xg0_26.out.drew
    have cvaR0 : Hid ((#[.bool a0g, .slice a0m len0m cap0m, .slice a0d len0d cap0d] : Array Value)[0]? = some (.bool a0g)) := rfl
    have cvaR1 : Hid ((#[.bool a0g, .slice a0m len0m cap0m, .slice a0d len0d cap0d] : Array Value)[1]? = some (.slice a0m len0m cap0m)) := rfl
    have cvaR2 : Hid ((#[.bool a0g, .slice a0m len0m cap0m, .slice a0d len0d cap0d] : Array Value)[2]? = some (.slice a0d len0d cap0d)) := rfl
    have cvaS0 : Hid ((#[.bool a1g, .slice a1m len1m cap1m, .slice a1d len1d cap1d] : Array Value)[0]? = some (.bool a1g)) := rfl
    have cvaS1 : Hid ((#[.bool a1g, .slice a1m len1m cap1m, .slice a1d len1d cap1d] : Array Value)[1]? = some (.slice a1m len1m cap1m)) := rfl
    have cvaS2 : Hid ((#[.bool a1g, .slice a1m len1m cap1m, .slice a1d len1d cap1d] : Array Value)[2]? = some (.slice a1d len1d cap1d)) := rfl
    go_region_held3 (fun w' => w'.cell? ⟨w.heap.size, 0, none⟩ = some (.bool a0g) ∧ w'.cell? ⟨w.heap.size, 1, none⟩ = some (.slice a0m len0m cap0m) ∧ w'.cell? ⟨w.heap.size, 2, none⟩ = some (.slice a0d len0d cap0d) ∧ w'.cell? ⟨w.heap.size + 1, 0, none⟩ = some (.bool a1g) ∧ w'.cell? ⟨w.heap.size + 1, 1, none⟩ = some (.slice a1m len1m cap1m) ∧ w'.cell? ⟨w.heap.size + 1, 2, none⟩ = some (.slice a1d len1d cap1d)) (first | with_reducible exact ⟨cellS XaR_30 cvaR0, cellS XaR_30 cvaR1, cellS XaR_30 cvaR2, cellS XaS_30 cvaS0, cellS XaS_30 cvaS1, cellS XaS_30 cvaS2⟩ | with_reducible exact ⟨cellS (hAlloc XaR_30 _) cvaR0, cellS (hAlloc XaR_30 _) cvaR1, cellS (hAlloc XaR_30 _) cvaR2, cellS (hAlloc XaS_30 _) cvaS0, cellS (hAlloc XaS_30 _) cvaS1, cellS (hAlloc XaS_30 _) cvaS2⟩ | with_reducible exact ⟨cellS (hFar (hFar (hFar XaR_30 (by have := XaR_26.out.lt; dsimp only; omega) _) (by have := XaR_26.out.lt; dsimp only; omega) _) (by have := XaR_26.out.lt; dsimp only; omega) _) cvaR0, cellS (hFar (hFar (hFar XaR_30 (by have := XaR_26.out.lt; dsimp only; omega) _) (by have := XaR_26.out.lt; dsimp only; omega) _) (by have := XaR_26.out.lt; dsimp only; omega) _) cvaR1, cellS (hFar (hFar (hFar XaR_30 (by have := XaR_26.out.lt; dsimp only; omega) _) (by have := XaR_26.out.lt; dsimp only; omega) _) (by have := XaR_26.out.lt; dsimp only; omega) _) cvaR2, cellS (hFar (hFar (hFar XaS_30 (by have := XaS_26.out.lt; dsimp only; omega) _) (by have := XaS_26.out.lt; dsimp only; omega) _) (by have := XaS_26.out.lt; dsimp only; omega) _) cvaS0, cellS (hFar (hFar (hFar XaS_30 (by have := XaS_26.out.lt; dsimp only; omega) _) (by have := XaS_26.out.lt; dsimp only; omega) _) (by have := XaS_26.out.lt; dsimp only; omega) _) cvaS1, cellS (hFar (hFar (hFar XaS_30 (by have := XaS_26.out.lt; dsimp only; omega) _) (by have := XaS_26.out.lt; dsimp only; omega) _) (by have := XaS_26.out.lt; dsimp only; omega) _) cvaS2⟩ | with_reducible exact ⟨cellS XaR_29 cvaR0, cellS XaR_29 cvaR1, cellS XaR_29 cvaR2, cellS XaS_29 cvaS0, cellS XaS_29 cvaS1, cellS XaS_29 cvaS2⟩ | with_reducible exact ⟨cellS (hAlloc XaR_29 _) cvaR0, cellS (hAlloc XaR_29 _) cvaR1, cellS (hAlloc XaR_29 _) cvaR2, cellS (hAlloc XaS_29 _) cvaS0, cellS (hAlloc XaS_29 _) cvaS1, cellS (hAlloc XaS_29 _) cvaS2⟩ | with_reducible exact ⟨cellS XaR_28 cvaR0, cellS XaR_28 cvaR1, cellS XaR_28 cvaR2, cellS XaS_28 cvaS0, cellS XaS_28 cvaS1, cellS XaS_28 cvaS2⟩ | with_reducible exact ⟨cellS (hAlloc XaR_28 _) cvaR0, cellS (hAlloc XaR_28 _) cvaR1, cellS (hAlloc XaR_28 _) cvaR2, cellS (hAlloc XaS_28 _) cvaS0, cellS (hAlloc XaS_28 _) cvaS1, cellS (hAlloc XaS_28 _) cvaS2⟩ | with_reducible exact ⟨cellS XaR_27 cvaR0, cellS XaR_27 cvaR1, cellS XaR_27 cvaR2, cellS XaS_27 cvaS0, cellS XaS_27 cvaS1, cellS XaS_27 cvaS2⟩ | with_reducible exact ⟨cellS (hAlloc XaR_27 _) cvaR0, cellS (hAlloc XaR_27 _) cvaR1, cellS (hAlloc XaR_27 _) cvaR2, cellS (hAlloc XaS_27 _) cvaS0, cellS (hAlloc XaS_27 _) cvaS1, cellS (hAlloc XaS_27 _) cvaS2⟩ | with_reducible exact ⟨cellS (hDrew (hAlloc XaR_26 _)) cvaR0, cellS (hDrew (hAlloc XaR_26 _)) cvaR1, cellS (hDrew (hAlloc XaR_26 _)) cvaR2, cellS (hDrew (hAlloc XaS_26 _)) cvaS0, cellS (hDrew (hAlloc XaS_26 _)) cvaS1, cellS (hDrew (hAlloc XaS_26 _)) cvaS2⟩) (first | (go_at_call 54; first | ((with_reducible refine (impl_ratMax a0g At5m len0m ct5m z0m At5d len0d ct5d z0d a1g At6m len1m ct6m z1m At6d len1d ct6d z1d _ (Inz0m.out.own Ot5m_29.out) (room_own Ot5m_29.out) (Inz0d.out.own Ot5d_29.out) (room_own Ot5d_29.out) (Inz1m.out.own Ot6m_29.out) (room_own Ot6m_29.out) (Inz1d.out.own Ot6d_29.out) (room_own Ot6d_29.out)).mono ?_); rintro e w22 ⟨r3_00, r3_01, v3_01, r3_02, v3_02, rfl, his, ho01, ho02, hap10, hb⟩; have BW30 := Lib.hid (BW29.out.trans (hb.mono BW29.out.size)); have sz30 : w21.heap.size ≤ w22.heap.size := Nat.le_trans (by simp) hb.size; have Ow0m_30 := Lib.hid (own_below Ow0m_29.out hb); have Ow0d_30 := Lib.hid (own_below Ow0d_29.out hb); have Og0m_30 := Lib.hid (own_below Og0m_29.out hb); have Og0d_30 := Lib.hid (own_below Og0d_29.out hb); have Ot5m_30 := Lib.hid (own_below Ot5m_29.out hb); have Ot5d_30 := Lib.hid (own_below Ot5d_29.out hb); have Ot6m_30 := Lib.hid (own_below Ot6m_29.out hb); have Ot6d_30 := Lib.hid (own_below Ot6d_29.out hb); have XaR_30 := Lib.hid (XaR_29.out.below hb XaR_29.out.lt); have XaS_30 := Lib.hid (XaS_29.out.below hb XaS_29.out.lt); have Xw0_30 := Lib.hid (Xw0_29.out.below hb Xw0_29.out.lt); have Xg0_30 := Lib.hid (Xg0_29.out.below hb Xg0_29.out.lt); (try (have NN_30 := Lib.hid (NN_29.out.below hb NN_29.out.lt))); clear hb; obtain ⟨rfl, rfl, rfl⟩ := ratMax_unique IS.out his; clear his; replace ho01 := ho01.2; rw [HN01.out] at ho01; replace ho02 := ho02.2; rw [HN02.out] at ho02; obtain ⟨Ah0m, ch0m, rfl⟩ := own_slice ho01; have Uh0m := Lib.hid (fun k (hk : (Value.slice Ah0m N01 ch0m).ownBlock = some k) => (ho01.lt k hk).2); have Oh0m_30 := Lib.hid ho01; clear ho01; obtain ⟨Ah0d, ch0d, rfl⟩ := own_slice ho02; have Uh0d := Lib.hid (fun k (hk : (Value.slice Ah0d N02 ch0d).ownBlock = some k) => (ho02.lt k hk).2); have Oh0d_30 := Lib.hid ho02; clear ho02; have APh0d_h0m := Lib.hid hap10; have APh0m_h0d := Lib.hid hap10.symm; clear hap10; clear Ot5m_30 Ut5m Ot5d_30 Ut5d; clear Ot6m_30 Ut6m Ot6d_30 Ut6d; (try (have eN0 := NN_30.out.cell 0; have eN1 := NN_30.out.cell 1; have eN2 := NN_30.out.cell 2; simp at eN0 eN1 eN2; have fN0 := NN_30.out.free 0; have fN1 := NN_30.out.free 1; have fN2 := NN_30.out.free 2))) | (replace Ow0m_29 := Lib.hid (Ow0m_29.out.alloc (.cells #[.bool false, .slice none 0 0, .slice none 0 0] 31)); replace Ow0d_29 := Lib.hid (Ow0d_29.out.alloc (.cells #[.bool false, .slice none 0 0, .slice none 0 0] 31)); replace Og0m_29 := Lib.hid (Og0m_29.out.alloc (.cells #[.bool false, .slice none 0 0, .slice none 0 0] 31)); replace Og0d_29 := Lib.hid (Og0d_29.out.alloc (.cells #[.bool false, .slice none 0 0, .slice none 0 0] 31)); replace Ot5m_29 := Lib.hid (Ot5m_29.out.alloc (.cells #[.bool false, .slice none 0 0, .slice none 0 0] 31)); replace Ot5d_29 := Lib.hid (Ot5d_29.out.alloc (.cells #[.bool false, .slice none 0 0, .slice none 0 0] 31)); replace Ot6m_29 := Lib.hid (Ot6m_29.out.alloc (.cells #[.bool false, .slice none 0 0, .slice none 0 0] 31)); replace Ot6d_29 := Lib.hid (Ot6d_29.out.alloc (.cells #[.bool false, .slice none 0 0, .slice none 0 0] 31)); replace XaR_29 := Lib.hid (XaR_29.out.alloc (.cells #[.bool false, .slice none 0 0, .slice none 0 0] 31)); replace XaS_29 := Lib.hid (XaS_29.out.alloc (.cells #[.bool false, .slice none 0 0, .slice none 0 0] 31)); replace Xw0_29 := Lib.hid (Xw0_29.out.alloc (.cells #[.bool false, .slice none 0 0, .slice none 0 0] 31)); replace Xg0_29 := Lib.hid (Xg0_29.out.alloc (.cells #[.bool false, .slice none 0 0, .slice none 0 0] 31)); replace BW29 := Lib.hid (BW29.out.alloc BW29.out.size (.cells #[.bool false, .slice none 0 0, .slice none 0 0] 31)); have NN_29 := Lib.hid (Box.new w21 31 #[.bool false, .slice none 0 0, .slice none 0 0]); (with_reducible refine (impl_ratMax a0g At5m len0m ct5m z0m At5d len0d ct5d z0d a1g At6m len1m ct6m z1m At6d len1d ct6d z1d _ (Inz0m.out.own Ot5m_29.out) (room_own Ot5m_29.out) (Inz0d.out.own Ot5d_29.out) (room_own Ot5d_29.out) (Inz1m.out.own Ot6m_29.out) (room_own Ot6m_29.out) (Inz1d.out.own Ot6d_29.out) (room_own Ot6d_29.out)).mono ?_); rintro e w22 ⟨r3_00, r3_01, v3_01, r3_02, v3_02, rfl, his, ho01, ho02, hap10, hb⟩; have BW30 := Lib.hid (BW29.out.trans (hb.mono BW29.out.size)); have sz30 : w21.heap.size ≤ w22.heap.size := Nat.le_trans (by simp) hb.size; have Ow0m_30 := Lib.hid (own_below Ow0m_29.out hb); have Ow0d_30 := Lib.hid (own_below Ow0d_29.out hb); have Og0m_30 := Lib.hid (own_below Og0m_29.out hb); have Og0d_30 := Lib.hid (own_below Og0d_29.out hb); have Ot5m_30 := Lib.hid (own_below Ot5m_29.out hb); have Ot5d_30 := Lib.hid (own_below Ot5d_29.out hb); have Ot6m_30 := Lib.hid (own_below Ot6m_29.out hb); have Ot6d_30 := Lib.hid (own_below Ot6d_29.out hb); have XaR_30 := Lib.hid (XaR_29.out.below hb XaR_29.out.lt); have XaS_30 := Lib.hid (XaS_29.out.below hb XaS_29.out.lt); have Xw0_30 := Lib.hid (Xw0_29.out.below hb Xw0_29.out.lt); have Xg0_30 := Lib.hid (Xg0_29.out.below hb Xg0_29.out.lt); (try (have NN_30 := Lib.hid (NN_29.out.below hb NN_29.out.lt))); clear hb; obtain ⟨rfl, rfl, rfl⟩ := ratMax_unique IS.out his; clear his; replace ho01 := ho01.2; rw [HN01.out] at ho01; replace ho02 := ho02.2; rw [HN02.out] at ho02; obtain ⟨Ah0m, ch0m, rfl⟩ := own_slice ho01; have Uh0m := Lib.hid (fun k (hk : (Value.slice Ah0m N01 ch0m).ownBlock = some k) => (ho01.lt k hk).2); have Oh0m_30 := Lib.hid ho01; clear ho01; obtain ⟨Ah0d, ch0d, rfl⟩ := own_slice ho02; have Uh0d := Lib.hid (fun k (hk : (Value.slice Ah0d N02 ch0d).ownBlock = some k) => (ho02.lt k hk).2); have Oh0d_30 := Lib.hid ho02; clear ho02; have APh0d_h0m := Lib.hid hap10; have APh0m_h0d := Lib.hid hap10.symm; clear hap10; clear Ot5m_30 Ut5m Ot5d_30 Ut5d; clear Ot6m_30 Ut6m Ot6d_30 Ut6d; (try (have eN0 := NN_30.out.cell 0; have eN1 := NN_30.out.cell 1; have eN2 := NN_30.out.cell 2; simp at eN0 eN1 eN2; have fN0 := NN_30.out.free 0; have fN1 := NN_30.out.free 1; have fN2 := NN_30.out.free 2)))) | (go_at_call 20; first | ((with_reducible refine (toRat_any a1g a1m len1m cap1m z1m a1d len1d cap1d z1d _ Inz1m.out.len Inz1m.out.le (Inz1m.out.rd.below BW28.out) Inz1d.out.len Inz1d.out.le (Inz1d.out.rd.below BW28.out)).mono ?_); rintro e w21 ⟨v0, v1, rfl, ho0, ho1, hap10, hb⟩; have BW29 := Lib.hid (BW28.out.trans (hb.mono BW28.out.size)); have sz29 : w20.heap.size ≤ w21.heap.size := Nat.le_trans (by simp) hb.size; have Ow0m_29 := Lib.hid (own_below Ow0m_28.out hb); have Ow0d_29 := Lib.hid (own_below Ow0d_28.out hb); have Og0m_29 := Lib.hid (own_below Og0m_28.out hb); have Og0d_29 := Lib.hid (own_below Og0d_28.out hb); have Ot5m_29 := Lib.hid (own_below Ot5m_28.out hb); have Ot5d_29 := Lib.hid (own_below Ot5d_28.out hb); have XaR_29 := Lib.hid (XaR_28.out.below hb XaR_28.out.lt); have XaS_29 := Lib.hid (XaS_28.out.below hb XaS_28.out.lt); have Xw0_29 := Lib.hid (Xw0_28.out.below hb Xw0_28.out.lt); have Xg0_29 := Lib.hid (Xg0_28.out.below hb Xg0_28.out.lt); (try (have NN_29 := Lib.hid (NN_28.out.below hb NN_28.out.lt))); obtain ⟨At6m, ct6m, rfl⟩ := own_slice ho0; have Ut6m := Lib.hid (fun k (hk : (Value.slice At6m len1m ct6m).ownBlock = some k) => (ho0.lt k hk).2); have Ot6m_29 := Lib.hid ho0; clear ho0; obtain ⟨At6d, ct6d, rfl⟩ := own_slice ho1; have Ut6d := Lib.hid (fun k (hk : (Value.slice At6d len1d ct6d).ownBlock = some k) => (ho1.lt k hk).2); have Ot6d_29 := Lib.hid ho1; clear ho1; have APt6d_t6m := Lib.hid hap10; have APt6m_t6d := Lib.hid hap10.symm; clear hap10; clear hb) | (replace Ow0m_28 := Lib.hid (Ow0m_28.out.alloc (.cells #[.bool false, .slice none 0 0, .slice none 0 0] 31)); replace Ow0d_28 := Lib.hid (Ow0d_28.out.alloc (.cells #[.bool false, .slice none 0 0, .slice none 0 0] 31)); replace Og0m_28 := Lib.hid (Og0m_28.out.alloc (.cells #[.bool false, .slice none 0 0, .slice none 0 0] 31)); replace Og0d_28 := Lib.hid (Og0d_28.out.alloc (.cells #[.bool false, .slice none 0 0, .slice none 0 0] 31)); replace Ot5m_28 := Lib.hid (Ot5m_28.out.alloc (.cells #[.bool false, .slice none 0 0, .slice none 0 0] 31)); replace Ot5d_28 := Lib.hid (Ot5d_28.out.alloc (.cells #[.bool false, .slice none 0 0, .slice none 0 0] 31)); replace XaR_28 := Lib.hid (XaR_28.out.alloc (.cells #[.bool false, .slice none 0 0, .slice none 0 0] 31)); replace XaS_28 := Lib.hid (XaS_28.out.alloc (.cells #[.bool false, .slice none 0 0, .slice none 0 0] 31)); replace Xw0_28 := Lib.hid (Xw0_28.out.alloc (.cells #[.bool false, .slice none 0 0, .slice none 0 0] 31)); replace Xg0_28 := Lib.hid (Xg0_28.out.alloc (.cells #[.bool false, .slice none 0 0, .slice none 0 0] 31)); replace BW28 := Lib.hid (BW28.out.alloc BW28.out.size (.cells #[.bool false, .slice none 0 0, .slice none 0 0] 31)); have NN_28 := Lib.hid (Box.new w20 31 #[.bool false, .slice none 0 0, .slice none 0 0]); (with_reducible refine (toRat_any a1g a1m len1m cap1m z1m a1d len1d cap1d z1d _ Inz1m.out.len Inz1m.out.le (Inz1m.out.rd.below BW28.out) Inz1d.out.len Inz1d.out.le (Inz1d.out.rd.below BW28.out)).mono ?_); rintro e w21 ⟨v0, v1, rfl, ho0, ho1, hap10, hb⟩; have BW29 := Lib.hid (BW28.out.trans (hb.mono BW28.out.size)); have sz29 : w20.heap.size ≤ w21.heap.size := Nat.le_trans (by simp) hb.size; have Ow0m_29 := Lib.hid (own_below Ow0m_28.out hb); have Ow0d_29 := Lib.hid (own_below Ow0d_28.out hb); have Og0m_29 := Lib.hid (own_below Og0m_28.out hb); have Og0d_29 := Lib.hid (own_below Og0d_28.out hb); have Ot5m_29 := Lib.hid (own_below Ot5m_28.out hb); have Ot5d_29 := Lib.hid (own_below Ot5d_28.out hb); have XaR_29 := Lib.hid (XaR_28.out.below hb XaR_28.out.lt); have XaS_29 := Lib.hid (XaS_28.out.below hb XaS_28.out.lt); have Xw0_29 := Lib.hid (Xw0_28.out.below hb Xw0_28.out.lt); have Xg0_29 := Lib.hid (Xg0_28.out.below hb Xg0_28.out.lt); (try (have NN_29 := Lib.hid (NN_28.out.below hb NN_28.out.lt))); obtain ⟨At6m, ct6m, rfl⟩ := own_slice ho0; have Ut6m := Lib.hid (fun k (hk : (Value.slice At6m len1m ct6m).ownBlock = some k) => (ho0.lt k hk).2); have Ot6m_29 := Lib.hid ho0; clear ho0; obtain ⟨At6d, ct6d, rfl⟩ := own_slice ho1; have Ut6d := Lib.hid (fun k (hk : (Value.slice At6d len1d ct6d).ownBlock = some k) => (ho1.lt k hk).2); have Ot6d_29 := Lib.hid ho1; clear ho1; have APt6d_t6m := Lib.hid hap10; have APt6m_t6d := Lib.hid hap10.symm; clear hap10; clear hb)) | (go_at_call 20; first | ((with_reducible refine (toRat_any a0g a0m len0m cap0m z0m a0d len0d cap0d z0d _ Inz0m.out.len Inz0m.out.le (Inz0m.out.rd.below BW27.out) Inz0d.out.len Inz0d.out.le (Inz0d.out.rd.below BW27.out)).mono ?_); rintro e w20 ⟨v0, v1, rfl, ho0, ho1, hap10, hb⟩; have BW28 := Lib.hid (BW27.out.trans (hb.mono BW27.out.size)); have sz28 : w19.drew.heap.size ≤ w20.heap.size := Nat.le_trans (by simp) hb.size; have Ow0m_28 := Lib.hid (own_below Ow0m_27.out hb); have Ow0d_28 := Lib.hid (own_below Ow0d_27.out hb); have Og0m_28 := Lib.hid (own_below Og0m_27.out hb); have Og0d_28 := Lib.hid (own_below Og0d_27.out hb); have XaR_28 := Lib.hid (XaR_27.out.below hb XaR_27.out.lt); have XaS_28 := Lib.hid (XaS_27.out.below hb XaS_27.out.lt); have Xw0_28 := Lib.hid (Xw0_27.out.below hb Xw0_27.out.lt); have Xg0_28 := Lib.hid (Xg0_27.out.below hb Xg0_27.out.lt); (try (have NN_28 := Lib.hid (NN_27.out.below hb NN_27.out.lt))); obtain ⟨At5m, ct5m, rfl⟩ := own_slice ho0; have Ut5m := Lib.hid (fun k (hk : (Value.slice At5m len0m ct5m).ownBlock = some k) => (ho0.lt k hk).2); have Ot5m_28 := Lib.hid ho0; clear ho0; obtain ⟨At5d, ct5d, rfl⟩ := own_slice ho1; have Ut5d := Lib.hid (fun k (hk : (Value.slice At5d len0d ct5d).ownBlock = some k) => (ho1.lt k hk).2); have Ot5d_28 := Lib.hid ho1; clear ho1; have APt5d_t5m := Lib.hid hap10; have APt5m_t5d := Lib.hid hap10.symm; clear hap10; clear hb) | (replace Ow0m_27 := Lib.hid (own_drew (Ow0m_26.out.alloc (.cells #[.bool false, .slice none 0 0, .slice none 0 0] 31))); replace Ow0d_27 := Lib.hid (own_drew (Ow0d_26.out.alloc (.cells #[.bool false, .slice none 0 0, .slice none 0 0] 31))); replace Og0m_27 := Lib.hid (own_drew (Og0m_26.out.alloc (.cells #[.bool false, .slice none 0 0, .slice none 0 0] 31))); replace Og0d_27 := Lib.hid (own_drew (Og0d_26.out.alloc (.cells #[.bool false, .slice none 0 0, .slice none 0 0] 31))); replace XaR_27 := Lib.hid (XaR_26.out.alloc (.cells #[.bool false, .slice none 0 0, .slice none 0 0] 31)).drew; replace XaS_27 := Lib.hid (XaS_26.out.alloc (.cells #[.bool false, .slice none 0 0, .slice none 0 0] 31)).drew; replace Xw0_27 := Lib.hid (Xw0_26.out.alloc (.cells #[.bool false, .slice none 0 0, .slice none 0 0] 31)).drew; replace Xg0_27 := Lib.hid (Xg0_26.out.alloc (.cells #[.bool false, .slice none 0 0, .slice none 0 0] 31)).drew; replace BW27 := Lib.hid (BW26.out.alloc BW26.out.size (.cells #[.bool false, .slice none 0 0, .slice none 0 0] 31)).drew; have NN_27 := Lib.hid (Box.new w19 31 #[.bool false, .slice none 0 0, .slice none 0 0]).drew; (with_reducible refine (toRat_any a0g a0m len0m cap0m z0m a0d len0d cap0d z0d _ Inz0m.out.len Inz0m.out.le (Inz0m.out.rd.below BW27.out) Inz0d.out.len Inz0d.out.le (Inz0d.out.rd.below BW27.out)).mono ?_); rintro e w20 ⟨v0, v1, rfl, ho0, ho1, hap10, hb⟩; have BW28 := Lib.hid (BW27.out.trans (hb.mono BW27.out.size)); have sz28 : w19.drew.heap.size ≤ w20.heap.size := Nat.le_trans (by simp) hb.size; have Ow0m_28 := Lib.hid (own_below Ow0m_27.out hb); have Ow0d_28 := Lib.hid (own_below Ow0d_27.out hb); have Og0m_28 := Lib.hid (own_below Og0m_27.out hb); have Og0d_28 := Lib.hid (own_below Og0d_27.out hb); have XaR_28 := Lib.hid (XaR_27.out.below hb XaR_27.out.lt); have XaS_28 := Lib.hid (XaS_27.out.below hb XaS_27.out.lt); have Xw0_28 := Lib.hid (Xw0_27.out.below hb Xw0_27.out.lt); have Xg0_28 := Lib.hid (Xg0_27.out.below hb Xg0_27.out.lt); (try (have NN_28 := Lib.hid (NN_27.out.below hb NN_27.out.lt))); obtain ⟨At5m, ct5m, rfl⟩ := own_slice ho0; have Ut5m := Lib.hid (fun k (hk : (Value.slice At5m len0m ct5m).ownBlock = some k) => (ho0.lt k hk).2); have Ot5m_28 := Lib.hid ho0; clear ho0; obtain ⟨At5d, ct5d, rfl⟩ := own_slice ho1; have Ut5d := Lib.hid (fun k (hk : (Value.slice At5d len0d ct5d).ownBlock = some k) => (ho1.lt k hk).2); have Ot5d_28 := Lib.hid ho1; clear ho1; have APt5d_t5m := Lib.hid hap10; have APt5m_t5d := Lib.hid hap10.symm; clear hap10; clear hb)))
    all_goals (go_wp2_with fail; go_meet; first | exact ⟨_, _, _, _, _, rfl, own_base (Oh0m_30.out.alloc _) (by first | omega | (simp; omega)), own_base (Oh0d_30.out.alloc _) (by first | omega | (simp; omega)), Box.new _ _ _, APh0d_h0m, BW30.out.alloc BW30.out.size _, (by simp; omega), Ow0m_30.out.alloc _, Ow0d_30.out.alloc _, Og0m_30.out.alloc _, Og0d_30.out.alloc _, XaR_30.out.alloc _, XaS_30.out.alloc _, Xw0_30.out.alloc _, Xg0_30.out.alloc _⟩ | exact ⟨_, _, _, _, _, rfl, own_base ((own_box (own_box (own_box Oh0m_30.out NN_30.out 0 _) (NN_30.out.set_ 0 _) 1 _) ((NN_30.out.set_ 0 _).set_ 1 _) 2 _)) (by first | omega | (simp; omega)), own_base ((own_box (own_box (own_box Oh0d_30.out NN_30.out 0 _) (NN_30.out.set_ 0 _) 1 _) ((NN_30.out.set_ 0 _).set_ 1 _) 2 _)) (by first | omega | (simp; omega)), (((NN_30.out.set_ 0 _).set_ 1 _).set_ 2 _), APh0d_h0m, (((BW30.out.setCell (by dsimp only; omega) _).setCell (by dsimp only; omega) _).setCell (by dsimp only; omega) _), (by simp; omega), (own_box (own_box (own_box Ow0m_30.out NN_30.out 0 _) (NN_30.out.set_ 0 _) 1 _) ((NN_30.out.set_ 0 _).set_ 1 _) 2 _), (own_box (own_box (own_box Ow0d_30.out NN_30.out 0 _) (NN_30.out.set_ 0 _) 1 _) ((NN_30.out.set_ 0 _).set_ 1 _) 2 _), (own_box (own_box (own_box Og0m_30.out NN_30.out 0 _) (NN_30.out.set_ 0 _) 1 _) ((NN_30.out.set_ 0 _).set_ 1 _) 2 _), (own_box (own_box (own_box Og0d_30.out NN_30.out 0 _) (NN_30.out.set_ 0 _) 1 _) ((NN_30.out.set_ 0 _).set_ 1 _) 2 _), (((XaR_30.out.far (by have := XaR_26.out.lt; dsimp only; omega) _).far (by have := XaR_26.out.lt; dsimp only; omega) _).far (by have := XaR_26.out.lt; dsimp only; omega) _), (((XaS_30.out.far (by have := XaS_26.out.lt; dsimp only; omega) _).far (by have := XaS_26.out.lt; dsimp only; omega) _).far (by have := XaS_26.out.lt; dsimp only; omega) _), (((Xw0_30.out.far (by have := Xw0_26.out.lt; dsimp only; omega) _).far (by have := Xw0_26.out.lt; dsimp only; omega) _).far (by have := Xw0_26.out.lt; dsimp only; omega) _), (((Xg0_30.out.far (by have := Xg0_26.out.lt; dsimp only; omega) _).far (by have := Xg0_26.out.lt; dsimp only; omega) _).far (by have := Xg0_26.out.lt; dsimp only; omega) _)⟩)
  obtain ⟨gb4, Ah0m, ch0m, Ah0d, ch0d, rfl, Oh0m_27, Oh0d_27, Xh0_27, APh0d_h0m, BW27, sz27, Ow0m_27, Ow0d_27, Og0m_27, Og0d_27, XaR_27, XaS_27, Xw0_27, Xg0_27⟩ := hcut
  obtain ⟨wc4, rfl⟩ : ∃ q, q = wc := ⟨_, rfl⟩
  have APh0m_h0d := Lib.hid APh0d_h0m.out.symm
  have Uh0m := Lib.hid (fun k (hk : (Value.slice Ah0m N01 ch0m).ownBlock = some k) => (Oh0m_27.out.lt k hk).2)
  have Uh0d := Lib.hid (fun k (hk : (Value.slice Ah0d N02 ch0d).ownBlock = some k) => (Oh0d_27.out.lt k hk).2)
  have eh00a : wc4.cell? ⟨gb4, 0, none⟩ = some (.bool r1_00) := Xh0_27.out.cell 0
  have eh01a : wc4.cell? ⟨gb4, 1, none⟩ = some (.slice Ah0m N01 ch0m) := Xh0_27.out.cell 1
  have eh02a : wc4.cell? ⟨gb4, 2, none⟩ = some (.slice Ah0d N02 ch0d) := Xh0_27.out.cell 2
  have ew00a : wc4.cell? ⟨gb1, 0, none⟩ = some (.bool r1_00) := Xw0_27.out.cell 0
  have ew01a : wc4.cell? ⟨gb1, 1, none⟩ = some (.slice Aw0m N01 cw0m) := Xw0_27.out.cell 1
  have ew02a : wc4.cell? ⟨gb1, 2, none⟩ = some (.slice Aw0d N02 cw0d) := Xw0_27.out.cell 2
  go_wp2_with fail
  clear eh00a eh01a eh02a ew00a ew01a ew02a
  refine (eqRat_same r1_00 Ah0m Aw0m N01 ch0m cw0m r1_01 Ah0d Aw0d N02 ch0d cw0d r1_02 _ HN01.out (by unfold maxLen; omega) (Reads.of_own Oh0m_27.out) (Reads.of_own Ow0m_27.out) HN02.out (by unfold maxLen; omega) (Reads.of_own Oh0d_27.out) (Reads.of_own Ow0d_27.out)).mono ?_
  rintro e w23 ⟨rfl, hb⟩
  have BW28 := Lib.hid (BW27.out.trans (hb.mono BW27.out.size))
  have sz28 : wc4.heap.size ≤ w23.heap.size := hb.size
  have Ow0m_28 := Lib.hid (own_below Ow0m_27.out hb)
  have Ow0d_28 := Lib.hid (own_below Ow0d_27.out hb)
  have Og0m_28 := Lib.hid (own_below Og0m_27.out hb)
  have Og0d_28 := Lib.hid (own_below Og0d_27.out hb)
  have Oh0m_28 := Lib.hid (own_below Oh0m_27.out hb)
  have Oh0d_28 := Lib.hid (own_below Oh0d_27.out hb)
  have XaR_28 := Lib.hid (XaR_27.out.below hb XaR_27.out.lt)
  have XaS_28 := Lib.hid (XaS_27.out.below hb XaS_27.out.lt)
  have Xw0_28 := Lib.hid (Xw0_27.out.below hb Xw0_27.out.lt)
  have Xg0_28 := Lib.hid (Xg0_27.out.below hb Xg0_27.out.lt)
  have Xh0_28 := Lib.hid (Xh0_27.out.below hb Xh0_27.out.lt)
  clear hb
  clear Ow0m_28 Uw0m Ow0d_28 Uw0d Xw0_28
  clear Oh0m_28 Uh0m Oh0d_28 Uh0d Xh0_28
  have eg00a : w23.cell? ⟨w6.heap.size, 0, none⟩ = some (.bool r1_00) := Xg0_28.out.cell 0
  have eg01a : w23.cell? ⟨w6.heap.size, 1, none⟩ = some (.slice Ag0m N01 cg0m) := Xg0_28.out.cell 1
  have eg02a : w23.cell? ⟨w6.heap.size, 2, none⟩ = some (.slice Ag0d N02 cg0d) := Xg0_28.out.cell 2
  go_wp2_with fail
  clear eg00a eg01a eg02a
  refine (heldRat_same r1_00 Ag0m N01 cg0m Ag0d N02 cg0d (1) _ (by unfold maxLen; omega) (Reads.of_own Og0m_28.out) (Reads.of_own Og0d_28.out)).mono ?_
  rintro e w24 ⟨rfl, hb⟩
  have BW29 := Lib.hid (BW28.out.trans (hb.mono BW28.out.size))
  have sz29 : w23.heap.size ≤ w24.heap.size := hb.size
  have Og0m_29 := Lib.hid (own_below Og0m_28.out hb)
  have Og0d_29 := Lib.hid (own_below Og0d_28.out hb)
  have XaR_29 := Lib.hid (XaR_28.out.below hb XaR_28.out.lt)
  have XaS_29 := Lib.hid (XaS_28.out.below hb XaS_28.out.lt)
  have Xg0_29 := Lib.hid (Xg0_28.out.below hb Xg0_28.out.lt)
  clear hb
  clear Og0m_29 Ug0m Og0d_29 Ug0d Xg0_29
  go_wp2_with fail
  go_ret
  exact ⟨rfl, BW29.out⟩
end Go.Proofs.Ytbfanjalinkmhaa.fnExactRatMax
