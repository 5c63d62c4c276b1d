/- The walk of the law: for every slice of bytes the law FnRats returns true, where the library's table of powers of ten is as the program's text lays it; no other condition. -/
import Derived.Test.YtkigfakfadoopaaGreatDoorGB
import Derived.Test.YtkigfakfadoopaaGreatDoorFnRatD
import Derived.Test.YtkigfakfadoopaaGreatDoorDraw3
import Derived.Test.YtkigfakfadoopaaGreatDoorRatP10
import Derived.Test.YtkigfakfadoopaaGreatDoorGP
import Derived.Test.YtkigfakfadoopaaGreatDoorGE
import Derived.Test.YtkigfakfadoopaaGreatDoorGD
import Derived.Test.YtkigfakfadoopaaGreatDoorGF
import Derived.Test.YtkigfakfadoopaaGreatDoorGK
import Derived.Deep.RegionWith
import Derived.ProofKit
import Derived.OpenShut
import Derived.ShutString
import Derived.Lib.SmallJoins
namespace Go.Proofs.YtkigfakfadoopaaGreatDoor.fnRats
set_option maxRecDepth 100000
open Go.ChangeShapes Go.WideShapes Go.ChangeAt Go.RowKit Go.Joins Go.Deep
open Go.ChangeMaps (open_string shut_string)

theorem three_rats {w : World} {b b' b'' : Nat} {t t' t'' : TypeId} {x y z x' y' z' x'' y'' z'' : Value} (h : Hid (Box w b t #[x, y, z])) (k : Hid (Box w b' t' #[x', y', z'])) (l : Hid (Box w b'' t'' #[x'', y'', z''])) :
    w.cell? ⟨b, 0, none⟩ = some x ∧ w.cell? ⟨b, 1, none⟩ = some y ∧ w.cell? ⟨b, 2, none⟩ = some z ∧ w.cell? ⟨b', 0, none⟩ = some x' ∧ w.cell? ⟨b', 1, none⟩ = some y' ∧ w.cell? ⟨b', 2, none⟩ = some z' ∧ w.cell? ⟨b'', 0, none⟩ = some x'' ∧ w.cell? ⟨b'', 1, none⟩ = some y'' ∧ w.cell? ⟨b'', 2, none⟩ = some z'' :=
  ⟨h.out.cell 0, h.out.cell 1, h.out.cell 2, k.out.cell 0, k.out.cell 1, k.out.cell 2, l.out.cell 0, l.out.cell 1, l.out.cell 2⟩
theorem five_rats {w : World} {b1 b2 b3 b4 b5 : Nat} {t1 t2 t3 t4 t5 : TypeId} {x1 y1 z1 x2 y2 z2 x3 y3 z3 x4 y4 z4 x5 y5 z5 : Value} (h1 : Hid (Box w b1 t1 #[x1, y1, z1])) (h2 : Hid (Box w b2 t2 #[x2, y2, z2])) (h3 : Hid (Box w b3 t3 #[x3, y3, z3])) (h4 : Hid (Box w b4 t4 #[x4, y4, z4])) (h5 : Hid (Box w b5 t5 #[x5, y5, z5])) :
    w.cell? ⟨b1, 0, none⟩ = some x1 ∧ w.cell? ⟨b1, 1, none⟩ = some y1 ∧ w.cell? ⟨b1, 2, none⟩ = some z1 ∧ w.cell? ⟨b2, 0, none⟩ = some x2 ∧ w.cell? ⟨b2, 1, none⟩ = some y2 ∧ w.cell? ⟨b2, 2, none⟩ = some z2 ∧ w.cell? ⟨b3, 0, none⟩ = some x3 ∧ w.cell? ⟨b3, 1, none⟩ = some y3 ∧ w.cell? ⟨b3, 2, none⟩ = some z3 ∧ w.cell? ⟨b4, 0, none⟩ = some x4 ∧ w.cell? ⟨b4, 1, none⟩ = some y4 ∧ w.cell? ⟨b4, 2, none⟩ = some z4 ∧ w.cell? ⟨b5, 0, none⟩ = some x5 ∧ w.cell? ⟨b5, 1, none⟩ = some y5 ∧ w.cell? ⟨b5, 2, none⟩ = some z5 :=
  ⟨h1.out.cell 0, h1.out.cell 1, h1.out.cell 2, h2.out.cell 0, h2.out.cell 1, h2.out.cell 2, h3.out.cell 0, h3.out.cell 1, h3.out.cell 2, h4.out.cell 0, h4.out.cell 1, h4.out.cell 2, h5.out.cell 0, h5.out.cell 1, h5.out.cell 2⟩
theorem two_mats {w : World} {b b' : Nat} {t t' : TypeId} {x y z x' y' z' : Value} (h : Hid (Box w b t #[x, y, z])) (k : Hid (Box w b' t' #[x', y', z'])) :
    w.cell? ⟨b, 0, none⟩ = some x ∧ w.cell? ⟨b, 1, none⟩ = some y ∧ w.cell? ⟨b, 2, none⟩ = some z ∧ w.cell? ⟨b', 0, none⟩ = some x' ∧ w.cell? ⟨b', 1, none⟩ = some y' ∧ w.cell? ⟨b', 2, none⟩ = some z' :=
  ⟨h.out.cell 0, h.out.cell 1, h.out.cell 2, k.out.cell 0, k.out.cell 1, k.out.cell 2⟩
theorem hFar3R {w : World} {g G : Nat} {t : TypeId} {cs : Array Value} (h : Hid (Box w g t cs)) (hne : g ≠ G) (u0 u1 u2 : Value) : Hid (Box (((w.setCell ⟨G, 0, none⟩ u0).setCell ⟨G, 1, none⟩ u1).setCell ⟨G, 2, none⟩ u2) g t cs) :=
  Lib.hid (((h.out.far (p := ⟨G, 0, none⟩) hne u0).far (p := ⟨G, 1, none⟩) hne u1).far (p := ⟨G, 2, none⟩) hne u2)
theorem rin_store {w W : World} {gb : Nat} {cs : Array Value} {r : RD} {A B : Option Addr} {c d : Nat} (h1 : ResI w W (.slice A r.xs.length c) r.xs) (h2 : ResI w W (.slice B r.ds.length d) r.ds) (hbx : Box W gb 27 cs) (hk : r.ok) (u0 u1 u2 : Value) :
    RIn (((W.setCell ⟨gb, 0, none⟩ u0).setCell ⟨gb, 1, none⟩ u1).setCell ⟨gb, 2, none⟩ u2) r A c B d := by
  have q1 : ResI w (((W.setCell ⟨gb, 0, none⟩ u0).setCell ⟨gb, 1, none⟩ u1).setCell ⟨gb, 2, none⟩ u2) (.slice A r.xs.length c) r.xs := ⟨h1.1, own_store3 h1.2 hbx (by decide) _ _ _⟩
  have q2 : ResI w (((W.setCell ⟨gb, 0, none⟩ u0).setCell ⟨gb, 1, none⟩ u1).setCell ⟨gb, 2, none⟩ u2) (.slice B r.ds.length d) r.ds := ⟨h2.1, own_store3 h2.2 hbx (by decide) _ _ _⟩
  obtain ⟨A', c', B', d', e1, e2, h⟩ := rat_arg q1 q2 hk
  cases e1; cases e2
  exact h

theorem rat_text_size {g : Bool} {xs ds : List Int} {t : ByteArray} (k : ROk g xs ds) (h : FormatRatIs g xs ds t) : t.size ≤ 1084 := by
  rcases h with ⟨_, a, ha, ⟨_, rfl⟩ | ⟨_, b, hb, rfl⟩⟩ | ⟨hn, _⟩
  · have := big_text_size k.1 ha; omega
  · have h1 := big_text_size k.1 ha
    have h2 := nat_text_size k.2.1 hb
    have h3 : (⟨#[47]⟩ : ByteArray).size = 1 := rfl
    rw [ByteArray.size_append, ByteArray.size_append]
    omega
  · exact absurd k hn

set_option maxRecDepth 100000 in
set_option maxHeartbeats 16000000 in
theorem walk {w : World} (A : Option Addr) (n c : Nat) (hx : IsBytes w A n) (ht : Tab w) (hm : MaxAt w) :
    Calls Tryz.prog 3 #[.slice A n c] w fun e w' => e = .returned (.bool true) ∧ Below w.heap.size w w' := by
  have Hby := Lib.hid hx.2
  have Ht := Lib.hid ht
  have Hm := Lib.hid hm
  have h0w : 0 < w.heap.size := by obtain ⟨m, h⟩ := hm; exact World.block_lt_of_cell? _ _ h
  clear hx ht hm
  by_cases hbig : 1048576 < (n : Int)
  · go_enter Tryz.func3, Tryz.ntmps3
    go_wp2_with fail
    go_ret
    exact ⟨rfl, Below.refl _ _⟩
  have BW_0 : Hid (Below w.heap.size w w) := Below.refl _ _
  go_enter Tryz.func3, Tryz.ntmps3
  go_wp2_with fail
  refine (spec_makeRat A n c 1 _ (by omega) (by omega) (Hby.out)).mono ?_
  rintro e w1 ⟨g, l, v, dd, u, rfl, hs, q1, q2, hap, hb⟩
  obtain ⟨a, hRDa⟩ : ∃ r, r = RD.mk g l dd := ⟨_, rfl⟩
  have eg : g = a.g := by rw [hRDa]
  have el : l = a.xs := by rw [hRDa]
  have ed : dd = a.ds := by rw [hRDa]
  rw [← hRDa] at hs
  clear hRDa
  subst eg el ed
  obtain ⟨Aa, ca, Ba, da, rfl, rfl, hi⟩ := rat_arg q1 q2 (by obtain ⟨q, k⟩ := hs; exact k.ok)
  have BW_1 := Lib.hid (BW_0.out.trans (hb.mono BW_0.out.size))
  have Ia_1 := Lib.hid hi
  have Sa := Lib.hid hs
  clear hs q1 q2 hap hb hi
  obtain ⟨W2, hW2⟩ : ∃ W, W = w1.alloc (.cells #[.bool a.g, .slice Aa a.xs.length ca, .slice Ba a.ds.length da] 27) := ⟨_, rfl⟩
  have hb : Below w1.heap.size w1 W2 := by rw [hW2]; exact (Below.refl _ _).alloc (Nat.le_refl _) _
  have BW_2 := Lib.hid (BW_1.out.trans (hb.mono BW_1.out.size))
  have Ia_2 := Lib.hid (Ia_1.out.below hb)
  have Xa_2 : Hid (Box W2 w1.heap.size 27 #[.bool a.g, .slice Aa a.xs.length ca, .slice Ba a.ds.length da]) := by rw [hW2]; exact Box.new _ _ _
  clear hb
  go_wp2_with fail
  rw [← hW2]
  clear hW2
  refine (spec_makeRat A n c 5 _ (by omega) (by omega) (Hby.out.keep2 BW_2.out)).mono ?_
  rintro e w3 ⟨g, l, v, dd, u, rfl, hs, q1, q2, hap, hb⟩
  obtain ⟨b, hRDb⟩ : ∃ r, r = RD.mk g l dd := ⟨_, rfl⟩
  have eg : g = b.g := by rw [hRDb]
  have el : l = b.xs := by rw [hRDb]
  have ed : dd = b.ds := by rw [hRDb]
  rw [← hRDb] at hs
  clear hRDb
  subst eg el ed
  obtain ⟨Ab, cb, Bb, db, rfl, rfl, hi⟩ := rat_arg q1 q2 (by obtain ⟨q, k⟩ := hs; exact k.ok)
  have BW_3 := Lib.hid (BW_2.out.trans (hb.mono BW_2.out.size))
  have Xa_3 := Lib.hid (Xa_2.out.below hb Xa_2.out.lt)
  have Ia_3 := Lib.hid (Ia_2.out.below hb)
  have Ib_3 := Lib.hid hi
  have Sb := Lib.hid hs
  clear hs q1 q2 hap hb hi
  obtain ⟨W4, hW4⟩ : ∃ W, W = w3.alloc (.cells #[.bool b.g, .slice Ab b.xs.length cb, .slice Bb b.ds.length db] 27) := ⟨_, rfl⟩
  have hb : Below w3.heap.size w3 W4 := by rw [hW4]; exact (Below.refl _ _).alloc (Nat.le_refl _) _
  have BW_4 := Lib.hid (BW_3.out.trans (hb.mono BW_3.out.size))
  have Xa_4 := Lib.hid (Xa_3.out.below hb Xa_3.out.lt)
  have Ia_4 := Lib.hid (Ia_3.out.below hb)
  have Ib_4 := Lib.hid (Ib_3.out.below hb)
  have Xb_4 : Hid (Box W4 w3.heap.size 27 #[.bool b.g, .slice Ab b.xs.length cb, .slice Bb b.ds.length db]) := by rw [hW4]; exact Box.new _ _ _
  clear hb
  go_wp2_with fail
  rw [← hW4]
  clear hW4
  refine (spec_makeRat A n c 9 _ (by omega) (by omega) (Hby.out.keep2 BW_4.out)).mono ?_
  rintro e w5 ⟨g, l, v, dd, u, rfl, hs, q1, q2, hap, hb⟩
  obtain ⟨c, hRDc⟩ : ∃ r, r = RD.mk g l dd := ⟨_, rfl⟩
  have eg : g = c.g := by rw [hRDc]
  have el : l = c.xs := by rw [hRDc]
  have ed : dd = c.ds := by rw [hRDc]
  rw [← hRDc] at hs
  clear hRDc
  subst eg el ed
  obtain ⟨Ac, cc, Bc, dc, rfl, rfl, hi⟩ := rat_arg q1 q2 (by obtain ⟨q, k⟩ := hs; exact k.ok)
  have BW_5 := Lib.hid (BW_4.out.trans (hb.mono BW_4.out.size))
  have Xa_5 := Lib.hid (Xa_4.out.below hb Xa_4.out.lt)
  have Xb_5 := Lib.hid (Xb_4.out.below hb Xb_4.out.lt)
  have Ia_5 := Lib.hid (Ia_4.out.below hb)
  have Ib_5 := Lib.hid (Ib_4.out.below hb)
  have Ic_5 := Lib.hid hi
  have Sc := Lib.hid hs
  clear hs q1 q2 hap hb hi
  obtain ⟨W6, hW6⟩ : ∃ W, W = w5.alloc (.cells #[.bool c.g, .slice Ac c.xs.length cc, .slice Bc c.ds.length dc] 27) := ⟨_, rfl⟩
  have hb : Below w5.heap.size w5 W6 := by rw [hW6]; exact (Below.refl _ _).alloc (Nat.le_refl _) _
  have BW_6 := Lib.hid (BW_5.out.trans (hb.mono BW_5.out.size))
  have Xa_6 := Lib.hid (Xa_5.out.below hb Xa_5.out.lt)
  have Xb_6 := Lib.hid (Xb_5.out.below hb Xb_5.out.lt)
  have Ia_6 := Lib.hid (Ia_5.out.below hb)
  have Ib_6 := Lib.hid (Ib_5.out.below hb)
  have Ic_6 := Lib.hid (Ic_5.out.below hb)
  have Xc_6 : Hid (Box W6 w5.heap.size 27 #[.bool c.g, .slice Ac c.xs.length cc, .slice Bc c.ds.length dc]) := by rw [hW6]; exact Box.new _ _ _
  clear hb
  obtain ⟨s, x, p1, p2, y, df, hf⟩ := fr_ex Sa.out Sb.out Sc.out
  have HF := Lib.hid hf
  clear hf Sa Sb Sc Hby
  go_upto_region 6 with fail
  rw [← hW6]
  clear hW6
  go_cut [6] (fun s1 wx => ∃ (gb : Nat) (A' : Option Addr) (c' : Nat) (B' : Option Addr) (d' : Nat), s1 = .pointer (some ⟨gb, 0, none⟩) ∧ Hid (Box wx gb 27 #[.bool x.g, .slice A' x.xs.length c', .slice B' x.ds.length d']) ∧ Hid (RIn wx x A' c' B' d') ∧ Hid (Below W6.heap.size W6 wx))
  case first =>
    have BD_6 : Hid (Below W6.heap.size W6 W6) := Below.refl _ _
    have BD_7 := Lib.hid BD_6.out.drew
    have sz_7 : Hid (W6.heap.size ≤ W6.drew.heap.size) := Nat.le_refl _
    have Xa_7 := Lib.hid Xa_6.out.drew
    have lta := Xa_6.out.lt
    have Xb_7 := Lib.hid Xb_6.out.drew
    have ltb := Xb_6.out.lt
    have Xc_7 := Lib.hid Xc_6.out.drew
    have ltc := Xc_6.out.lt
    go_region_held3 (fun w' => w'.cell? ⟨w1.heap.size, 0, none⟩ = some (.bool a.g) ∧ w'.cell? ⟨w1.heap.size, 1, none⟩ = some (.slice Aa a.xs.length ca) ∧ w'.cell? ⟨w1.heap.size, 2, none⟩ = some (.slice Ba a.ds.length da) ∧ w'.cell? ⟨w3.heap.size, 0, none⟩ = some (.bool b.g) ∧ w'.cell? ⟨w3.heap.size, 1, none⟩ = some (.slice Ab b.xs.length cb) ∧ w'.cell? ⟨w3.heap.size, 2, none⟩ = some (.slice Bb b.ds.length db) ∧ w'.cell? ⟨w5.heap.size, 0, none⟩ = some (.bool c.g) ∧ w'.cell? ⟨w5.heap.size, 1, none⟩ = some (.slice Ac c.xs.length cc) ∧ w'.cell? ⟨w5.heap.size, 2, none⟩ = some (.slice Bc c.ds.length dc)) (first | with_reducible exact three_rats Xa_9 Xb_9 Xc_9 | with_reducible exact three_rats (hAlloc Xa_9 _) (hAlloc Xb_9 _) (hAlloc Xc_9 _) | with_reducible exact three_rats (hFar3R Xa_9 (by have := sz_7.out; have := sz_8.out; have := sz_9.out; omega) _ _ _) (hFar3R Xb_9 (by have := sz_7.out; have := sz_8.out; have := sz_9.out; omega) _ _ _) (hFar3R Xc_9 (by have := sz_7.out; have := sz_8.out; have := sz_9.out; omega) _ _ _) | with_reducible exact three_rats Xa_8 Xb_8 Xc_8 | with_reducible exact three_rats (hAlloc Xa_8 _) (hAlloc Xb_8 _) (hAlloc Xc_8 _) | with_reducible exact three_rats Xa_7 Xb_7 Xc_7 | with_reducible exact three_rats (hAlloc Xa_7 _) (hAlloc Xb_7 _) (hAlloc Xc_7 _) | with_reducible exact three_rats (hDrew (hAlloc Xa_6 _)) (hDrew (hAlloc Xb_6 _)) (hDrew (hAlloc Xc_6 _))) (first | (go_at_call 5; first | ((with_reducible refine (impl_ratMul a.g Aa a.xs.length ca a.xs Ba a.ds.length da a.ds s.g As s.xs.length cs s.xs Bs s.ds.length ds s.ds _ (Ia_6.out.below BD_8.out).i Ia_6.out.ra (Ia_6.out.below BD_8.out).j Ia_6.out.rb Is_8.out.i Is_8.out.ra Is_8.out.j Is_8.out.rb).mono ?_); rintro e v9 ⟨g, l, v, dd, u, rfl, his, q1, q2, hap, hb⟩; obtain ⟨rfl, rfl, rfl⟩ := ratMul_unique HF.out.rx his; obtain ⟨Ax, cx, Bx, dx, hv, hu, hi⟩ := rat_arg q1 q2 HF.out.kx; subst hv; subst hu; have BD_9 := Lib.hid (BD_8.out.trans (hb.mono BD_8.out.size)); have sz_9 : Hid (v8.heap.size ≤ v9.heap.size) := (by have h := hb.size; first | exact h | (simp at h; unfold Hid; omega) | (simp only [drew_size'] at h; simp at h; unfold Hid; omega)); have Xa_9 := Lib.hid (Xa_8.out.below hb Xa_8.out.lt); have Xb_9 := Lib.hid (Xb_8.out.below hb Xb_8.out.lt); have Xc_9 := Lib.hid (Xc_8.out.below hb Xc_8.out.lt); have Is_9 := Lib.hid (Is_8.out.below hb); (try (have NN_9 := Lib.hid (NN_8.out.below hb NN_8.out.lt))); have Ix_9 := Lib.hid hi; have Q1 := Lib.hid q1; have Q2 := Lib.hid q2; (try (have eN0 := NN_9.out.cell 0; have eN1 := NN_9.out.cell 1; have eN2 := NN_9.out.cell 2; simp at eN0 eN1 eN2; have fN0 := NN_9.out.free 0; have fN1 := NN_9.out.free 1; have fN2 := NN_9.out.free 2)); clear his q1 q2 hap hb hi) | (replace Xa_8 := Lib.hid (Xa_8.out.alloc (.cells #[.bool false, .slice none 0 0, .slice none 0 0] 27)); replace Xb_8 := Lib.hid (Xb_8.out.alloc (.cells #[.bool false, .slice none 0 0, .slice none 0 0] 27)); replace Xc_8 := Lib.hid (Xc_8.out.alloc (.cells #[.bool false, .slice none 0 0, .slice none 0 0] 27)); replace Is_8 := Lib.hid (Is_8.out.below ((Below.refl _ _).alloc (Nat.le_refl _) (.cells #[.bool false, .slice none 0 0, .slice none 0 0] 27))); replace BD_8 := Lib.hid (BD_8.out.alloc BD_8.out.size (.cells #[.bool false, .slice none 0 0, .slice none 0 0] 27)); have NN_8 := Lib.hid (Box.new v8 27 #[.bool false, .slice none 0 0, .slice none 0 0]); (with_reducible refine (impl_ratMul a.g Aa a.xs.length ca a.xs Ba a.ds.length da a.ds s.g As s.xs.length cs s.xs Bs s.ds.length ds s.ds _ (Ia_6.out.below BD_8.out).i Ia_6.out.ra (Ia_6.out.below BD_8.out).j Ia_6.out.rb Is_8.out.i Is_8.out.ra Is_8.out.j Is_8.out.rb).mono ?_); rintro e v9 ⟨g, l, v, dd, u, rfl, his, q1, q2, hap, hb⟩; obtain ⟨rfl, rfl, rfl⟩ := ratMul_unique HF.out.rx his; obtain ⟨Ax, cx, Bx, dx, hv, hu, hi⟩ := rat_arg q1 q2 HF.out.kx; subst hv; subst hu; have BD_9 := Lib.hid (BD_8.out.trans (hb.mono BD_8.out.size)); have sz_9 : Hid (v8.heap.size ≤ v9.heap.size) := (by have h := hb.size; first | exact h | (simp at h; unfold Hid; omega) | (simp only [drew_size'] at h; simp at h; unfold Hid; omega)); have Xa_9 := Lib.hid (Xa_8.out.below hb Xa_8.out.lt); have Xb_9 := Lib.hid (Xb_8.out.below hb Xb_8.out.lt); have Xc_9 := Lib.hid (Xc_8.out.below hb Xc_8.out.lt); have Is_9 := Lib.hid (Is_8.out.below hb); (try (have NN_9 := Lib.hid (NN_8.out.below hb NN_8.out.lt))); have Ix_9 := Lib.hid hi; have Q1 := Lib.hid q1; have Q2 := Lib.hid q2; (try (have eN0 := NN_9.out.cell 0; have eN1 := NN_9.out.cell 1; have eN2 := NN_9.out.cell 2; simp at eN0 eN1 eN2; have fN0 := NN_9.out.free 0; have fN1 := NN_9.out.free 1; have fN2 := NN_9.out.free 2)); clear his q1 q2 hap hb hi)) | (go_at_call 6; first | ((with_reducible refine (impl_ratAdd b.g Ab b.xs.length cb b.xs Bb b.ds.length db b.ds c.g Ac c.xs.length cc c.xs Bc c.ds.length dc c.ds _ (Ib_6.out.below BD_7.out).i Ib_6.out.ra (Ib_6.out.below BD_7.out).j Ib_6.out.rb (Ic_6.out.below BD_7.out).i Ic_6.out.ra (Ic_6.out.below BD_7.out).j Ic_6.out.rb).mono ?_); rintro e v8 ⟨g, l, v, dd, u, rfl, his, q1, q2, hap, hb⟩; obtain ⟨rfl, rfl, rfl⟩ := ratAdd_unique HF.out.rs his; obtain ⟨As, cs, Bs, ds, hv, hu, hi⟩ := rat_arg q1 q2 HF.out.ks; subst hv; subst hu; have BD_8 := Lib.hid (BD_7.out.trans (hb.mono BD_7.out.size)); have sz_8 : Hid (W6.heap.size ≤ v8.heap.size) := (by have h := hb.size; first | exact h | (simp at h; unfold Hid; omega) | (simp only [drew_size'] at h; simp at h; unfold Hid; omega)); have Xa_8 := Lib.hid (Xa_7.out.below hb Xa_7.out.lt); have Xb_8 := Lib.hid (Xb_7.out.below hb Xb_7.out.lt); have Xc_8 := Lib.hid (Xc_7.out.below hb Xc_7.out.lt); (try (have NN_8 := Lib.hid (NN_7.out.below hb NN_7.out.lt))); have Is_8 := Lib.hid hi; clear his q1 q2 hap hb hi) | (replace Xa_7 := Lib.hid (Xa_6.out.alloc (.cells #[.bool false, .slice none 0 0, .slice none 0 0] 27)).drew; replace Xb_7 := Lib.hid (Xb_6.out.alloc (.cells #[.bool false, .slice none 0 0, .slice none 0 0] 27)).drew; replace Xc_7 := Lib.hid (Xc_6.out.alloc (.cells #[.bool false, .slice none 0 0, .slice none 0 0] 27)).drew; replace BD_7 := Lib.hid (BD_6.out.alloc BD_6.out.size (.cells #[.bool false, .slice none 0 0, .slice none 0 0] 27)).drew; have NN_7 := Lib.hid (Box.new W6 27 #[.bool false, .slice none 0 0, .slice none 0 0]).drew; (with_reducible refine (impl_ratAdd b.g Ab b.xs.length cb b.xs Bb b.ds.length db b.ds c.g Ac c.xs.length cc c.xs Bc c.ds.length dc c.ds _ (Ib_6.out.below BD_7.out).i Ib_6.out.ra (Ib_6.out.below BD_7.out).j Ib_6.out.rb (Ic_6.out.below BD_7.out).i Ic_6.out.ra (Ic_6.out.below BD_7.out).j Ic_6.out.rb).mono ?_); rintro e v8 ⟨g, l, v, dd, u, rfl, his, q1, q2, hap, hb⟩; obtain ⟨rfl, rfl, rfl⟩ := ratAdd_unique HF.out.rs his; obtain ⟨As, cs, Bs, ds, hv, hu, hi⟩ := rat_arg q1 q2 HF.out.ks; subst hv; subst hu; have BD_8 := Lib.hid (BD_7.out.trans (hb.mono BD_7.out.size)); have sz_8 : Hid (W6.heap.size ≤ v8.heap.size) := (by have h := hb.size; first | exact h | (simp at h; unfold Hid; omega) | (simp only [drew_size'] at h; simp at h; unfold Hid; omega)); have Xa_8 := Lib.hid (Xa_7.out.below hb Xa_7.out.lt); have Xb_8 := Lib.hid (Xb_7.out.below hb Xb_7.out.lt); have Xc_8 := Lib.hid (Xc_7.out.below hb Xc_7.out.lt); (try (have NN_8 := Lib.hid (NN_7.out.below hb NN_7.out.lt))); have Is_8 := Lib.hid hi; clear his q1 q2 hap hb hi)))
    all_goals (have zz7 := sz_7.out; have zz8 := sz_8.out; have zz9 := sz_9.out; go_wp2_with fail; go_meet; first | exact ⟨_, _, _, _, _, rfl, Box.new _ _ _, Ix_9.out.below ((Below.refl _ _).alloc (Nat.le_refl _) _), BD_9.out.alloc BD_9.out.size _⟩ | exact ⟨_, _, _, _, _, rfl, (((NN_9.out.set_ 0 _).set_ 1 _).set_ 2 _), rin_store Q1.out Q2.out NN_9.out HF.out.kx _ _ _, (((BD_9.out.setCell (by dsimp only; omega) _).setCell (by dsimp only; omega) _).setCell (by dsimp only; omega) _)⟩)
  obtain ⟨gb6, Ax, cx, Bx, dx, rfl, Xx_10, Ix_10, hbh⟩ := hcut
  have hb := hbh.out
  clear hbh
  obtain ⟨w10, rfl⟩ : ∃ q, q = wc := ⟨_, rfl⟩
  have BW_10 := Lib.hid (BW_6.out.trans (hb.mono BW_6.out.size))
  have Xa_10 := Lib.hid (Xa_6.out.below hb Xa_6.out.lt)
  have Xb_10 := Lib.hid (Xb_6.out.below hb Xb_6.out.lt)
  have Xc_10 := Lib.hid (Xc_6.out.below hb Xc_6.out.lt)
  have Ia_10 := Lib.hid (Ia_6.out.below hb)
  have Ib_10 := Lib.hid (Ib_6.out.below hb)
  have Ic_10 := Lib.hid (Ic_6.out.below hb)
  clear hb
  obtain ⟨W10, hW10⟩ : ∃ W, W = w10 := ⟨_, rfl⟩
  rw [← hW10] at Xa_10
  rw [← hW10] at Xb_10
  rw [← hW10] at Xc_10
  rw [← hW10] at Xx_10
  rw [← hW10] at Ia_10
  rw [← hW10] at Ib_10
  rw [← hW10] at Ic_10
  rw [← hW10] at Ix_10
  rw [← hW10] at BW_10
  go_upto_region 7 with fail
  rw [← hW10]
  clear hW10
  go_cut [7] (fun s1 wx => ∃ (gb : Nat) (A' : Option Addr) (c' : Nat) (B' : Option Addr) (d' : Nat), s1 = .pointer (some ⟨gb, 0, none⟩) ∧ Hid (Box wx gb 27 #[.bool y.g, .slice A' y.xs.length c', .slice B' y.ds.length d']) ∧ Hid (RIn wx y A' c' B' d') ∧ Hid (Below W10.heap.size W10 wx))
  case first =>
    have BD_10 : Hid (Below W10.heap.size W10 W10) := Below.refl _ _
    have BD_11 := Lib.hid BD_10.out.drew
    have sz_11 : Hid (W10.heap.size ≤ W10.drew.heap.size) := Nat.le_refl _
    have Xa_11 := Lib.hid Xa_10.out.drew
    have lta := Xa_10.out.lt
    have Xb_11 := Lib.hid Xb_10.out.drew
    have ltb := Xb_10.out.lt
    have Xc_11 := Lib.hid Xc_10.out.drew
    have ltc := Xc_10.out.lt
    go_region_held3 (fun w' => w'.cell? ⟨w1.heap.size, 0, none⟩ = some (.bool a.g) ∧ w'.cell? ⟨w1.heap.size, 1, none⟩ = some (.slice Aa a.xs.length ca) ∧ w'.cell? ⟨w1.heap.size, 2, none⟩ = some (.slice Ba a.ds.length da) ∧ w'.cell? ⟨w3.heap.size, 0, none⟩ = some (.bool b.g) ∧ w'.cell? ⟨w3.heap.size, 1, none⟩ = some (.slice Ab b.xs.length cb) ∧ w'.cell? ⟨w3.heap.size, 2, none⟩ = some (.slice Bb b.ds.length db) ∧ w'.cell? ⟨w5.heap.size, 0, none⟩ = some (.bool c.g) ∧ w'.cell? ⟨w5.heap.size, 1, none⟩ = some (.slice Ac c.xs.length cc) ∧ w'.cell? ⟨w5.heap.size, 2, none⟩ = some (.slice Bc c.ds.length dc)) (first | with_reducible exact three_rats Xa_14 Xb_14 Xc_14 | with_reducible exact three_rats (hAlloc Xa_14 _) (hAlloc Xb_14 _) (hAlloc Xc_14 _) | with_reducible exact three_rats (hFar3R Xa_14 (by have := sz_11.out; have := sz_12.out; have := sz_13.out; have := sz_14.out; omega) _ _ _) (hFar3R Xb_14 (by have := sz_11.out; have := sz_12.out; have := sz_13.out; have := sz_14.out; omega) _ _ _) (hFar3R Xc_14 (by have := sz_11.out; have := sz_12.out; have := sz_13.out; have := sz_14.out; omega) _ _ _) | with_reducible exact three_rats Xa_13 Xb_13 Xc_13 | with_reducible exact three_rats (hAlloc Xa_13 _) (hAlloc Xb_13 _) (hAlloc Xc_13 _) | with_reducible exact three_rats Xa_12 Xb_12 Xc_12 | with_reducible exact three_rats (hAlloc Xa_12 _) (hAlloc Xb_12 _) (hAlloc Xc_12 _) | with_reducible exact three_rats Xa_11 Xb_11 Xc_11 | with_reducible exact three_rats (hAlloc Xa_11 _) (hAlloc Xb_11 _) (hAlloc Xc_11 _) | with_reducible exact three_rats (hDrew (hAlloc Xa_10 _)) (hDrew (hAlloc Xb_10 _)) (hDrew (hAlloc Xc_10 _))) (first | (go_at_call 6; first | ((with_reducible refine (impl_ratAdd p1.g Ap1 p1.xs.length cp1 p1.xs Bp1 p1.ds.length dp1 p1.ds p2.g Ap2 p2.xs.length cp2 p2.xs Bp2 p2.ds.length dp2 p2.ds _ Ip1_13.out.i Ip1_13.out.ra Ip1_13.out.j Ip1_13.out.rb Ip2_13.out.i Ip2_13.out.ra Ip2_13.out.j Ip2_13.out.rb).mono ?_); rintro e v14 ⟨g, l, v, dd, u, rfl, his, q1, q2, hap, hb⟩; obtain ⟨rfl, rfl, rfl⟩ := ratAdd_unique HF.out.ry his; obtain ⟨Ay, cy, By, dy, hv, hu, hi⟩ := rat_arg q1 q2 HF.out.ky; subst hv; subst hu; have BD_14 := Lib.hid (BD_13.out.trans (hb.mono BD_13.out.size)); have sz_14 : Hid (v13.heap.size ≤ v14.heap.size) := (by have h := hb.size; first | exact h | (simp at h; unfold Hid; omega) | (simp only [drew_size'] at h; simp at h; unfold Hid; omega)); have Xa_14 := Lib.hid (Xa_13.out.below hb Xa_13.out.lt); have Xb_14 := Lib.hid (Xb_13.out.below hb Xb_13.out.lt); have Xc_14 := Lib.hid (Xc_13.out.below hb Xc_13.out.lt); have Ip1_14 := Lib.hid (Ip1_13.out.below hb); have Ip2_14 := Lib.hid (Ip2_13.out.below hb); (try (have NN_14 := Lib.hid (NN_13.out.below hb NN_13.out.lt))); have Iy_14 := Lib.hid hi; have Q1 := Lib.hid q1; have Q2 := Lib.hid q2; (try (have eN0 := NN_14.out.cell 0; have eN1 := NN_14.out.cell 1; have eN2 := NN_14.out.cell 2; simp at eN0 eN1 eN2; have fN0 := NN_14.out.free 0; have fN1 := NN_14.out.free 1; have fN2 := NN_14.out.free 2)); clear his q1 q2 hap hb hi) | (replace Xa_13 := Lib.hid (Xa_13.out.alloc (.cells #[.bool false, .slice none 0 0, .slice none 0 0] 27)); replace Xb_13 := Lib.hid (Xb_13.out.alloc (.cells #[.bool false, .slice none 0 0, .slice none 0 0] 27)); replace Xc_13 := Lib.hid (Xc_13.out.alloc (.cells #[.bool false, .slice none 0 0, .slice none 0 0] 27)); replace Ip1_13 := Lib.hid (Ip1_13.out.below ((Below.refl _ _).alloc (Nat.le_refl _) (.cells #[.bool false, .slice none 0 0, .slice none 0 0] 27))); replace Ip2_13 := Lib.hid (Ip2_13.out.below ((Below.refl _ _).alloc (Nat.le_refl _) (.cells #[.bool false, .slice none 0 0, .slice none 0 0] 27))); replace BD_13 := Lib.hid (BD_13.out.alloc BD_13.out.size (.cells #[.bool false, .slice none 0 0, .slice none 0 0] 27)); have NN_13 := Lib.hid (Box.new v13 27 #[.bool false, .slice none 0 0, .slice none 0 0]); (with_reducible refine (impl_ratAdd p1.g Ap1 p1.xs.length cp1 p1.xs Bp1 p1.ds.length dp1 p1.ds p2.g Ap2 p2.xs.length cp2 p2.xs Bp2 p2.ds.length dp2 p2.ds _ Ip1_13.out.i Ip1_13.out.ra Ip1_13.out.j Ip1_13.out.rb Ip2_13.out.i Ip2_13.out.ra Ip2_13.out.j Ip2_13.out.rb).mono ?_); rintro e v14 ⟨g, l, v, dd, u, rfl, his, q1, q2, hap, hb⟩; obtain ⟨rfl, rfl, rfl⟩ := ratAdd_unique HF.out.ry his; obtain ⟨Ay, cy, By, dy, hv, hu, hi⟩ := rat_arg q1 q2 HF.out.ky; subst hv; subst hu; have BD_14 := Lib.hid (BD_13.out.trans (hb.mono BD_13.out.size)); have sz_14 : Hid (v13.heap.size ≤ v14.heap.size) := (by have h := hb.size; first | exact h | (simp at h; unfold Hid; omega) | (simp only [drew_size'] at h; simp at h; unfold Hid; omega)); have Xa_14 := Lib.hid (Xa_13.out.below hb Xa_13.out.lt); have Xb_14 := Lib.hid (Xb_13.out.below hb Xb_13.out.lt); have Xc_14 := Lib.hid (Xc_13.out.below hb Xc_13.out.lt); have Ip1_14 := Lib.hid (Ip1_13.out.below hb); have Ip2_14 := Lib.hid (Ip2_13.out.below hb); (try (have NN_14 := Lib.hid (NN_13.out.below hb NN_13.out.lt))); have Iy_14 := Lib.hid hi; have Q1 := Lib.hid q1; have Q2 := Lib.hid q2; (try (have eN0 := NN_14.out.cell 0; have eN1 := NN_14.out.cell 1; have eN2 := NN_14.out.cell 2; simp at eN0 eN1 eN2; have fN0 := NN_14.out.free 0; have fN1 := NN_14.out.free 1; have fN2 := NN_14.out.free 2)); clear his q1 q2 hap hb hi)) | (go_at_call 5; first | ((with_reducible refine (impl_ratMul a.g Aa a.xs.length ca a.xs Ba a.ds.length da a.ds c.g Ac c.xs.length cc c.xs Bc c.ds.length dc c.ds _ (Ia_10.out.below BD_12.out).i Ia_10.out.ra (Ia_10.out.below BD_12.out).j Ia_10.out.rb (Ic_10.out.below BD_12.out).i Ic_10.out.ra (Ic_10.out.below BD_12.out).j Ic_10.out.rb).mono ?_); rintro e v13 ⟨g, l, v, dd, u, rfl, his, q1, q2, hap, hb⟩; obtain ⟨rfl, rfl, rfl⟩ := ratMul_unique HF.out.r2 his; obtain ⟨Ap2, cp2, Bp2, dp2, hv, hu, hi⟩ := rat_arg q1 q2 HF.out.k2; subst hv; subst hu; have BD_13 := Lib.hid (BD_12.out.trans (hb.mono BD_12.out.size)); have sz_13 : Hid (v12.heap.size ≤ v13.heap.size) := (by have h := hb.size; first | exact h | (simp at h; unfold Hid; omega) | (simp only [drew_size'] at h; simp at h; unfold Hid; omega)); have Xa_13 := Lib.hid (Xa_12.out.below hb Xa_12.out.lt); have Xb_13 := Lib.hid (Xb_12.out.below hb Xb_12.out.lt); have Xc_13 := Lib.hid (Xc_12.out.below hb Xc_12.out.lt); have Ip1_13 := Lib.hid (Ip1_12.out.below hb); (try (have NN_13 := Lib.hid (NN_12.out.below hb NN_12.out.lt))); have Ip2_13 := Lib.hid hi; clear his q1 q2 hap hb hi) | (replace Xa_12 := Lib.hid (Xa_12.out.alloc (.cells #[.bool false, .slice none 0 0, .slice none 0 0] 27)); replace Xb_12 := Lib.hid (Xb_12.out.alloc (.cells #[.bool false, .slice none 0 0, .slice none 0 0] 27)); replace Xc_12 := Lib.hid (Xc_12.out.alloc (.cells #[.bool false, .slice none 0 0, .slice none 0 0] 27)); replace Ip1_12 := Lib.hid (Ip1_12.out.below ((Below.refl _ _).alloc (Nat.le_refl _) (.cells #[.bool false, .slice none 0 0, .slice none 0 0] 27))); replace BD_12 := Lib.hid (BD_12.out.alloc BD_12.out.size (.cells #[.bool false, .slice none 0 0, .slice none 0 0] 27)); have NN_12 := Lib.hid (Box.new v12 27 #[.bool false, .slice none 0 0, .slice none 0 0]); (with_reducible refine (impl_ratMul a.g Aa a.xs.length ca a.xs Ba a.ds.length da a.ds c.g Ac c.xs.length cc c.xs Bc c.ds.length dc c.ds _ (Ia_10.out.below BD_12.out).i Ia_10.out.ra (Ia_10.out.below BD_12.out).j Ia_10.out.rb (Ic_10.out.below BD_12.out).i Ic_10.out.ra (Ic_10.out.below BD_12.out).j Ic_10.out.rb).mono ?_); rintro e v13 ⟨g, l, v, dd, u, rfl, his, q1, q2, hap, hb⟩; obtain ⟨rfl, rfl, rfl⟩ := ratMul_unique HF.out.r2 his; obtain ⟨Ap2, cp2, Bp2, dp2, hv, hu, hi⟩ := rat_arg q1 q2 HF.out.k2; subst hv; subst hu; have BD_13 := Lib.hid (BD_12.out.trans (hb.mono BD_12.out.size)); have sz_13 : Hid (v12.heap.size ≤ v13.heap.size) := (by have h := hb.size; first | exact h | (simp at h; unfold Hid; omega) | (simp only [drew_size'] at h; simp at h; unfold Hid; omega)); have Xa_13 := Lib.hid (Xa_12.out.below hb Xa_12.out.lt); have Xb_13 := Lib.hid (Xb_12.out.below hb Xb_12.out.lt); have Xc_13 := Lib.hid (Xc_12.out.below hb Xc_12.out.lt); have Ip1_13 := Lib.hid (Ip1_12.out.below hb); (try (have NN_13 := Lib.hid (NN_12.out.below hb NN_12.out.lt))); have Ip2_13 := Lib.hid hi; clear his q1 q2 hap hb hi) | ((with_reducible refine (impl_ratMul a.g Aa a.xs.length ca a.xs Ba a.ds.length da a.ds b.g Ab b.xs.length cb b.xs Bb b.ds.length db b.ds _ (Ia_10.out.below BD_11.out).i Ia_10.out.ra (Ia_10.out.below BD_11.out).j Ia_10.out.rb (Ib_10.out.below BD_11.out).i Ib_10.out.ra (Ib_10.out.below BD_11.out).j Ib_10.out.rb).mono ?_); rintro e v12 ⟨g, l, v, dd, u, rfl, his, q1, q2, hap, hb⟩; obtain ⟨rfl, rfl, rfl⟩ := ratMul_unique HF.out.r1 his; obtain ⟨Ap1, cp1, Bp1, dp1, hv, hu, hi⟩ := rat_arg q1 q2 HF.out.k1; subst hv; subst hu; have BD_12 := Lib.hid (BD_11.out.trans (hb.mono BD_11.out.size)); have sz_12 : Hid (W10.heap.size ≤ v12.heap.size) := (by have h := hb.size; first | exact h | (simp at h; unfold Hid; omega) | (simp only [drew_size'] at h; simp at h; unfold Hid; omega)); have Xa_12 := Lib.hid (Xa_11.out.below hb Xa_11.out.lt); have Xb_12 := Lib.hid (Xb_11.out.below hb Xb_11.out.lt); have Xc_12 := Lib.hid (Xc_11.out.below hb Xc_11.out.lt); (try (have NN_12 := Lib.hid (NN_11.out.below hb NN_11.out.lt))); have Ip1_12 := Lib.hid hi; clear his q1 q2 hap hb hi) | (replace Xa_11 := Lib.hid (Xa_10.out.alloc (.cells #[.bool false, .slice none 0 0, .slice none 0 0] 27)).drew; replace Xb_11 := Lib.hid (Xb_10.out.alloc (.cells #[.bool false, .slice none 0 0, .slice none 0 0] 27)).drew; replace Xc_11 := Lib.hid (Xc_10.out.alloc (.cells #[.bool false, .slice none 0 0, .slice none 0 0] 27)).drew; replace BD_11 := Lib.hid (BD_10.out.alloc BD_10.out.size (.cells #[.bool false, .slice none 0 0, .slice none 0 0] 27)).drew; have NN_11 := Lib.hid (Box.new W10 27 #[.bool false, .slice none 0 0, .slice none 0 0]).drew; (with_reducible refine (impl_ratMul a.g Aa a.xs.length ca a.xs Ba a.ds.length da a.ds b.g Ab b.xs.length cb b.xs Bb b.ds.length db b.ds _ (Ia_10.out.below BD_11.out).i Ia_10.out.ra (Ia_10.out.below BD_11.out).j Ia_10.out.rb (Ib_10.out.below BD_11.out).i Ib_10.out.ra (Ib_10.out.below BD_11.out).j Ib_10.out.rb).mono ?_); rintro e v12 ⟨g, l, v, dd, u, rfl, his, q1, q2, hap, hb⟩; obtain ⟨rfl, rfl, rfl⟩ := ratMul_unique HF.out.r1 his; obtain ⟨Ap1, cp1, Bp1, dp1, hv, hu, hi⟩ := rat_arg q1 q2 HF.out.k1; subst hv; subst hu; have BD_12 := Lib.hid (BD_11.out.trans (hb.mono BD_11.out.size)); have sz_12 : Hid (W10.heap.size ≤ v12.heap.size) := (by have h := hb.size; first | exact h | (simp at h; unfold Hid; omega) | (simp only [drew_size'] at h; simp at h; unfold Hid; omega)); have Xa_12 := Lib.hid (Xa_11.out.below hb Xa_11.out.lt); have Xb_12 := Lib.hid (Xb_11.out.below hb Xb_11.out.lt); have Xc_12 := Lib.hid (Xc_11.out.below hb Xc_11.out.lt); (try (have NN_12 := Lib.hid (NN_11.out.below hb NN_11.out.lt))); have Ip1_12 := Lib.hid hi; clear his q1 q2 hap hb hi)))
    all_goals (have zz11 := sz_11.out; have zz12 := sz_12.out; have zz13 := sz_13.out; have zz14 := sz_14.out; go_wp2_with fail; go_meet; first | exact ⟨_, _, _, _, _, rfl, Box.new _ _ _, Iy_14.out.below ((Below.refl _ _).alloc (Nat.le_refl _) _), BD_14.out.alloc BD_14.out.size _⟩ | exact ⟨_, _, _, _, _, rfl, (((NN_14.out.set_ 0 _).set_ 1 _).set_ 2 _), rin_store Q1.out Q2.out NN_14.out HF.out.ky _ _ _, (((BD_14.out.setCell (by dsimp only; omega) _).setCell (by dsimp only; omega) _).setCell (by dsimp only; omega) _)⟩)
  obtain ⟨gb10, Ay, cy, By, dy, rfl, Xy_15, Iy_15, hbh⟩ := hcut
  have hb := hbh.out
  clear hbh
  obtain ⟨w15, rfl⟩ : ∃ q, q = wc := ⟨_, rfl⟩
  have BW_15 := Lib.hid (BW_10.out.trans (hb.mono BW_10.out.size))
  have Xa_15 := Lib.hid (Xa_10.out.below hb Xa_10.out.lt)
  have Xb_15 := Lib.hid (Xb_10.out.below hb Xb_10.out.lt)
  have Xc_15 := Lib.hid (Xc_10.out.below hb Xc_10.out.lt)
  have Xx_15 := Lib.hid (Xx_10.out.below hb Xx_10.out.lt)
  have Ia_15 := Lib.hid (Ia_10.out.below hb)
  have Ib_15 := Lib.hid (Ib_10.out.below hb)
  have Ic_15 := Lib.hid (Ic_10.out.below hb)
  have Ix_15 := Lib.hid (Ix_10.out.below hb)
  clear hb
  have ea0 := Xa_15.out.cell 0
  have ea1 := Xa_15.out.cell 1
  have ea2 := Xa_15.out.cell 2
  simp at ea0 ea1 ea2
  go_wp2_with fail
  clear ea0 ea1 ea2
  refine (impl_formatRat a.g Aa a.xs.length ca a.xs Ba a.ds.length da a.ds _ Ia_15.out.i Ia_15.out.ra Ia_15.out.j Ia_15.out.rb (Ht.out.below BW_15.out)).mono ?_
  rintro e w16 ⟨t, rfl, his, hb⟩
  have HT := Lib.hid (HF.out.tx t his)
  have hts : t.size ≤ 1048576 := by have := rat_text_size HF.out.ka his; omega
  have BW_16 := Lib.hid (BW_15.out.trans (hb.mono BW_15.out.size))
  have Xa_16 := Lib.hid (Xa_15.out.below hb Xa_15.out.lt)
  have Xb_16 := Lib.hid (Xb_15.out.below hb Xb_15.out.lt)
  have Xc_16 := Lib.hid (Xc_15.out.below hb Xc_15.out.lt)
  have Xx_16 := Lib.hid (Xx_15.out.below hb Xx_15.out.lt)
  have Xy_16 := Lib.hid (Xy_15.out.below hb Xy_15.out.lt)
  have Ia_16 := Lib.hid (Ia_15.out.below hb)
  have Ib_16 := Lib.hid (Ib_15.out.below hb)
  have Ic_16 := Lib.hid (Ic_15.out.below hb)
  have Ix_16 := Lib.hid (Ix_15.out.below hb)
  have Iy_16 := Lib.hid (Iy_15.out.below hb)
  clear his hb
  go_wp2_with fail
  refine (impl_parseRat t _ hts (Hm.out.below BW_16.out h0w)).mono ?_
  rintro e w17 ⟨g, l, v, dd, u, b0, rfl, his, q1, q2, hap, hb⟩
  obtain ⟨rfl, rfl, rfl, rfl⟩ := parseRat_unique HT.out his
  obtain ⟨Az, cz, Bz, dz, rfl, rfl, hi⟩ := rat_arg q1 q2 HF.out.ka
  have BW_17 := Lib.hid (BW_16.out.trans (hb.mono BW_16.out.size))
  have Xa_17 := Lib.hid (Xa_16.out.below hb Xa_16.out.lt)
  have Xb_17 := Lib.hid (Xb_16.out.below hb Xb_16.out.lt)
  have Xc_17 := Lib.hid (Xc_16.out.below hb Xc_16.out.lt)
  have Xx_17 := Lib.hid (Xx_16.out.below hb Xx_16.out.lt)
  have Xy_17 := Lib.hid (Xy_16.out.below hb Xy_16.out.lt)
  have Ia_17 := Lib.hid (Ia_16.out.below hb)
  have Ib_17 := Lib.hid (Ib_16.out.below hb)
  have Ic_17 := Lib.hid (Ic_16.out.below hb)
  have Ix_17 := Lib.hid (Ix_16.out.below hb)
  have Iy_17 := Lib.hid (Iy_16.out.below hb)
  have Iz_17 := Lib.hid hi
  clear his q1 q2 hap hb hi HT
  obtain ⟨W18, hW18⟩ : ∃ W, W = w17.alloc (.cells #[.bool a.g, .slice Az a.xs.length cz, .slice Bz a.ds.length dz] 27) := ⟨_, rfl⟩
  have hb : Below w17.heap.size w17 W18 := by rw [hW18]; exact (Below.refl _ _).alloc (Nat.le_refl _) _
  have BW_18 := Lib.hid (BW_17.out.trans (hb.mono BW_17.out.size))
  have Xa_18 := Lib.hid (Xa_17.out.below hb Xa_17.out.lt)
  have Xb_18 := Lib.hid (Xb_17.out.below hb Xb_17.out.lt)
  have Xc_18 := Lib.hid (Xc_17.out.below hb Xc_17.out.lt)
  have Xx_18 := Lib.hid (Xx_17.out.below hb Xx_17.out.lt)
  have Xy_18 := Lib.hid (Xy_17.out.below hb Xy_17.out.lt)
  have Ia_18 := Lib.hid (Ia_17.out.below hb)
  have Ib_18 := Lib.hid (Ib_17.out.below hb)
  have Ic_18 := Lib.hid (Ic_17.out.below hb)
  have Ix_18 := Lib.hid (Ix_17.out.below hb)
  have Iy_18 := Lib.hid (Iy_17.out.below hb)
  have Iz_18 := Lib.hid (Iz_17.out.below hb)
  have Xz_18 : Hid (Box W18 w17.heap.size 27 #[.bool a.g, .slice Az a.xs.length cz, .slice Bz a.ds.length dz]) := by rw [hW18]; exact Box.new _ _ _
  clear hb
  go_wp2_with fail
  rw [← hW18]
  clear hW18
  have hb : Below W18.heap.size W18 W18.drew := (Below.refl _ _).drew
  have BW_19 := Lib.hid (BW_18.out.trans (hb.mono BW_18.out.size))
  have Xa_19 := Lib.hid (Xa_18.out.below hb Xa_18.out.lt)
  have Xb_19 := Lib.hid (Xb_18.out.below hb Xb_18.out.lt)
  have Xc_19 := Lib.hid (Xc_18.out.below hb Xc_18.out.lt)
  have Xx_19 := Lib.hid (Xx_18.out.below hb Xx_18.out.lt)
  have Xy_19 := Lib.hid (Xy_18.out.below hb Xy_18.out.lt)
  have Xz_19 := Lib.hid (Xz_18.out.below hb Xz_18.out.lt)
  have Ia_19 := Lib.hid (Ia_18.out.below hb)
  have Ib_19 := Lib.hid (Ib_18.out.below hb)
  have Ic_19 := Lib.hid (Ic_18.out.below hb)
  have Ix_19 := Lib.hid (Ix_18.out.below hb)
  have Iy_19 := Lib.hid (Iy_18.out.below hb)
  have Iz_19 := Lib.hid (Iz_18.out.below hb)
  clear hb
  go_region_held3 (fun w' => w'.cell? ⟨w1.heap.size, 0, none⟩ = some (.bool a.g) ∧ w'.cell? ⟨w1.heap.size, 1, none⟩ = some (.slice Aa a.xs.length ca) ∧ w'.cell? ⟨w1.heap.size, 2, none⟩ = some (.slice Ba a.ds.length da) ∧ w'.cell? ⟨w3.heap.size, 0, none⟩ = some (.bool b.g) ∧ w'.cell? ⟨w3.heap.size, 1, none⟩ = some (.slice Ab b.xs.length cb) ∧ w'.cell? ⟨w3.heap.size, 2, none⟩ = some (.slice Bb b.ds.length db) ∧ w'.cell? ⟨gb6, 0, none⟩ = some (.bool x.g) ∧ w'.cell? ⟨gb6, 1, none⟩ = some (.slice Ax x.xs.length cx) ∧ w'.cell? ⟨gb6, 2, none⟩ = some (.slice Bx x.ds.length dx) ∧ w'.cell? ⟨gb10, 0, none⟩ = some (.bool y.g) ∧ w'.cell? ⟨gb10, 1, none⟩ = some (.slice Ay y.xs.length cy) ∧ w'.cell? ⟨gb10, 2, none⟩ = some (.slice By y.ds.length dy) ∧ w'.cell? ⟨w17.heap.size, 0, none⟩ = some (.bool a.g) ∧ w'.cell? ⟨w17.heap.size, 1, none⟩ = some (.slice Az a.xs.length cz) ∧ w'.cell? ⟨w17.heap.size, 2, none⟩ = some (.slice Bz a.ds.length dz)) (first | with_reducible exact five_rats Xa_25 Xb_25 Xx_25 Xy_25 Xz_25 | with_reducible exact five_rats Xa_24 Xb_24 Xx_24 Xy_24 Xz_24 | with_reducible exact five_rats Xa_23 Xb_23 Xx_23 Xy_23 Xz_23 | with_reducible exact five_rats Xa_22 Xb_22 Xx_22 Xy_22 Xz_22 | with_reducible exact five_rats Xa_21 Xb_21 Xx_21 Xy_21 Xz_21 | with_reducible exact five_rats Xa_20 Xb_20 Xx_20 Xy_20 Xz_20 | with_reducible exact five_rats Xa_19 Xb_19 Xx_19 Xy_19 Xz_19) (first | (go_at_call 13; first | ((with_reducible refine (impl_ratCmp a.g Aa a.xs.length ca a.xs Ba a.ds.length da a.ds b.g Ab b.xs.length cb b.xs Bb b.ds.length db b.ds _ Ia_24.out.i Ia_24.out.ra Ia_24.out.j Ia_24.out.rb Ib_24.out.i Ib_24.out.ra Ib_24.out.j Ib_24.out.rb).mono ?_); rintro e u25 ⟨cv, rfl, hcv, hb⟩; obtain rfl := HF.out.sc _ _ HSV.out hcv; clear hcv; have BW_25 := Lib.hid (BW_24.out.trans (hb.mono BW_24.out.size)); have Xa_25 := Lib.hid (Xa_24.out.below hb Xa_24.out.lt); have Xb_25 := Lib.hid (Xb_24.out.below hb Xb_24.out.lt); have Xc_25 := Lib.hid (Xc_24.out.below hb Xc_24.out.lt); have Xx_25 := Lib.hid (Xx_24.out.below hb Xx_24.out.lt); have Xy_25 := Lib.hid (Xy_24.out.below hb Xy_24.out.lt); have Xz_25 := Lib.hid (Xz_24.out.below hb Xz_24.out.lt); have Ia_25 := Lib.hid (Ia_24.out.below hb); have Ib_25 := Lib.hid (Ib_24.out.below hb); have Ic_25 := Lib.hid (Ic_24.out.below hb); have Ix_25 := Lib.hid (Ix_24.out.below hb); have Iy_25 := Lib.hid (Iy_24.out.below hb); have Iz_25 := Lib.hid (Iz_24.out.below hb); have If_25 := Lib.hid (If_24.out.below hb); clear hb)) | (go_at_call 11; first | ((with_reducible refine (impl_ratSign df.g Af df.xs.length cf df.xs Bf df.ds.length df' df.ds _ If_23.out.i If_23.out.ra If_23.out.j If_23.out.rb).mono ?_); rintro e u24 ⟨sv, rfl, hsv, hb⟩; have HSV := Lib.hid hsv; clear hsv; have BW_24 := Lib.hid (BW_23.out.trans (hb.mono BW_23.out.size)); have Xa_24 := Lib.hid (Xa_23.out.below hb Xa_23.out.lt); have Xb_24 := Lib.hid (Xb_23.out.below hb Xb_23.out.lt); have Xc_24 := Lib.hid (Xc_23.out.below hb Xc_23.out.lt); have Xx_24 := Lib.hid (Xx_23.out.below hb Xx_23.out.lt); have Xy_24 := Lib.hid (Xy_23.out.below hb Xy_23.out.lt); have Xz_24 := Lib.hid (Xz_23.out.below hb Xz_23.out.lt); have Ia_24 := Lib.hid (Ia_23.out.below hb); have Ib_24 := Lib.hid (Ib_23.out.below hb); have Ic_24 := Lib.hid (Ic_23.out.below hb); have Ix_24 := Lib.hid (Ix_23.out.below hb); have Iy_24 := Lib.hid (Iy_23.out.below hb); have Iz_24 := Lib.hid (Iz_23.out.below hb); have If_24 := Lib.hid (If_23.out.below hb); clear hb)) | (go_at_call 12; first | ((with_reducible refine (impl_ratSub a.g Aa a.xs.length ca a.xs Ba a.ds.length da a.ds b.g Ab b.xs.length cb b.xs Bb b.ds.length db b.ds _ Ia_22.out.i Ia_22.out.ra Ia_22.out.j Ia_22.out.rb Ib_22.out.i Ib_22.out.ra Ib_22.out.j Ib_22.out.rb).mono ?_); rintro e u23 ⟨g, l, v, dd, u, rfl, his, q1, q2, hap, hb⟩; obtain ⟨rfl, rfl, rfl⟩ := ratSub_unique HF.out.rd his; obtain ⟨Af, cf, Bf, df', rfl, rfl, hi⟩ := rat_arg q1 q2 HF.out.kd; have BW_23 := Lib.hid (BW_22.out.trans (hb.mono BW_22.out.size)); have Xa_23 := Lib.hid (Xa_22.out.below hb Xa_22.out.lt); have Xb_23 := Lib.hid (Xb_22.out.below hb Xb_22.out.lt); have Xc_23 := Lib.hid (Xc_22.out.below hb Xc_22.out.lt); have Xx_23 := Lib.hid (Xx_22.out.below hb Xx_22.out.lt); have Xy_23 := Lib.hid (Xy_22.out.below hb Xy_22.out.lt); have Xz_23 := Lib.hid (Xz_22.out.below hb Xz_22.out.lt); have Ia_23 := Lib.hid (Ia_22.out.below hb); have Ib_23 := Lib.hid (Ib_22.out.below hb); have Ic_23 := Lib.hid (Ic_22.out.below hb); have Ix_23 := Lib.hid (Ix_22.out.below hb); have Iy_23 := Lib.hid (Iy_22.out.below hb); have Iz_23 := Lib.hid (Iz_22.out.below hb); have If_23 := Lib.hid hi; clear his q1 q2 hap hi; clear hb)) | (go_at_call 9; first | ((with_reducible refine (impl_ratEqual x.g Ax x.xs.length cx x.xs Bx x.ds.length dx x.ds y.g Ay y.xs.length cy y.xs By y.ds.length dy y.ds _ Ix_21.out.i Ix_21.out.ra Ix_21.out.j Ix_21.out.rb Iy_21.out.i Iy_21.out.ra Iy_21.out.j Iy_21.out.rb).mono ?_); rintro e u22 ⟨b0, rfl, hq, hb⟩; obtain rfl : b0 = true := hq.2 (by rw [HF.out.xy]; exact ⟨rfl, rfl, rfl⟩); clear hq; have BW_22 := Lib.hid (BW_21.out.trans (hb.mono BW_21.out.size)); have Xa_22 := Lib.hid (Xa_21.out.below hb Xa_21.out.lt); have Xb_22 := Lib.hid (Xb_21.out.below hb Xb_21.out.lt); have Xc_22 := Lib.hid (Xc_21.out.below hb Xc_21.out.lt); have Xx_22 := Lib.hid (Xx_21.out.below hb Xx_21.out.lt); have Xy_22 := Lib.hid (Xy_21.out.below hb Xy_21.out.lt); have Xz_22 := Lib.hid (Xz_21.out.below hb Xz_21.out.lt); have Ia_22 := Lib.hid (Ia_21.out.below hb); have Ib_22 := Lib.hid (Ib_21.out.below hb); have Ic_22 := Lib.hid (Ic_21.out.below hb); have Ix_22 := Lib.hid (Ix_21.out.below hb); have Iy_22 := Lib.hid (Iy_21.out.below hb); have Iz_22 := Lib.hid (Iz_21.out.below hb); clear hb) | ((with_reducible refine (impl_ratEqual a.g Az a.xs.length cz a.xs Bz a.ds.length dz a.ds a.g Aa a.xs.length ca a.xs Ba a.ds.length da a.ds _ Iz_19.out.i Iz_19.out.ra Iz_19.out.j Iz_19.out.rb Ia_19.out.i Ia_19.out.ra Ia_19.out.j Ia_19.out.rb).mono ?_); rintro e u20 ⟨b0, rfl, hq, hb⟩; obtain rfl : b0 = true := hq.2 ⟨rfl, rfl, rfl⟩; clear hq; have BW_20 := Lib.hid (BW_19.out.trans (hb.mono BW_19.out.size)); have Xa_20 := Lib.hid (Xa_19.out.below hb Xa_19.out.lt); have Xb_20 := Lib.hid (Xb_19.out.below hb Xb_19.out.lt); have Xc_20 := Lib.hid (Xc_19.out.below hb Xc_19.out.lt); have Xx_20 := Lib.hid (Xx_19.out.below hb Xx_19.out.lt); have Xy_20 := Lib.hid (Xy_19.out.below hb Xy_19.out.lt); have Xz_20 := Lib.hid (Xz_19.out.below hb Xz_19.out.lt); have Ia_20 := Lib.hid (Ia_19.out.below hb); have Ib_20 := Lib.hid (Ib_19.out.below hb); have Ic_20 := Lib.hid (Ic_19.out.below hb); have Ix_20 := Lib.hid (Ix_19.out.below hb); have Iy_20 := Lib.hid (Iy_19.out.below hb); have Iz_20 := Lib.hid (Iz_19.out.below hb); clear hb)) | (go_at_call 10; first | ((with_reducible refine (impl_ratOk x.g Ax x.xs.length cx x.xs Bx x.ds.length dx x.ds _ Ix_20.out.i Ix_20.out.ra Ix_20.out.j Ix_20.out.rb).mono ?_); rintro e u21 ⟨b0, rfl, hq, hb⟩; obtain rfl : b0 = true := hq.2 HF.out.kx; clear hq; have BW_21 := Lib.hid (BW_20.out.trans (hb.mono BW_20.out.size)); have Xa_21 := Lib.hid (Xa_20.out.below hb Xa_20.out.lt); have Xb_21 := Lib.hid (Xb_20.out.below hb Xb_20.out.lt); have Xc_21 := Lib.hid (Xc_20.out.below hb Xc_20.out.lt); have Xx_21 := Lib.hid (Xx_20.out.below hb Xx_20.out.lt); have Xy_21 := Lib.hid (Xy_20.out.below hb Xy_20.out.lt); have Xz_21 := Lib.hid (Xz_20.out.below hb Xz_20.out.lt); have Ia_21 := Lib.hid (Ia_20.out.below hb); have Ib_21 := Lib.hid (Ib_20.out.below hb); have Ic_21 := Lib.hid (Ic_20.out.below hb); have Ix_21 := Lib.hid (Ix_20.out.below hb); have Iy_21 := Lib.hid (Iy_20.out.below hb); have Iz_21 := Lib.hid (Iz_20.out.below hb); clear hb)))
  go_wp2_with fail
  obtain ⟨u0, hu0, hsg⟩ := HF.out.sg
  have HU := Lib.hid hu0
  clear hu0
  rcases hsg with ⟨hsd, hz⟩ | ⟨hsd, hz⟩
  · have hb : Below u25.heap.size u25 u25.drew := (Below.refl _ _).drew
    have BW_26 := Lib.hid (BW_25.out.trans (hb.mono BW_25.out.size))
    have Xa_26 := Lib.hid (Xa_25.out.below hb Xa_25.out.lt)
    have Xb_26 := Lib.hid (Xb_25.out.below hb Xb_25.out.lt)
    have Ia_26 := Lib.hid (Ia_25.out.below hb)
    have Ib_26 := Lib.hid (Ib_25.out.below hb)
    clear hb
    have eb0 := Xb_26.out.cell 0
    have eb1 := Xb_26.out.cell 1
    have eb2 := Xb_26.out.cell 2
    simp at eb0 eb1 eb2
    go_region_with (first | (go_at_call 11; ((with_reducible refine (impl_ratSign b.g Ab b.xs.length cb b.xs Bb b.ds.length db b.ds _ Ib_26.out.i Ib_26.out.ra Ib_26.out.j Ib_26.out.rb).mono ?_); rintro e u27 ⟨sv, rfl, hsv, hb⟩; obtain rfl := ratSign_unique HU.out hsv; clear hsv; have BW_27 := Lib.hid (BW_26.out.trans (hb.mono BW_26.out.size)); have Xa_27 := Lib.hid (Xa_26.out.below hb Xa_26.out.lt); have Xb_27 := Lib.hid (Xb_26.out.below hb Xb_26.out.lt); have Ia_27 := Lib.hid (Ia_26.out.below hb); have Ib_27 := Lib.hid (Ib_26.out.below hb); clear hb)))
    all_goals (go_wp2_with fail; go_ret; exact ⟨rfl, BW_27.out⟩)
  · obtain ⟨qd, kq, rdv, rmu⟩ := HF.out.dv hz
    have RDV := Lib.hid rdv
    have RMU := Lib.hid rmu
    clear rdv rmu
    have hb : Below u25.heap.size u25 u25.drew := (Below.refl _ _).drew
    have BW_26 := Lib.hid (BW_25.out.trans (hb.mono BW_25.out.size))
    have Xa_26 := Lib.hid (Xa_25.out.below hb Xa_25.out.lt)
    have Xb_26 := Lib.hid (Xb_25.out.below hb Xb_25.out.lt)
    have Ia_26 := Lib.hid (Ia_25.out.below hb)
    have Ib_26 := Lib.hid (Ib_25.out.below hb)
    clear hb
    go_region_held3 (fun w' => w'.cell? ⟨w1.heap.size, 0, none⟩ = some (.bool a.g) ∧ w'.cell? ⟨w1.heap.size, 1, none⟩ = some (.slice Aa a.xs.length ca) ∧ w'.cell? ⟨w1.heap.size, 2, none⟩ = some (.slice Ba a.ds.length da) ∧ w'.cell? ⟨w3.heap.size, 0, none⟩ = some (.bool b.g) ∧ w'.cell? ⟨w3.heap.size, 1, none⟩ = some (.slice Ab b.xs.length cb) ∧ w'.cell? ⟨w3.heap.size, 2, none⟩ = some (.slice Bb b.ds.length db)) (first | with_reducible exact two_mats Xa_30 Xb_30 | with_reducible exact two_mats Xa_29 Xb_29 | with_reducible exact two_mats Xa_28 Xb_28 | with_reducible exact two_mats Xa_27 Xb_27 | with_reducible exact two_mats Xa_26 Xb_26) (first | (go_at_call 9; first | ((with_reducible refine (impl_ratEqual a.g Am a.xs.length cm a.xs Bm a.ds.length dm a.ds a.g Aa a.xs.length ca a.xs Ba a.ds.length da a.ds _ Im_29.out.i Im_29.out.ra Im_29.out.j Im_29.out.rb Ia_29.out.i Ia_29.out.ra Ia_29.out.j Ia_29.out.rb).mono ?_); rintro e u30 ⟨b0, rfl, hq, hb⟩; obtain rfl : b0 = true := hq.2 ⟨rfl, rfl, rfl⟩; clear hq; have BW_30 := Lib.hid (BW_29.out.trans (hb.mono BW_29.out.size)); have Xa_30 := Lib.hid (Xa_29.out.below hb Xa_29.out.lt); have Xb_30 := Lib.hid (Xb_29.out.below hb Xb_29.out.lt); have Ia_30 := Lib.hid (Ia_29.out.below hb); have Ib_30 := Lib.hid (Ib_29.out.below hb); have Iq_30 := Lib.hid (Iq_29.out.below hb); have Im_30 := Lib.hid (Im_29.out.below hb); clear hb)) | (go_at_call 5; first | ((with_reducible refine (impl_ratMul qd.g Aq qd.xs.length cq qd.xs Bq qd.ds.length dq qd.ds b.g Ab b.xs.length cb b.xs Bb b.ds.length db b.ds _ Iq_28.out.i Iq_28.out.ra Iq_28.out.j Iq_28.out.rb Ib_28.out.i Ib_28.out.ra Ib_28.out.j Ib_28.out.rb).mono ?_); rintro e u29 ⟨g, l, v, dd, u, rfl, his, q1, q2, hap, hb⟩; obtain ⟨rfl, rfl, rfl⟩ := ratMul_unique RMU.out his; obtain ⟨Am, cm, Bm, dm, rfl, rfl, hi⟩ := rat_arg q1 q2 HF.out.ka; have BW_29 := Lib.hid (BW_28.out.trans (hb.mono BW_28.out.size)); have Xa_29 := Lib.hid (Xa_28.out.below hb Xa_28.out.lt); have Xb_29 := Lib.hid (Xb_28.out.below hb Xb_28.out.lt); have Ia_29 := Lib.hid (Ia_28.out.below hb); have Ib_29 := Lib.hid (Ib_28.out.below hb); have Iq_29 := Lib.hid (Iq_28.out.below hb); have Im_29 := Lib.hid hi; clear his q1 q2 hap hi; clear hb)) | (go_at_call 14; first | ((with_reducible refine (impl_ratDiv a.g Aa a.xs.length ca a.xs Ba a.ds.length da a.ds b.g Ab b.xs.length cb b.xs Bb b.ds.length db b.ds _ Ia_27.out.i Ia_27.out.ra Ia_27.out.j Ia_27.out.rb Ib_27.out.i Ib_27.out.ra Ib_27.out.j Ib_27.out.rb).mono ?_); rintro e u28 ⟨g, l, v, dd, u, rfl, his, q1, q2, hap, hb⟩; obtain ⟨rfl, rfl, rfl⟩ := ratDiv_unique RDV.out his; obtain ⟨Aq, cq, Bq, dq, rfl, rfl, hi⟩ := rat_arg q1 q2 kq; have BW_28 := Lib.hid (BW_27.out.trans (hb.mono BW_27.out.size)); have Xa_28 := Lib.hid (Xa_27.out.below hb Xa_27.out.lt); have Xb_28 := Lib.hid (Xb_27.out.below hb Xb_27.out.lt); have Ia_28 := Lib.hid (Ia_27.out.below hb); have Ib_28 := Lib.hid (Ib_27.out.below hb); have Iq_28 := Lib.hid hi; clear his q1 q2 hap hi; clear hb)) | (go_at_call 11; first | ((with_reducible refine (impl_ratSign b.g Ab b.xs.length cb b.xs Bb b.ds.length db b.ds _ Ib_26.out.i Ib_26.out.ra Ib_26.out.j Ib_26.out.rb).mono ?_); rintro e u27 ⟨sv, rfl, hsv, hb⟩; obtain rfl := ratSign_unique HU.out hsv; clear hsv; have BW_27 := Lib.hid (BW_26.out.trans (hb.mono BW_26.out.size)); have Xa_27 := Lib.hid (Xa_26.out.below hb Xa_26.out.lt); have Xb_27 := Lib.hid (Xb_26.out.below hb Xb_26.out.lt); have Ia_27 := Lib.hid (Ia_26.out.below hb); have Ib_27 := Lib.hid (Ib_26.out.below hb); clear hb)))
    go_wp2_with fail
    go_ret
    exact ⟨rfl, BW_30.out⟩
end Go.Proofs.YtkigfakfadoopaaGreatDoor.fnRats
