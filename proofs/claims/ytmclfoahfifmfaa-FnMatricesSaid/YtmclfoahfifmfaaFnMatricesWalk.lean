/- The walk of the law: for every slice of bytes the law FnMatrices returns true; no condition. -/
import Derived.Test.YtmclfoahfifmfaaGV
import Derived.Test.YtmclfoahfifmfaaFnMatD
import Derived.Test.YtmclfoahfifmfaaMatI
import Derived.Test.YtmclfoahfifmfaaMatI1
import Derived.Test.YtmclfoahfifmfaaMatI5
import Derived.Test.YtmclfoahfifmfaaMatI6
import Derived.Test.YtmclfoahfifmfaaMatI7
import Derived.Test.YtmclfoahfifmfaaMatE
import Derived.Test.YtmclfoahfifmfaaVecE2
import Derived.Test.YtmclfoahfifmfaaGF
import Derived.ProofKit
import Derived.OpenShut
import Derived.ShutString
import Derived.Lib.SmallJoins
namespace Go.Proofs.Ytmclfoahfifmfaa.fnMatrices
set_option maxRecDepth 100000
open Go.ChangeShapes Go.WideShapes Go.ChangeAt Go.RowKit Go.Joins Go.Deep
open Go.ChangeMaps (open_string shut_string)

/-- The sixth element of a list, where it lies. -/
def E5 (w : World) (b o : Nat) (x y z : Value) : Prop := b < w.heap.size ∧ w.cell? ⟨b, o + 15, none⟩ = some x ∧ w.cell? ⟨b, o + 16, none⟩ = some y ∧ w.cell? ⟨b, o + 17, none⟩ = some z
theorem E5.of_at {w : World} {b o : Nat} {x y z : Value} (h : At3 w b (o + 5 * 3) x y z) (hlt : b < w.heap.size) : E5 w b o x y z := ⟨hlt, h.1, h.2.1, h.2.2⟩
theorem E5.below {w w' : World} {b o : Nat} {x y z : Value} (h : E5 w b o x y z) (hb : Below w.heap.size w w') : E5 w' b o x y z :=
  ⟨Nat.lt_of_lt_of_le h.1 hb.size, (hb.cell (p := ⟨b, o + 15, none⟩) h.1).trans h.2.1, (hb.cell (p := ⟨b, o + 16, none⟩) h.1).trans h.2.2.1, (hb.cell (p := ⟨b, o + 17, none⟩) h.1).trans h.2.2.2⟩
theorem four_at {w : World} {b b' b'' b5 o5 : Nat} {t t' t'' : TypeId} {x y z x' y' z' x'' y'' z'' u1 u2 u3 : Value} (h : Hid (Box w b t #[x, y, z])) (k : Hid (Box w b' t' #[x', y', z'])) (l : Hid (Box w b'' t'' #[x'', y'', z''])) (m : Hid (E5 w b5 o5 u1 u2 u3)) :
    w.cell? ⟨b, 0, none⟩ = some x ∧ w.cell? ⟨b, 1, none⟩ = some y ∧ w.cell? ⟨b, 2, none⟩ = some z ∧ w.cell? ⟨b', 0, none⟩ = some x' ∧ w.cell? ⟨b', 1, none⟩ = some y' ∧ w.cell? ⟨b', 2, none⟩ = some z' ∧ w.cell? ⟨b'', 0, none⟩ = some x'' ∧ w.cell? ⟨b'', 1, none⟩ = some y'' ∧ w.cell? ⟨b'', 2, none⟩ = some z'' ∧ w.cell? ⟨b5, o5 + 15, none⟩ = some u1 ∧ w.cell? ⟨b5, o5 + 16, none⟩ = some u2 ∧ w.cell? ⟨b5, o5 + 17, none⟩ = some u3 :=
  ⟨h.out.cell 0, h.out.cell 1, h.out.cell 2, k.out.cell 0, k.out.cell 1, k.out.cell 2, l.out.cell 0, l.out.cell 1, l.out.cell 2, m.out.2.1, m.out.2.2.1, m.out.2.2.2⟩
theorem resI_in {w w' w2 : World} {A A2 : Option Addr} {c n2 : Nat} {rs : List Int} (h : ResI w w' (.slice A rs.length c) rs) (k : InI w2 A2 n2 rs) : InI w' A rs.length rs :=
  ⟨rfl, by have h1 := k.1; have h2 := k.2.1; omega, Reads.of_own h.2, k.2.2.2⟩

set_option maxRecDepth 100000 in
set_option maxHeartbeats 16000000 in
theorem walk {w : World} (A : Option Addr) (n c : Nat) (hx : IsBytes w A n) :
    Calls Try.prog 3 #[.slice A n c] w fun e w' => e = .returned (.bool true) ∧ Below w.heap.size w w' := by
  have Hby := Lib.hid hx.2
  clear hx
  by_cases hbig : 1048576 < (n : Int)
  · go_enter Try.func3, Try.ntmps3
    go_wp2_with fail
    go_ret
    exact ⟨rfl, Below.refl _ _⟩
  have BW_0 : Hid (Below w.heap.size w w) := Below.refl _ _
  go_enter Try.func3, Try.ntmps3
  go_wp2_with fail
  refine (spec_makeMatrix A n c 1 2 3 _ (by omega) (by omega) (by omega) (by omega) (Hby.out)).mono ?_
  rintro e w1 ⟨pa, ka, ra, V, rfl, ⟨hp, hk, hla, hsa⟩, hr, hb⟩
  obtain rfl : pa = 2 := hp
  obtain rfl : ka = 3 := hk
  obtain ⟨Aa, ca, rfl, hca, hi⟩ := resV_arg hr (n := 6) hla
  have BW_1 := Lib.hid (BW_0.out.trans (hb.mono BW_0.out.size))
  have HLa := Lib.hid hla
  have HSa := Lib.hid hsa
  have Ia_1 := Lib.hid hi
  clear hr hb hi hla hsa
  obtain ⟨W2, hW2⟩ : ∃ W, W = w1.alloc (.cells #[.int .i64 2, .int .i64 3, .slice Aa 6 ca] 25) := ⟨_, rfl⟩
  have hb : Below w1.heap.size w1 W2 := by rw [hW2]; exact (Below.refl _ _).alloc (Nat.le_refl _) _
  have BW_2 := Lib.hid (BW_1.out.trans (hb.mono BW_1.out.size))
  have Ia_2 := Lib.hid (Ia_1.out.below hb)
  have Xa_2 : Hid (Box W2 w1.heap.size 25 #[.int .i64 2, .int .i64 3, .slice Aa 6 ca]) := by rw [hW2]; exact Box.new _ _ _
  clear hb
  go_wp2_with fail
  rw [← hW2]
  clear hW2
  refine (spec_makeMatrix A n c 20 3 2 _ (by omega) (by omega) (by omega) (by omega) (Hby.out.keep2 BW_2.out)).mono ?_
  rintro e w3 ⟨pb, kb, rb, V, rfl, ⟨hp, hk, hlb, hsb⟩, hr, hb⟩
  obtain rfl : pb = 3 := hp
  obtain rfl : kb = 2 := hk
  obtain ⟨Ab, cb, rfl, hcb, hi⟩ := resV_arg hr (n := 6) hlb
  have BW_3 := Lib.hid (BW_2.out.trans (hb.mono BW_2.out.size))
  have Xa_3 := Lib.hid (Xa_2.out.below hb Xa_2.out.lt)
  have Ia_3 := Lib.hid (Ia_2.out.below hb)
  have HLb := Lib.hid hlb
  have HSb := Lib.hid hsb
  have Ib_3 := Lib.hid hi
  clear hr hb hi hlb hsb
  obtain ⟨W4, hW4⟩ : ∃ W, W = w3.alloc (.cells #[.int .i64 3, .int .i64 2, .slice Ab 6 cb] 25) := ⟨_, rfl⟩
  have hb : Below w3.heap.size w3 W4 := by rw [hW4]; exact (Below.refl _ _).alloc (Nat.le_refl _) _
  have BW_4 := Lib.hid (BW_3.out.trans (hb.mono BW_3.out.size))
  have Xa_4 := Lib.hid (Xa_3.out.below hb Xa_3.out.lt)
  have Ia_4 := Lib.hid (Ia_3.out.below hb)
  have Ib_4 := Lib.hid (Ib_3.out.below hb)
  have Xb_4 : Hid (Box W4 w3.heap.size 25 #[.int .i64 3, .int .i64 2, .slice Ab 6 cb]) := by rw [hW4]; exact Box.new _ _ _
  clear hb
  go_wp2_with fail
  rw [← hW4]
  clear hW4
  refine (spec_makeVector A n c 40 2 _ (by omega) (by omega) (by omega) (Hby.out.keep2 BW_4.out)).mono ?_
  rintro e w5 ⟨rv, V, rfl, ⟨hlv, hsv⟩, hr, hb⟩
  obtain ⟨Av, cv, rfl, hcv, hi⟩ := resV_arg hr hlv
  have BW_5 := Lib.hid (BW_4.out.trans (hb.mono BW_4.out.size))
  have Xa_5 := Lib.hid (Xa_4.out.below hb Xa_4.out.lt)
  have Xb_5 := Lib.hid (Xb_4.out.below hb Xb_4.out.lt)
  have Ia_5 := Lib.hid (Ia_4.out.below hb)
  have Ib_5 := Lib.hid (Ib_4.out.below hb)
  have Iv_5 := Lib.hid hi
  obtain ⟨tb, ta, ab, ba, x, y, z, hf⟩ := fm_ex (ra := ra) (rb := rb) (rv := rv) HLa.out HLb.out hlv HSa.out HSb.out hsv
  have HF := Lib.hid hf
  clear hr hb hi hlv hsv hf HLa HLb HSa HSb Hby
  have ea0 := Xa_5.out.cell 0
  have ea1 := Xa_5.out.cell 1
  have ea2 := Xa_5.out.cell 2
  have eb0 := Xb_5.out.cell 0
  have eb1 := Xb_5.out.cell 1
  have eb2 := Xb_5.out.cell 2
  simp at ea0 ea1 ea2 eb0 eb1 eb2
  go_wp2_with fail
  clear ea0 ea1 ea2 eb0 eb1 eb2
  refine (impl_multiply 2 3 Aa 6 ca ra 3 2 Ab 6 cb rb _ Ia_5.out (by omega) (by omega) hca Ib_5.out (by omega) (by omega) hcb).mono ?_
  rintro e w6 ⟨q, j, r, V, b, rfl, his, hr, hb⟩
  obtain ⟨rfl, rfl, rfl, rfl⟩ := multiply_unique HF.out.m1 his
  obtain ⟨Aab, cab, rfl, hcab, hi⟩ := resV_arg hr HF.out.lab
  have BW_6 := Lib.hid (BW_5.out.trans (hb.mono BW_5.out.size))
  have Xa_6 := Lib.hid (Xa_5.out.below hb Xa_5.out.lt)
  have Xb_6 := Lib.hid (Xb_5.out.below hb Xb_5.out.lt)
  have Ia_6 := Lib.hid (Ia_5.out.below hb)
  have Ib_6 := Lib.hid (Ib_5.out.below hb)
  have Iv_6 := Lib.hid (Iv_5.out.below hb)
  have Iab_6 := Lib.hid hi
  clear his hr hi hb
  obtain ⟨W7, hW7⟩ : ∃ W, W = w6.alloc (.cells #[.int .i64 2, .int .i64 2, .slice Aab 4 cab] 25) := ⟨_, rfl⟩
  have hb : Below w6.heap.size w6 W7 := by rw [hW7]; exact (Below.refl _ _).alloc (Nat.le_refl _) _
  have BW_7 := Lib.hid (BW_6.out.trans (hb.mono BW_6.out.size))
  have Xa_7 := Lib.hid (Xa_6.out.below hb Xa_6.out.lt)
  have Xb_7 := Lib.hid (Xb_6.out.below hb Xb_6.out.lt)
  have Ia_7 := Lib.hid (Ia_6.out.below hb)
  have Ib_7 := Lib.hid (Ib_6.out.below hb)
  have Iv_7 := Lib.hid (Iv_6.out.below hb)
  have Iab_7 := Lib.hid (Iab_6.out.below hb)
  have Xab_7 : Hid (Box W7 w6.heap.size 25 #[.int .i64 2, .int .i64 2, .slice Aab 4 cab]) := by rw [hW7]; exact Box.new _ _ _
  clear hb
  go_upto_region 7 with fail
  rw [← hW7]
  clear hW7
  go_cut [8, 9] (fun s8 s9 wx => ∃ (gb : Nat) (A' : Option Addr) (c' : Nat), s8 = .pointer (some ⟨gb, 0, none⟩) ∧ s9 = .bool true ∧ 4 ≤ c' ∧ Hid (Box wx gb 25 #[.int .i64 2, .int .i64 2, .slice A' 4 c']) ∧ Hid (InV wx A' 4 ba) ∧ Hid (Below W7.heap.size W7 wx))
  case first =>
    have BD_7 : Hid (Below W7.heap.size W7 W7) := Below.refl _ _
    have BD_8 := Lib.hid BD_7.out.drew
    have sz_8 : Hid (W7.heap.size ≤ W7.drew.heap.size) := Nat.le_refl _
    have Xa_8 := Lib.hid Xa_7.out.drew
    have Xb_8 := Lib.hid Xb_7.out.drew
    have ltA := Xa_7.out.lt
    have ltB := Xb_7.out.lt
    go_region_held3 (fun w' => w'.cell? ⟨w1.heap.size, 0, none⟩ = some (.int .i64 2) ∧ w'.cell? ⟨w1.heap.size, 1, none⟩ = some (.int .i64 3) ∧ w'.cell? ⟨w1.heap.size, 2, none⟩ = some (.slice Aa 6 ca) ∧ w'.cell? ⟨w3.heap.size, 0, none⟩ = some (.int .i64 3) ∧ w'.cell? ⟨w3.heap.size, 1, none⟩ = some (.int .i64 2) ∧ w'.cell? ⟨w3.heap.size, 2, none⟩ = some (.slice Ab 6 cb)) (first | with_reducible exact two_mats Xa_11 Xb_11 | with_reducible exact two_mats (hAlloc Xa_11 _) (hAlloc Xb_11 _) | with_reducible exact two_mats (hFar3 Xa_11 (by have := sz_8.out; have := sz_9.out; have := sz_10.out; have := sz_11.out; omega) _ _ _) (hFar3 Xb_11 (by have := sz_8.out; have := sz_9.out; have := sz_10.out; have := sz_11.out; omega) _ _ _) | with_reducible exact two_mats Xa_10 Xb_10 | with_reducible exact two_mats (hAlloc Xa_10 _) (hAlloc Xb_10 _) | with_reducible exact two_mats Xa_9 Xb_9 | with_reducible exact two_mats (hAlloc Xa_9 _) (hAlloc Xb_9 _) | with_reducible exact two_mats Xa_8 Xb_8 | with_reducible exact two_mats (hAlloc Xa_8 _) (hAlloc Xb_8 _) | with_reducible exact two_mats (hDrew (hAlloc Xa_7 _)) (hDrew (hAlloc Xb_7 _))) (first | (go_at_call 14; first | ((with_reducible refine (impl_multiply 2 3 Atb 6 ctb tb 3 2 Ata 6 cta ta _ Itb_10.out (by omega) (by omega) hctb Ita_10.out (by omega) (by omega) hcta).mono ?_); rintro e w11 ⟨q, j, r, V, b, rfl, his, ⟨hl1, hf1, L, ho, hh⟩, hb⟩; obtain ⟨rfl, rfl, rfl, rfl⟩ := multiply_unique HF.out.m2 his; rw [HF.out.lba] at ho hl1; obtain ⟨Aba, cba, rfl⟩ := ho.slice; have BD_11 := Lib.hid (BD_10.out.trans (hb.mono BD_10.out.size)); have sz_11 : Hid (w10.heap.size ≤ w11.heap.size) := (by have h := hb.size; first | exact h | (simp at h; unfold Hid; omega) | (simp only [drew_size'] at h; simp at h; unfold Hid; omega)); have Xa_11 := Lib.hid (Xa_10.out.below hb Xa_10.out.lt); have Xb_11 := Lib.hid (Xb_10.out.below hb Xb_10.out.lt); (try (have NN_11 := Lib.hid (NN_10.out.below hb NN_10.out.lt))); have Oba := Lib.hid ho; have Hba := Lib.hid hh; have Fba := Lib.hid hf1; clear his hl1 hf1 ho hh hb; (try (have eN0 := NN_11.out.cell 0; have eN1 := NN_11.out.cell 1; have eN2 := NN_11.out.cell 2; simp at eN0 eN1 eN2; have fN0 := NN_11.out.free 0; have fN1 := NN_11.out.free 1; have fN2 := NN_11.out.free 2))) | (replace Xa_10 := Lib.hid (Xa_10.out.alloc (.cells #[.int .i64 0, .int .i64 0, .slice none 0 0] 25)); replace Xb_10 := Lib.hid (Xb_10.out.alloc (.cells #[.int .i64 0, .int .i64 0, .slice none 0 0] 25)); replace Itb_10 := Lib.hid (Itb_10.out.below ((Below.refl _ _).alloc (Nat.le_refl _) (.cells #[.int .i64 0, .int .i64 0, .slice none 0 0] 25))); replace Ita_10 := Lib.hid (Ita_10.out.below ((Below.refl _ _).alloc (Nat.le_refl _) (.cells #[.int .i64 0, .int .i64 0, .slice none 0 0] 25))); replace BD_10 := Lib.hid (BD_10.out.alloc BD_10.out.size (.cells #[.int .i64 0, .int .i64 0, .slice none 0 0] 25)); have NN_10 := Lib.hid (Box.new w10 25 #[.int .i64 0, .int .i64 0, .slice none 0 0]); (with_reducible refine (impl_multiply 2 3 Atb 6 ctb tb 3 2 Ata 6 cta ta _ Itb_10.out (by omega) (by omega) hctb Ita_10.out (by omega) (by omega) hcta).mono ?_); rintro e w11 ⟨q, j, r, V, b, rfl, his, ⟨hl1, hf1, L, ho, hh⟩, hb⟩; obtain ⟨rfl, rfl, rfl, rfl⟩ := multiply_unique HF.out.m2 his; rw [HF.out.lba] at ho hl1; obtain ⟨Aba, cba, rfl⟩ := ho.slice; have BD_11 := Lib.hid (BD_10.out.trans (hb.mono BD_10.out.size)); have sz_11 : Hid (w10.heap.size ≤ w11.heap.size) := (by have h := hb.size; first | exact h | (simp at h; unfold Hid; omega) | (simp only [drew_size'] at h; simp at h; unfold Hid; omega)); have Xa_11 := Lib.hid (Xa_10.out.below hb Xa_10.out.lt); have Xb_11 := Lib.hid (Xb_10.out.below hb Xb_10.out.lt); (try (have NN_11 := Lib.hid (NN_10.out.below hb NN_10.out.lt))); have Oba := Lib.hid ho; have Hba := Lib.hid hh; have Fba := Lib.hid hf1; clear his hl1 hf1 ho hh hb; (try (have eN0 := NN_11.out.cell 0; have eN1 := NN_11.out.cell 1; have eN2 := NN_11.out.cell 2; simp at eN0 eN1 eN2; have fN0 := NN_11.out.free 0; have fN1 := NN_11.out.free 1; have fN2 := NN_11.out.free 2)))) | (go_at_call 15; first | ((with_reducible refine (impl_transpose 2 3 Aa 6 ca ra _ (Ia_7.out.below BD_9.out) (by omega) (by omega) hca).mono ?_); rintro e w10 ⟨q, j, r, V, rfl, his, hr, hb⟩; obtain ⟨rfl, rfl, rfl⟩ := transpose_unique HF.out.tA his; obtain ⟨Ata, cta, rfl, hcta, hi⟩ := resV_arg hr HF.out.lta; have BD_10 := Lib.hid (BD_9.out.trans (hb.mono BD_9.out.size)); have sz_10 : Hid (w9.heap.size ≤ w10.heap.size) := (by have h := hb.size; first | exact h | (simp at h; unfold Hid; omega) | (simp only [drew_size'] at h; simp at h; unfold Hid; omega)); have Xa_10 := Lib.hid (Xa_9.out.below hb Xa_9.out.lt); have Xb_10 := Lib.hid (Xb_9.out.below hb Xb_9.out.lt); have Itb_10 := Lib.hid (Itb_9.out.below hb); (try (have NN_10 := Lib.hid (NN_9.out.below hb NN_9.out.lt))); have Ita_10 := Lib.hid hi; clear his hr hi hb) | (replace Xa_9 := Lib.hid (Xa_9.out.alloc (.cells #[.int .i64 0, .int .i64 0, .slice none 0 0] 25)); replace Xb_9 := Lib.hid (Xb_9.out.alloc (.cells #[.int .i64 0, .int .i64 0, .slice none 0 0] 25)); replace Itb_9 := Lib.hid (Itb_9.out.below ((Below.refl _ _).alloc (Nat.le_refl _) (.cells #[.int .i64 0, .int .i64 0, .slice none 0 0] 25))); replace BD_9 := Lib.hid (BD_9.out.alloc BD_9.out.size (.cells #[.int .i64 0, .int .i64 0, .slice none 0 0] 25)); have NN_9 := Lib.hid (Box.new w9 25 #[.int .i64 0, .int .i64 0, .slice none 0 0]); (with_reducible refine (impl_transpose 2 3 Aa 6 ca ra _ (Ia_7.out.below BD_9.out) (by omega) (by omega) hca).mono ?_); rintro e w10 ⟨q, j, r, V, rfl, his, hr, hb⟩; obtain ⟨rfl, rfl, rfl⟩ := transpose_unique HF.out.tA his; obtain ⟨Ata, cta, rfl, hcta, hi⟩ := resV_arg hr HF.out.lta; have BD_10 := Lib.hid (BD_9.out.trans (hb.mono BD_9.out.size)); have sz_10 : Hid (w9.heap.size ≤ w10.heap.size) := (by have h := hb.size; first | exact h | (simp at h; unfold Hid; omega) | (simp only [drew_size'] at h; simp at h; unfold Hid; omega)); have Xa_10 := Lib.hid (Xa_9.out.below hb Xa_9.out.lt); have Xb_10 := Lib.hid (Xb_9.out.below hb Xb_9.out.lt); have Itb_10 := Lib.hid (Itb_9.out.below hb); (try (have NN_10 := Lib.hid (NN_9.out.below hb NN_9.out.lt))); have Ita_10 := Lib.hid hi; clear his hr hi hb) | ((with_reducible refine (impl_transpose 3 2 Ab 6 cb rb _ (Ib_7.out.below BD_8.out) (by omega) (by omega) hcb).mono ?_); rintro e w9 ⟨q, j, r, V, rfl, his, hr, hb⟩; obtain ⟨rfl, rfl, rfl⟩ := transpose_unique HF.out.tB his; obtain ⟨Atb, ctb, rfl, hctb, hi⟩ := resV_arg hr HF.out.ltb; have BD_9 := Lib.hid (BD_8.out.trans (hb.mono BD_8.out.size)); have sz_9 : Hid (W7.heap.size ≤ w9.heap.size) := (by have h := hb.size; first | exact h | (simp at h; unfold Hid; omega) | (simp only [drew_size'] at h; simp at h; unfold Hid; omega)); have Xa_9 := Lib.hid (Xa_8.out.below hb Xa_8.out.lt); have Xb_9 := Lib.hid (Xb_8.out.below hb Xb_8.out.lt); (try (have NN_9 := Lib.hid (NN_8.out.below hb NN_8.out.lt))); have Itb_9 := Lib.hid hi; clear his hr hi hb) | (replace Xa_8 := Lib.hid (Xa_7.out.alloc (.cells #[.int .i64 0, .int .i64 0, .slice none 0 0] 25)).drew; replace Xb_8 := Lib.hid (Xb_7.out.alloc (.cells #[.int .i64 0, .int .i64 0, .slice none 0 0] 25)).drew; replace BD_8 := Lib.hid (BD_7.out.alloc BD_7.out.size (.cells #[.int .i64 0, .int .i64 0, .slice none 0 0] 25)).drew; have NN_8 := Lib.hid (Box.new W7 25 #[.int .i64 0, .int .i64 0, .slice none 0 0]).drew; (with_reducible refine (impl_transpose 3 2 Ab 6 cb rb _ (Ib_7.out.below BD_8.out) (by omega) (by omega) hcb).mono ?_); rintro e w9 ⟨q, j, r, V, rfl, his, hr, hb⟩; obtain ⟨rfl, rfl, rfl⟩ := transpose_unique HF.out.tB his; obtain ⟨Atb, ctb, rfl, hctb, hi⟩ := resV_arg hr HF.out.ltb; have BD_9 := Lib.hid (BD_8.out.trans (hb.mono BD_8.out.size)); have sz_9 : Hid (W7.heap.size ≤ w9.heap.size) := (by have h := hb.size; first | exact h | (simp at h; unfold Hid; omega) | (simp only [drew_size'] at h; simp at h; unfold Hid; omega)); have Xa_9 := Lib.hid (Xa_8.out.below hb Xa_8.out.lt); have Xb_9 := Lib.hid (Xb_8.out.below hb Xb_8.out.lt); (try (have NN_9 := Lib.hid (NN_8.out.below hb NN_8.out.lt))); have Itb_9 := Lib.hid hi; clear his hr hi hb)))
    all_goals (have zz8 := sz_8.out; have zz9 := sz_9.out; have zz10 := sz_10.out; have zz11 := sz_11.out; have hcba := own_le Oba.out.2.1; go_wp2_with fail; go_meet; first | exact ⟨_, _, _, rfl, rfl, hcba, Box.new _ _ _, (Oba.out.alloc _).in_ Hba.out (by omega) Fba.out, BD_11.out.alloc BD_11.out.size _⟩ | exact ⟨_, _, _, rfl, rfl, hcba, (((NN_11.out.set_ 0 _).set_ 1 _).set_ 2 _), (Oba.out.box_set3 NN_11.out _ _ _).in_ Hba.out (by omega) Fba.out, (((BD_11.out.setCell (by dsimp only; omega) _).setCell (by dsimp only; omega) _).setCell (by dsimp only; omega) _)⟩)
  obtain ⟨gb, Aba, cba, rfl, rfl, hcba, Xba_8, Iba_8, hbh⟩ := hcut
  have hb := hbh.out
  clear hbh
  obtain ⟨w8, rfl⟩ : ∃ q, q = wc := ⟨_, rfl⟩
  have BW_8 := Lib.hid (BW_7.out.trans (hb.mono BW_7.out.size))
  have Xa_8 := Lib.hid (Xa_7.out.below hb Xa_7.out.lt)
  have Xb_8 := Lib.hid (Xb_7.out.below hb Xb_7.out.lt)
  have Xab_8 := Lib.hid (Xab_7.out.below hb Xab_7.out.lt)
  have Ia_8 := Lib.hid (Ia_7.out.below hb)
  have Ib_8 := Lib.hid (Ib_7.out.below hb)
  have Iv_8 := Lib.hid (Iv_7.out.below hb)
  have Iab_8 := Lib.hid (Iab_7.out.below hb)
  clear hb
  have eab0 := Xab_8.out.cell 0
  have eab1 := Xab_8.out.cell 1
  have eab2 := Xab_8.out.cell 2
  simp at eab0 eab1 eab2
  go_wp2_with fail
  clear eab0 eab1 eab2
  refine (impl_applyMatrix 2 2 Aab 4 cab ab Av 2 cv rv _ Iab_8.out (by omega) (by omega) hcab Iv_8.out).mono ?_
  rintro e w9 ⟨r, V, b, rfl, his, hr, hb⟩
  obtain ⟨rfl, rfl⟩ := applyMatrix_unique HF.out.ax his
  obtain ⟨Ax, cx, rfl, hcx, hi⟩ := resV_arg hr HF.out.lx
  have BW_9 := Lib.hid (BW_8.out.trans (hb.mono BW_8.out.size))
  have Xa_9 := Lib.hid (Xa_8.out.below hb Xa_8.out.lt)
  have Xb_9 := Lib.hid (Xb_8.out.below hb Xb_8.out.lt)
  have Xab_9 := Lib.hid (Xab_8.out.below hb Xab_8.out.lt)
  have Xba_9 := Lib.hid (Xba_8.out.below hb Xba_8.out.lt)
  have Ia_9 := Lib.hid (Ia_8.out.below hb)
  have Ib_9 := Lib.hid (Ib_8.out.below hb)
  have Iv_9 := Lib.hid (Iv_8.out.below hb)
  have Iab_9 := Lib.hid (Iab_8.out.below hb)
  have Iba_9 := Lib.hid (Iba_8.out.below hb)
  have Ix_9 := Lib.hid hi
  clear his hr hi hb
  have eb0 := Xb_9.out.cell 0
  have eb1 := Xb_9.out.cell 1
  have eb2 := Xb_9.out.cell 2
  simp at eb0 eb1 eb2
  go_wp2_with fail
  clear eb0 eb1 eb2
  refine (impl_applyMatrix 3 2 Ab 6 cb rb Av 2 cv rv _ Ib_9.out (by omega) (by omega) hcb Iv_9.out).mono ?_
  rintro e w10 ⟨r, V, b, rfl, his, hr, hb⟩
  obtain ⟨rfl, rfl⟩ := applyMatrix_unique HF.out.ay his
  obtain ⟨Ay, cy, rfl, hcy, hi⟩ := resV_arg hr HF.out.ly
  have BW_10 := Lib.hid (BW_9.out.trans (hb.mono BW_9.out.size))
  have Xa_10 := Lib.hid (Xa_9.out.below hb Xa_9.out.lt)
  have Xb_10 := Lib.hid (Xb_9.out.below hb Xb_9.out.lt)
  have Xab_10 := Lib.hid (Xab_9.out.below hb Xab_9.out.lt)
  have Xba_10 := Lib.hid (Xba_9.out.below hb Xba_9.out.lt)
  have Ia_10 := Lib.hid (Ia_9.out.below hb)
  have Ib_10 := Lib.hid (Ib_9.out.below hb)
  have Iv_10 := Lib.hid (Iv_9.out.below hb)
  have Iab_10 := Lib.hid (Iab_9.out.below hb)
  have Iba_10 := Lib.hid (Iba_9.out.below hb)
  have Ix_10 := Lib.hid (Ix_9.out.below hb)
  have Iy_10 := Lib.hid hi
  clear his hr hi hb
  have ea0 := Xa_10.out.cell 0
  have ea1 := Xa_10.out.cell 1
  have ea2 := Xa_10.out.cell 2
  simp at ea0 ea1 ea2
  go_wp2_with fail
  clear ea0 ea1 ea2
  refine (impl_applyMatrix 2 3 Aa 6 ca ra Ay 3 cy y _ Ia_10.out (by omega) (by omega) hca Iy_10.out).mono ?_
  rintro e w11 ⟨r, V, b, rfl, his, hr, hb⟩
  obtain ⟨rfl, rfl⟩ := applyMatrix_unique HF.out.az his
  obtain ⟨Az, cz, rfl, hcz, hi⟩ := resV_arg hr HF.out.lz
  have BW_11 := Lib.hid (BW_10.out.trans (hb.mono BW_10.out.size))
  have Xa_11 := Lib.hid (Xa_10.out.below hb Xa_10.out.lt)
  have Xb_11 := Lib.hid (Xb_10.out.below hb Xb_10.out.lt)
  have Xab_11 := Lib.hid (Xab_10.out.below hb Xab_10.out.lt)
  have Xba_11 := Lib.hid (Xba_10.out.below hb Xba_10.out.lt)
  have Ia_11 := Lib.hid (Ia_10.out.below hb)
  have Ib_11 := Lib.hid (Ib_10.out.below hb)
  have Iv_11 := Lib.hid (Iv_10.out.below hb)
  have Iab_11 := Lib.hid (Iab_10.out.below hb)
  have Iba_11 := Lib.hid (Iba_10.out.below hb)
  have Ix_11 := Lib.hid (Ix_10.out.below hb)
  have Iy_11 := Lib.hid (Iy_10.out.below hb)
  have Iz_11 := Lib.hid hi
  clear his hr hi hb
  go_wp2_with fail
  have hb : Below w11.heap.size w11 w11.drew := (Below.refl _ _).drew
  have BW_12 := Lib.hid (BW_11.out.trans (hb.mono BW_11.out.size))
  have Xa_12 := Lib.hid (Xa_11.out.below hb Xa_11.out.lt)
  have Xab_12 := Lib.hid (Xab_11.out.below hb Xab_11.out.lt)
  have Xba_12 := Lib.hid (Xba_11.out.below hb Xba_11.out.lt)
  have Ia_12 := Lib.hid (Ia_11.out.below hb)
  have Iab_12 := Lib.hid (Iab_11.out.below hb)
  have Iba_12 := Lib.hid (Iba_11.out.below hb)
  have Ix_12 := Lib.hid (Ix_11.out.below hb)
  have Iz_12 := Lib.hid (Iz_11.out.below hb)
  clear hb
  obtain ⟨b5, o5, hA5, hlt5, r5, hr5, A3, n3, c3, B3, m3, d3, at5, i5, ra5, j5, rb5⟩ := Ia_12.out.at_ 5 (by omega)
  subst hA5
  have E_12 : Hid (E5 w11.drew b5 o5 (.bool r5.g) (.slice A3 n3 c3) (.slice B3 m3 d3)) := E5.of_at at5 hlt5
  have Ip_12 := Lib.hid i5
  have Iq_12 := Lib.hid j5
  have RA5 := Lib.hid ra5
  have RB5 := Lib.hid rb5
  have HR5 := Lib.hid hr5
  have Is_12 : Hid (InV w11.drew (some ⟨b5, o5 + 9, none⟩) 3 (mrow 3 ra 1)) := Ia_12.out.row (K := 3) (i := 1) (.inr ⟨b5, o5, rfl, rfl⟩) (by omega) (by omega)
  have hc3 : (3 : Int) ≤ (ca : Int) := by omega
  clear at5 i5 ra5 j5 rb5 hr5 hlt5
  go_region_held3 (fun w' => w'.cell? ⟨w1.heap.size, 0, none⟩ = some (.int .i64 2) ∧ w'.cell? ⟨w1.heap.size, 1, none⟩ = some (.int .i64 3) ∧ w'.cell? ⟨w1.heap.size, 2, none⟩ = some (.slice (some ⟨b5, o5, none⟩) 6 ca) ∧ w'.cell? ⟨w6.heap.size, 0, none⟩ = some (.int .i64 2) ∧ w'.cell? ⟨w6.heap.size, 1, none⟩ = some (.int .i64 2) ∧ w'.cell? ⟨w6.heap.size, 2, none⟩ = some (.slice Aab 4 cab) ∧ w'.cell? ⟨gb, 0, none⟩ = some (.int .i64 2) ∧ w'.cell? ⟨gb, 1, none⟩ = some (.int .i64 2) ∧ w'.cell? ⟨gb, 2, none⟩ = some (.slice Aba 4 cba) ∧ w'.cell? ⟨b5, o5 + 15, none⟩ = some (.bool r5.g) ∧ w'.cell? ⟨b5, o5 + 16, none⟩ = some (.slice A3 n3 c3) ∧ w'.cell? ⟨b5, o5 + 17, none⟩ = some (.slice B3 m3 d3)) (first | with_reducible exact four_at Xa_20 Xab_20 Xba_20 E_20 | with_reducible exact four_at Xa_19 Xab_19 Xba_19 E_19 | with_reducible exact four_at Xa_18 Xab_18 Xba_18 E_18 | with_reducible exact four_at Xa_17 Xab_17 Xba_17 E_17 | with_reducible exact four_at Xa_16 Xab_16 Xba_16 E_16 | with_reducible exact four_at Xa_15 Xab_15 Xba_15 E_15 | with_reducible exact four_at Xa_14 Xab_14 Xba_14 E_14 | with_reducible exact four_at Xa_13 Xab_13 Xba_13 E_13 | with_reducible exact four_at Xa_12 Xab_12 Xba_12 E_12) (first | (go_at_call 21; ((with_reducible refine (impl_ratEqual r5.g A6 r5.xs.length c6 r5.xs B6 r5.ds.length d6 r5.ds r5.g A3 n3 c3 r5.xs B3 m3 d3 r5.ds _ I6.out RA6.out J6.out RB6.out Ip_19.out RA5.out Iq_19.out RB5.out).mono ?_); rintro e w20 ⟨b, rfl, hq, hb⟩; obtain rfl : b = true := hq.2 ⟨rfl, rfl, rfl⟩; clear hq; have BW_20 := Lib.hid (BW_19.out.trans (hb.mono BW_19.out.size)); have Xa_20 := Lib.hid (Xa_19.out.below hb Xa_19.out.lt); have Xab_20 := Lib.hid (Xab_19.out.below hb Xab_19.out.lt); have Xba_20 := Lib.hid (Xba_19.out.below hb Xba_19.out.lt); have Ia_20 := Lib.hid (Ia_19.out.below hb); have Iab_20 := Lib.hid (Iab_19.out.below hb); have Iba_20 := Lib.hid (Iba_19.out.below hb); have Ix_20 := Lib.hid (Ix_19.out.below hb); have Iz_20 := Lib.hid (Iz_19.out.below hb); have Ip_20 := Lib.hid (Ip_19.out.below hb); have Iq_20 := Lib.hid (Iq_19.out.below hb); have Is_20 := Lib.hid (Is_19.out.below hb); have E_20 := Lib.hid (E_19.out.below hb); clear hb)) | (go_at_call 22; ((with_reducible refine (impl_cellAt 2 3 (some ⟨b5, o5, none⟩) 6 ca ra 1 2 _ Ia_18.out (by omega) (by omega) hca (by omega) (by omega)).mono ?_); rintro e w19 ⟨g, l, v, dd, u, rfl, hq, q1, q2, hap, hb⟩; obtain ⟨rfl, rfl, rfl⟩ := cellAt_unique (HF.out.cell r5 HR5.out) hq; obtain ⟨A6, c6, rfl⟩ := own_slice q1.2; obtain ⟨B6, d6, rfl⟩ := own_slice q2.2; have BW_19 := Lib.hid (BW_18.out.trans (hb.mono BW_18.out.size)); have Xa_19 := Lib.hid (Xa_18.out.below hb Xa_18.out.lt); have Xab_19 := Lib.hid (Xab_18.out.below hb Xab_18.out.lt); have Xba_19 := Lib.hid (Xba_18.out.below hb Xba_18.out.lt); have Ia_19 := Lib.hid (Ia_18.out.below hb); have Iab_19 := Lib.hid (Iab_18.out.below hb); have Iba_19 := Lib.hid (Iba_18.out.below hb); have Ix_19 := Lib.hid (Ix_18.out.below hb); have Iz_19 := Lib.hid (Iz_18.out.below hb); have Ip_19 := Lib.hid (Ip_18.out.below hb); have Iq_19 := Lib.hid (Iq_18.out.below hb); have Is_19 := Lib.hid (Is_18.out.below hb); have E_19 := Lib.hid (E_18.out.below hb); have I6 := Lib.hid (resI_in q1 Ip_18.out); have J6 := Lib.hid (resI_in q2 Iq_18.out); have RA6 := Lib.hid (room_own q1.2); have RB6 := Lib.hid (room_own q2.2); clear hq q1 q2 hap; clear hb)) | (go_at_call 17; first | ((with_reducible refine (impl_equalVectors Ar 3 cr (mrow 3 ra 1) (some ⟨b5, o5 + 9, none⟩) 3 (ca - 3) (mrow 3 ra 1) _ Ir_17.out Is_17.out).mono ?_); rintro e w18 ⟨b, rfl, hq, hb⟩; obtain rfl : b = true := hq.2 rfl; clear hq; have BW_18 := Lib.hid (BW_17.out.trans (hb.mono BW_17.out.size)); have Xa_18 := Lib.hid (Xa_17.out.below hb Xa_17.out.lt); have Xab_18 := Lib.hid (Xab_17.out.below hb Xab_17.out.lt); have Xba_18 := Lib.hid (Xba_17.out.below hb Xba_17.out.lt); have Ia_18 := Lib.hid (Ia_17.out.below hb); have Iab_18 := Lib.hid (Iab_17.out.below hb); have Iba_18 := Lib.hid (Iba_17.out.below hb); have Ix_18 := Lib.hid (Ix_17.out.below hb); have Iz_18 := Lib.hid (Iz_17.out.below hb); have Ip_18 := Lib.hid (Ip_17.out.below hb); have Iq_18 := Lib.hid (Iq_17.out.below hb); have Is_18 := Lib.hid (Is_17.out.below hb); have Ir_18 := Lib.hid (Ir_17.out.below hb); have E_18 := Lib.hid (E_17.out.below hb); clear hb) | ((with_reducible refine (impl_equalVectors Ax 2 cx x Az 2 cz z _ Ix_12.out Iz_12.out).mono ?_); rintro e w13 ⟨b, rfl, hq, hb⟩; obtain rfl : b = true := hq.2 HF.out.xz; clear hq; have BW_13 := Lib.hid (BW_12.out.trans (hb.mono BW_12.out.size)); have Xa_13 := Lib.hid (Xa_12.out.below hb Xa_12.out.lt); have Xab_13 := Lib.hid (Xab_12.out.below hb Xab_12.out.lt); have Xba_13 := Lib.hid (Xba_12.out.below hb Xba_12.out.lt); have Ia_13 := Lib.hid (Ia_12.out.below hb); have Iab_13 := Lib.hid (Iab_12.out.below hb); have Iba_13 := Lib.hid (Iba_12.out.below hb); have Ix_13 := Lib.hid (Ix_12.out.below hb); have Iz_13 := Lib.hid (Iz_12.out.below hb); have Ip_13 := Lib.hid (Ip_12.out.below hb); have Iq_13 := Lib.hid (Iq_12.out.below hb); have Is_13 := Lib.hid (Is_12.out.below hb); have E_13 := Lib.hid (E_12.out.below hb); clear hb)) | (go_at_call 20; ((with_reducible refine (impl_rowOf 2 3 (some ⟨b5, o5, none⟩) 6 ca ra 1 _ Ia_16.out (by omega) (by omega) hca (by omega)).mono ?_); rintro e w17 ⟨r, V, rfl, his, hr, hb⟩; obtain rfl := rowOf_unique HF.out.row his; obtain ⟨Ar, cr, rfl, hcr, hi⟩ := resV_arg (n := 3) hr (mrow_length (P := 2) HF.out.la (by omega)); have BW_17 := Lib.hid (BW_16.out.trans (hb.mono BW_16.out.size)); have Xa_17 := Lib.hid (Xa_16.out.below hb Xa_16.out.lt); have Xab_17 := Lib.hid (Xab_16.out.below hb Xab_16.out.lt); have Xba_17 := Lib.hid (Xba_16.out.below hb Xba_16.out.lt); have Ia_17 := Lib.hid (Ia_16.out.below hb); have Iab_17 := Lib.hid (Iab_16.out.below hb); have Iba_17 := Lib.hid (Iba_16.out.below hb); have Ix_17 := Lib.hid (Ix_16.out.below hb); have Iz_17 := Lib.hid (Iz_16.out.below hb); have Ip_17 := Lib.hid (Ip_16.out.below hb); have Iq_17 := Lib.hid (Iq_16.out.below hb); have Is_17 := Lib.hid (Is_16.out.below hb); have E_17 := Lib.hid (E_16.out.below hb); have Ir_17 := Lib.hid hi; clear his hr hi; clear hb)) | (go_at_call 19; ((with_reducible refine (impl_matrixOk 2 2 Aab 4 cab ab _ Iab_15.out (by omega) (by omega) hcab).mono ?_); rintro e w16 ⟨b, rfl, hq, hb⟩; obtain rfl : b = true := hq.2 HF.out.mab; clear hq; have BW_16 := Lib.hid (BW_15.out.trans (hb.mono BW_15.out.size)); have Xa_16 := Lib.hid (Xa_15.out.below hb Xa_15.out.lt); have Xab_16 := Lib.hid (Xab_15.out.below hb Xab_15.out.lt); have Xba_16 := Lib.hid (Xba_15.out.below hb Xba_15.out.lt); have Ia_16 := Lib.hid (Ia_15.out.below hb); have Iab_16 := Lib.hid (Iab_15.out.below hb); have Iba_16 := Lib.hid (Iba_15.out.below hb); have Ix_16 := Lib.hid (Ix_15.out.below hb); have Iz_16 := Lib.hid (Iz_15.out.below hb); have Ip_16 := Lib.hid (Ip_15.out.below hb); have Iq_16 := Lib.hid (Iq_15.out.below hb); have Is_16 := Lib.hid (Is_15.out.below hb); have E_16 := Lib.hid (E_15.out.below hb); clear hb)) | (go_at_call 18; ((with_reducible refine (impl_equalMatrices 2 2 At 4 ct ba 2 2 Aba 4 cba ba _ It_14.out (by omega) (by omega) hct Iba_14.out (by omega) (by omega) hcba).mono ?_); rintro e w15 ⟨b, rfl, hq, hb⟩; obtain rfl : b = true := hq.2 ⟨rfl, rfl, rfl⟩; clear hq; have BW_15 := Lib.hid (BW_14.out.trans (hb.mono BW_14.out.size)); have Xa_15 := Lib.hid (Xa_14.out.below hb Xa_14.out.lt); have Xab_15 := Lib.hid (Xab_14.out.below hb Xab_14.out.lt); have Xba_15 := Lib.hid (Xba_14.out.below hb Xba_14.out.lt); have Ia_15 := Lib.hid (Ia_14.out.below hb); have Iab_15 := Lib.hid (Iab_14.out.below hb); have Iba_15 := Lib.hid (Iba_14.out.below hb); have Ix_15 := Lib.hid (Ix_14.out.below hb); have Iz_15 := Lib.hid (Iz_14.out.below hb); have Ip_15 := Lib.hid (Ip_14.out.below hb); have Iq_15 := Lib.hid (Iq_14.out.below hb); have Is_15 := Lib.hid (Is_14.out.below hb); have It_15 := Lib.hid (It_14.out.below hb); have E_15 := Lib.hid (E_14.out.below hb); clear hb)) | (go_at_call 15; ((with_reducible refine (impl_transpose 2 2 Aab 4 cab ab _ Iab_13.out (by omega) (by omega) hcab).mono ?_); rintro e w14 ⟨q, j, r, V, rfl, his, hr, hb⟩; obtain ⟨rfl, rfl, rfl⟩ := transpose_unique HF.out.tab his; obtain ⟨At, ct, rfl, hct, hi⟩ := resV_arg hr HF.out.lba; have BW_14 := Lib.hid (BW_13.out.trans (hb.mono BW_13.out.size)); have Xa_14 := Lib.hid (Xa_13.out.below hb Xa_13.out.lt); have Xab_14 := Lib.hid (Xab_13.out.below hb Xab_13.out.lt); have Xba_14 := Lib.hid (Xba_13.out.below hb Xba_13.out.lt); have Ia_14 := Lib.hid (Ia_13.out.below hb); have Iab_14 := Lib.hid (Iab_13.out.below hb); have Iba_14 := Lib.hid (Iba_13.out.below hb); have Ix_14 := Lib.hid (Ix_13.out.below hb); have Iz_14 := Lib.hid (Iz_13.out.below hb); have Ip_14 := Lib.hid (Ip_13.out.below hb); have Iq_14 := Lib.hid (Iq_13.out.below hb); have Is_14 := Lib.hid (Is_13.out.below hb); have E_14 := Lib.hid (E_13.out.below hb); have It_14 := Lib.hid hi; clear his hr hi; clear hb)))
  go_wp2_with fail
  go_ret
  exact ⟨rfl, BW_20.out⟩
end Go.Proofs.Ytmclfoahfifmfaa.fnMatrices
