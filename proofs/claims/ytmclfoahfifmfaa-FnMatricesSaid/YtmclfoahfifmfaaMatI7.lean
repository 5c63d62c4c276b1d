/- Contracts of matrices, by the program: the product. -/
import Derived.Test.YtmclfoahfifmfaaMatI6
import Derived.Test.YtmclfoahfifmfaaMatI5
import Derived.Test.YtmclfoahfifmfaaGF
namespace Go.Proofs.Ytmclfoahfifmfaa
set_option maxRecDepth 100000
open Go.RowKit

theorem mul_no {p k p' k' : Int} {rs ss : List RD} (h : ¬ (MOk p k rs ∧ MOk p' k' ss ∧ k = p')) : MultiplyIs p k rs p' k' ss 0 0 [] false := matDone_no fun h2 => h h2.1
theorem mmul_all {P K Q : Nat} {rs ss : List RD} : (∀ x ∈ mmul P K Q rs ss, x.ok) ↔ ∀ i, i < P → ∀ j, j < Q → (rinner (mrow K rs i) (mrow K (trans K Q ss) j)).ok := by
  constructor
  · intro h i hi j hj
    exact h _ (List.mem_of_getElem? (mmul_at hi hj))
  · intro h x hx
    obtain ⟨t, ht, rfl⟩ := List.mem_map.1 hx
    rw [List.mem_range] at ht
    have hQ : 0 < Q := by
      rcases Nat.eq_zero_or_pos Q with h0 | h0
      · subst h0; omega
      · exact h0
    exact h _ (by rw [Nat.div_lt_iff_lt_mul hQ]; exact ht) _ (Nat.mod_lt t hQ)
theorem three_mats {w : World} {b b' b'' : Nat} {t t' t'' : TypeId} {x y z x' y' z' x'' y'' z'' : Value} (h : Hid (Box w b t #[x, y, z])) (k : Hid (Box w b' t' #[x', y', z'])) (l : Hid (Box w b'' t'' #[x'', y'', z''])) :
    w.cell? ⟨b, 0, none⟩ = some x ∧ w.cell? ⟨b, 1, none⟩ = some y ∧ w.cell? ⟨b, 2, none⟩ = some z ∧ w.cell? ⟨b', 0, none⟩ = some x' ∧ w.cell? ⟨b', 1, none⟩ = some y' ∧ w.cell? ⟨b', 2, none⟩ = some z' ∧ w.cell? ⟨b'', 0, none⟩ = some x'' ∧ w.cell? ⟨b'', 1, none⟩ = some y'' ∧ w.cell? ⟨b'', 2, none⟩ = some z'' :=
  ⟨h.out.cell 0, h.out.cell 1, h.out.cell 2, k.out.cell 0, k.out.cell 1, k.out.cell 2, l.out.cell 0, l.out.cell 1, l.out.cell 2⟩
theorem Box.wroteG {w w' : World} {g G : Nat} {t : TypeId} {cs : Array Value} (h : Box w g t cs) (hW : Wrote (fun k => k = G) w w') (hne : g ≠ G) : Box w' g t cs := (hW.block g h.lt hne).trans h
set_option maxHeartbeats 6400000 in
theorem impl_multiply0 (p k : Int) (A : Option Addr) (n c : Nat) (rs : List RD) (p' k' : Int) (B : Option Addr) (m d : Nat) (ss : List RD) (w : World) (h1 : InV w A n rs) (hp : -9223372036854775808 ≤ p ∧ p ≤ 9223372036854775807) (hk : -9223372036854775808 ≤ k ∧ k ≤ 9223372036854775807) (hc : n ≤ c) (h2 : InV w B m ss) (hp' : -9223372036854775808 ≤ p' ∧ p' ≤ 9223372036854775807) (hk' : -9223372036854775808 ≤ k' ∧ k' ≤ 9223372036854775807) (hd : m ≤ d) :
    Calls Try.prog 14 #[.agg #[.int .i64 p, .int .i64 k, .slice A n c], .agg #[.int .i64 p', .int .i64 k', .slice B m d]] w fun e w' => MatOkEnd (MultiplyIs p k rs p' k' ss) w w' e := by
  obtain ⟨W0, hW0⟩ : ∃ W, W = (((w.alloc (.cells #[.int .i64 p, .int .i64 k, .slice A n c] 25)).alloc (.cells #[.int .i64 p', .int .i64 k', .slice B m d] 25)).alloc (.cells #[.int .i64 0, .int .i64 0, .slice none 0 0] 25)) := ⟨_, rfl⟩
  have hm0_0 : Hid (Box W0 (w.heap.size) 25 #[.int .i64 p, .int .i64 k, .slice A n c]) := by rw [hW0]; exact (((Box.at' (by simp)).alloc _).alloc _)
  have hm1_0 : Hid (Box W0 (w.heap.size + 1) 25 #[.int .i64 p', .int .i64 k', .slice B m d]) := by rw [hW0]; exact ((Box.at' (by simp)).alloc _)
  have ht_0 : Hid (Box W0 (w.heap.size + 1 + 1) 25 #[.int .i64 0, .int .i64 0, .slice none 0 0]) := by rw [hW0]; exact (Box.at' (by simp))
  have BW_0 : Hid (Below w.heap.size w W0) := by rw [hW0]; exact ((((Below.refl w.heap.size w).alloc (by simp) _).alloc (by simp) _).alloc (by simp; omega) _)
  have hsz0 : w.heap.size + 1 + 1 + 1 ≤ W0.heap.size := by rw [hW0]; simp
  have H1 := Lib.hid (h1.below BW_0.out)
  have H2 := Lib.hid (h2.below BW_0.out)
  have hn := h1.2.1
  have hmm := h2.2.1
  clear h1 h2
  go_enter Try.func14, Try.ntmps14
  go_wp2_with fail
  rw [← hW0]
  clear hW0
  refine (impl_matrixOk0 p k A n c rs _ H1.out hp hk hc).mono ?_
  rintro e w1 ⟨b, rfl, hq, hb⟩
  have hm0_1 := Lib.hid (hm0_0.out.below hb hm0_0.out.lt)
  have hm1_1 := Lib.hid (hm1_0.out.below hb hm1_0.out.lt)
  have ht_1 := Lib.hid (ht_0.out.below hb ht_0.out.lt)
  have BW_1 := Lib.hid (BW_0.out.trans (hb.mono BW_0.out.size))
  replace H1 := Lib.hid (H1.out.below hb)
  replace H2 := Lib.hid (H2.out.below hb)
  clear hb
  have ehm00 := hm0_1.out.cell 0
  have ehm01 := hm0_1.out.cell 1
  have ehm02 := hm0_1.out.cell 2
  have ehm10 := hm1_1.out.cell 0
  have ehm11 := hm1_1.out.cell 1
  have ehm12 := hm1_1.out.cell 2
  have eht0 := ht_1.out.cell 0
  have eht1 := ht_1.out.cell 1
  have eht2 := ht_1.out.cell 2
  have fht0 := ht_1.out.free 0
  have fht1 := ht_1.out.free 1
  have fht2 := ht_1.out.free 2
  simp at ehm00 ehm01 ehm02 ehm10 ehm11 ehm12 eht0 eht1 eht2
  cases b
  case false =>
    have HZ : Hid (MultiplyIs p k rs p' k' ss 0 0 [] false) := mul_no fun h => (by have h1 := hq.2 h.1; cases h1)
    clear hq
    go_wp2_with fail
    refine bodyPost_ret (v := .tuple #[.agg #[.int .i64 0, .int .i64 0, .slice none 0 0], .bool false]) (by simp [results, Try.results14, eht0, eht1, eht2, go_sem]) rfl ?_
    exact matOkEnd_zero HZ.out BW_1.out (by omega) _ _ _
  have M1 := Lib.hid (hq.1 rfl)
  clear hq
  go_wp2_with fail
  clear ehm00 ehm01 ehm02 ehm10 ehm11 ehm12 eht0 fht0 eht1 fht1 eht2 fht2
  refine (impl_matrixOk0 p' k' B m d ss _ H2.out hp' hk' hd).mono ?_
  rintro e w2 ⟨b, rfl, hq, hb⟩
  have hm0_2 := Lib.hid (hm0_1.out.below hb hm0_1.out.lt)
  have hm1_2 := Lib.hid (hm1_1.out.below hb hm1_1.out.lt)
  have ht_2 := Lib.hid (ht_1.out.below hb ht_1.out.lt)
  have BW_2 := Lib.hid (BW_1.out.trans (hb.mono BW_1.out.size))
  replace H1 := Lib.hid (H1.out.below hb)
  replace H2 := Lib.hid (H2.out.below hb)
  clear hb
  have ehm00 := hm0_2.out.cell 0
  have ehm01 := hm0_2.out.cell 1
  have ehm02 := hm0_2.out.cell 2
  have ehm10 := hm1_2.out.cell 0
  have ehm11 := hm1_2.out.cell 1
  have ehm12 := hm1_2.out.cell 2
  have eht0 := ht_2.out.cell 0
  have eht1 := ht_2.out.cell 1
  have eht2 := ht_2.out.cell 2
  have fht0 := ht_2.out.free 0
  have fht1 := ht_2.out.free 1
  have fht2 := ht_2.out.free 2
  simp at ehm00 ehm01 ehm02 ehm10 ehm11 ehm12 eht0 eht1 eht2
  cases b
  case false =>
    have HZ : Hid (MultiplyIs p k rs p' k' ss 0 0 [] false) := mul_no fun h => (by have h1 := hq.2 h.2.1; cases h1)
    clear hq
    go_wp2_with fail
    refine bodyPost_ret (v := .tuple #[.agg #[.int .i64 0, .int .i64 0, .slice none 0 0], .bool false]) (by simp [results, Try.results14, eht0, eht1, eht2, go_sem]) rfl ?_
    exact matOkEnd_zero HZ.out BW_2.out (by omega) _ _ _
  have M2 := Lib.hid (hq.1 rfl)
  clear hq
  by_cases hkp : (k != p') = true
  · have HZ : Hid (MultiplyIs p k rs p' k' ss 0 0 [] false) := mul_no fun h => by simp at hkp; exact hkp h.2.2
    go_wp2_with fail
    refine bodyPost_ret (v := .tuple #[.agg #[.int .i64 0, .int .i64 0, .slice none 0 0], .bool false]) (by simp [results, Try.results14, eht0, eht1, eht2, go_sem]) rfl ?_
    exact matOkEnd_zero HZ.out BW_2.out (by omega) _ _ _
  obtain rfl : k = p' := by simpa using hkp
  have hkp2 : (k != k) = false := by simp
  clear hkp
  have hpb := M1.out.1
  have hkb := M1.out.2.1
  have hqb := M2.out.2.1
  obtain ⟨P, rfl⟩ : ∃ P : Nat, p = P := ⟨p.toNat, by omega⟩
  obtain ⟨K, rfl⟩ : ∃ P : Nat, k = P := ⟨k.toNat, by omega⟩
  obtain ⟨Q, rfl⟩ : ∃ P : Nat, k' = P := ⟨k'.toNat, by omega⟩
  have hP24 : P ≤ 24 := by omega
  have hK24 : K ≤ 24 := by omega
  have hQ24 : Q ≤ 24 := by omega
  obtain ⟨N, hN⟩ : ∃ N, N = P * Q := ⟨_, rfl⟩
  have HN := Lib.hid hN
  have hN5 : N ≤ 576 := by rw [hN]; exact mul_le_576 hP24 hQ24
  obtain ⟨zs, hzs⟩ : ∃ zs, zs = mmul P K Q rs ss := ⟨_, rfl⟩
  have HZ := Lib.hid hzs
  have HZL : Hid (zs.length = N) := by unfold Hid; rw [hzs, mmul_length, hN]
  have HZG : Hid (Goods zs) := ⟨by rw [HZL.out]; omega, fun x hx => by rw [hzs] at hx; exact mem_mmul hx⟩
  have HNPK : Hid (n = P * K) := by have h1 := M1.out.plen; rw [H1.out.1] at h1; exact h1
  have hsz2 := BW_2.out.size
  have hlt0 := hm0_2.out.lt
  have hlt1 := hm1_2.out.lt
  have hltt := ht_2.out.lt
  clear hzs
  go_wp2_with fail
  clear ehm00 ehm01 ehm02 ehm10 ehm11 ehm12 eht0 fht0 eht1 fht1 eht2 fht2
  refine (impl_newMatrix P Q _ hP24 hQ24).mono ?_
  rintro e w3 ⟨G, rfl, ho, hb⟩
  rw [← hN] at ho ⊢
  clear hN
  have HB3 := Lib.hid hb
  obtain ⟨W4, hW4⟩ : ∃ W, W = w3.alloc (.cells #[.int .i64 P, .int .i64 Q, .slice (some ⟨G, 0, none⟩) N N] 25) := ⟨_, rfl⟩
  have hbx : Below w3.heap.size w3 W4 := by rw [hW4]; exact (Below.refl _ _).alloc (Nat.le_refl _) _
  have X_4 : Hid (Box W4 w3.heap.size 25 #[.int .i64 P, .int .i64 Q, .slice (some ⟨G, 0, none⟩) N N]) := by rw [hW4]; exact Box.new _ _ _
  have O4 := Lib.hid (ho.below hbx)
  have B4 : Hid (Below w2.heap.size w2 W4) := HB3.out.trans (hbx.mono HB3.out.size)
  have hG := own_at0 ho.2.1
  have hW4s : W4.heap.size = w3.heap.size + 1 := by rw [hW4]; simp
  have hw23 := HB3.out.size
  have em := hm1_2.out.below B4.out hm1_2.out.lt
  rw [hW4] at em
  have em0 := em.cell 0
  have em1 := em.cell 1
  have em2 := em.cell 2
  simp at em0 em1 em2
  clear ho hb hbx em
  go_wp2_with fail
  rw [← hW4]
  clear hW4 em0 em1 em2
  refine (impl_transpose0 K Q B m d ss _ (H2.out.below B4.out) (by omega) (by omega) hd).mono ?_
  rintro e w5 ⟨q5, j5, tr, V, rfl, htr, ⟨hl5, hf5, LT, hoT, hhT⟩, hb5⟩
  obtain ⟨rfl, rfl, rfl⟩ : q5 = Q ∧ j5 = K ∧ tr = trans K Q ss := by
    rcases htr with ⟨_, a, b, c⟩ | ⟨h, _⟩
    · exact ⟨a, b, by simpa using c⟩
    · exact absurd M2.out h
  obtain ⟨NT, hNT⟩ : ∃ N, N = (trans K Q ss).length := ⟨_, rfl⟩
  rw [← hNT] at hoT
  obtain ⟨AT, cT, rfl⟩ := hoT.slice
  have hNT2 : NT = Q * K := by rw [hNT, trans_length]
  have hNT5 : NT ≤ 576 := by rw [hNT2]; exact mul_le_576 hQ24 hK24
  have MT := Lib.hid M2.out.trans
  have HFT : Hid (∀ r ∈ trans K Q ss, r.fits) := hf5
  have hcapT : NT ≤ cT := own_le hoT.2.1
  have OT := Lib.hid hoT
  have HT := Lib.hid hhT
  have O5 := Lib.hid (O4.out.below hb5)
  have X_5 := Lib.hid (X_4.out.below hb5 X_4.out.lt)
  have B5 := Lib.hid (B4.out.trans (hb5.mono B4.out.size))
  have hXl := X_4.out.lt
  have h45 := hb5.size
  have HNT2 := Lib.hid hNT2
  clear htr hl5 hf5 hoT hhT hb5 hNT hNT2
  obtain ⟨W6, hW6⟩ : ∃ W, W = w5.alloc (.cells #[.int .i64 Q, .int .i64 K, .slice AT NT cT] 25) := ⟨_, rfl⟩
  have hbx : Below w5.heap.size w5 W6 := by rw [hW6]; exact (Below.refl _ _).alloc (Nat.le_refl _) _
  have Y_6 : Hid (Box W6 w5.heap.size 25 #[.int .i64 Q, .int .i64 K, .slice AT NT cT]) := by rw [hW6]; exact Box.new _ _ _
  have O6 := Lib.hid (O5.out.below hbx)
  have OT6 := Lib.hid (OT.out.below hbx)
  have X_6 := Lib.hid (X_5.out.below hbx X_5.out.lt)
  have B6 : Hid (Below w2.heap.size w2 W6) := B5.out.trans (hbx.mono B5.out.size)
  have em := hm0_2.out.below B6.out hm0_2.out.lt
  rw [hW6] at em
  have em0 := em.cell 0
  simp at em0
  clear hbx em
  go_wp2_with fail
  rw [← hW6]
  clear hW6 em0
  go_loopw [34] (fun y wr => ∃ (i : Nat) (L : List El), i ≤ P ∧ y = .int .i64 i ∧ Hid (OwnV wr w2.heap.size (.slice (some ⟨G, 0, none⟩) N N) N L) ∧ Hid (Has L (upTo zs (i * Q) N)) ∧ Hid (Box wr w3.heap.size 25 #[.int .i64 P, .int .i64 Q, .slice (some ⟨G, 0, none⟩) N N]) ∧ Hid (Box wr w5.heap.size 25 #[.int .i64 Q, .int .i64 K, .slice AT NT cT]) ∧ Hid (OwnV wr W4.heap.size (.slice AT NT cT) NT LT) ∧ Hid (Below w2.heap.size w2 wr) ∧ Hid (∀ t, t < i → ∀ j, j < Q → (rinner (mrow K rs t) (mrow K (trans K Q ss) j)).ok)) (fun y _ => P - (intOf y).toNat)
  case atStart => exact ⟨0, _, Nat.zero_le _, rfl, O6, by rw [Nat.zero_mul, upTo_zero]; exact has_zeros N, X_6, Y_6, OT6, B6, fun t ht => by omega⟩
  case round =>
    obtain ⟨i, L, hle, rfl, ho, hh, hX, hY, hT, hb, hk⟩ := hrel
    by_cases hlt : i < P
    · have hi0 : (0 : Int) ≤ (i : Int) := by omega
      have hi1 : (i : Int) < (P : Int) := by omega
      have hile : i ≤ 24 := by omega
      obtain ⟨u, hu⟩ : ∃ u, u = i * Q := ⟨_, rfl⟩
      have huQ : u + Q ≤ N := by rw [hu, HN.out]; exact row_le hlt
      have HU := Lib.hid hu
      have hir : i * K + K ≤ n := by rw [HNPK.out]; exact row_le hlt
      have hN24 : N ≤ 1024 := by omega
      have hN20 : N ≤ 1048576 := by omega
      have hw2r : w2.heap.size ≤ wr.heap.size := hb.out.size
      have hXG : w3.heap.size ≠ G := by omega
      have hYG : w5.heap.size ≠ G := by omega
      have hZG : w.heap.size ≠ G := by omega
      have X_a := Lib.hid hX.out.drew
      have Y_a := Lib.hid hY.out.drew
      have Z_a := Lib.hid (hm0_2.out.below hb.out hm0_2.out.lt).drew
      have O_a := Lib.hid (OwnV.drew ho.out)
      have T_a := Lib.hid (OwnV.drew hT.out)
      have B_a := Lib.hid hb.out.drew
      have HZI : Hid (∀ j, j < Q → zs[u + j]? = some (rinner (mrow K (trans K Q ss) j) (mrow K rs i))) := fun j hj => by rw [HU.out, HZ.out, rinner_comm]; exact mmul_at hlt hj
      have HVK := Lib.hid (mrow_ok M1.out rfl M1.out.plen hlt)
      have HH : Hid (Has L (upTo zs u N)) := by rw [hu]; exact hh
      clear hu ho hh hX hY hT hb
      go_wp2_with fail
      go_region_held3 (fun w' => w'.cell? ⟨w3.heap.size, 0, none⟩ = some (.int .i64 P) ∧ w'.cell? ⟨w3.heap.size, 1, none⟩ = some (.int .i64 Q) ∧ w'.cell? ⟨w3.heap.size, 2, none⟩ = some (.slice (some ⟨G, 0, none⟩) N N) ∧ w'.cell? ⟨w5.heap.size, 0, none⟩ = some (.int .i64 Q) ∧ w'.cell? ⟨w5.heap.size, 1, none⟩ = some (.int .i64 K) ∧ w'.cell? ⟨w5.heap.size, 2, none⟩ = some (.slice AT NT cT) ∧ w'.cell? ⟨w.heap.size, 0, none⟩ = some (.int .i64 P) ∧ w'.cell? ⟨w.heap.size, 1, none⟩ = some (.int .i64 K) ∧ w'.cell? ⟨w.heap.size, 2, none⟩ = some (.slice A n c)) (first | with_reducible exact three_mats X_d Y_d Z_d | with_reducible exact three_mats X_c Y_c Z_c | with_reducible exact three_mats X_b Y_b Z_b | with_reducible exact three_mats X_a Y_a Z_a) (first | (go_at_call 52; (with_reducible refine ((impl_applyInto w2.heap.size G N N u D7 D8 Q K AT NT cT (trans K Q ss) A8 c8 (mrow K rs i) zs L _ O_c.out HBC.out HH.out HD7.out huQ hN24 HZI.out MT.out hcapT HAT.out HAR.out HVK.out).mono (fun _ _ h => h.said)).mono ?_); rintro e w9 ⟨b9, rfl, hc9, hW9⟩; have HC9 := Lib.hid hc9; have X_d := Lib.hid (X_c.out.wroteG hW9 hXG); have Y_d := Lib.hid (Y_c.out.wroteG hW9 hYG); have Z_d := Lib.hid (Z_c.out.wroteG hW9 hZG); have T_d := Lib.hid (HTD.out w9 hW9); have B_d := Lib.hid (HBD.out w9 hW9); clear hc9 hW9) | (go_at_call 53; first | ((with_reducible refine (impl_rowAt P K i A n c _ hir hn hc H1.out.some_ hile hK24).mono ?_); rintro e w8 ⟨A8, c8, rfl, hc8, hat8, hb8⟩; have HRW := Lib.hid (H1.out.row hat8 hir hK24); have X_c := Lib.hid (X_b.out.below hb8 X_b.out.lt); have Y_c := Lib.hid (Y_b.out.below hb8 Y_b.out.lt); have Z_c := Lib.hid (Z_b.out.below hb8 Z_b.out.lt); have O_c := Lib.hid (O_b.out.below hb8); have T_c := Lib.hid (T_b.out.below hb8); have B_c := Lib.hid (B_b.out.trans (hb8.mono B_b.out.size)); have HBC := Lib.hid B_c.out.size; have HTD : Hid (∀ w', Wrote (fun k => k = G) w8 w' → OwnV w' W4.heap.size (.slice AT NT cT) NT LT) := (fun w' hw => T_c.out.dep fun k hk => hw.block k (T_c.out.lt k hk).2 (fun e => by have := (T_c.out.lt k hk).1; omega)); have HAT : Hid (∀ w', Wrote (fun k => k = G) w8 w' → InV w' AT NT (trans K Q ss)) := (fun w' hw => (HTD.out w' hw).in_ HT.out (by omega) HFT.out); have HBD : Hid (∀ w', Wrote (fun k => k = G) w8 w' → Below w2.heap.size w2 w') := (fun w' hw => Wrote.below B_c.out hw (fun k hk => by omega) B_c.out.size); have HAR : Hid (∀ w', Wrote (fun k => k = G) w8 w' → InV w' A8 K (mrow K rs i)) := (fun w' hw => HRW.out.below (HBD.out w' hw)); clear hat8 hb8) | ((with_reducible refine (impl_rowAt P Q i (some ⟨G, 0, none⟩) N N _ (by rw [← HU.out]; exact huQ) hN20 (Nat.le_refl _) (fun _ => ⟨G, 0, rfl⟩) hile hQ24).mono ?_); rintro e w7 ⟨D7, D8, rfl, hD8, hat7, hb7⟩; rw [← HU.out] at hat7; have HD7 : Hid (Q = 0 ∨ D7 = some ⟨G, u * 3, none⟩) := (by rcases hat7 with h0 | ⟨bb, oo, hA, hA'⟩; (exact .inl h0); (cases hA; exact .inr (by rw [hA', Nat.zero_add]))); have X_b := Lib.hid (X_a.out.below hb7 X_a.out.lt); have Y_b := Lib.hid (Y_a.out.below hb7 Y_a.out.lt); have Z_b := Lib.hid (Z_a.out.below hb7 Z_a.out.lt); have O_b := Lib.hid (O_a.out.below hb7); have T_b := Lib.hid (T_a.out.below hb7); have B_b := Lib.hid (B_a.out.trans (hb7.mono B_a.out.size)); clear hat7 hb7)))
      have ht_9 := Lib.hid (ht_2.out.below B_d.out ht_2.out.lt)
      have BW_9 := Lib.hid (BW_2.out.trans (B_d.out.mono BW_2.out.size))
      cases b9
      · have HQ : Hid (MultiplyIs P K rs K Q ss 0 0 [] false) := .inr ⟨fun h => by
          rcases HC9.out with ⟨h1, _⟩ | ⟨_, h1⟩
          · cases h1
          · exact h1 fun j hj => by rw [rinner_comm]; exact mmul_all.1 h.2 i hlt j hj, rfl, rfl, rfl, rfl⟩
        clear HC9
        have eht0 := ht_9.out.cell 0
        have eht1 := ht_9.out.cell 1
        have eht2 := ht_9.out.cell 2
        have fht0 := ht_9.out.free 0
        have fht1 := ht_9.out.free 1
        have fht2 := ht_9.out.free 2
        simp at eht0 eht1 eht2
        go_wp2_with fail
        refine bodyPost_ret (v := .tuple #[.agg #[.int .i64 0, .int .i64 0, .slice none 0 0], .bool false]) (by simp [results, Try.results14, eht0, eht1, eht2, go_sem]) rfl ?_
        exact matOkEnd_zero HQ.out BW_9.out (by omega) _ _ _
      · obtain ⟨L9, ho9, hh9, hok9⟩ : ∃ L, OwnV w9 w2.heap.size (.slice (some ⟨G, 0, none⟩) N N) N L ∧ Has L (upTo zs (u + Q) N) ∧ ∀ j, j < Q → (rinner (mrow K (trans K Q ss) j) (mrow K rs i)).ok := by
          rcases HC9.out with ⟨_, h1⟩ | ⟨h1, _⟩
          · exact h1
          · cases h1
        have HO9 := Lib.hid ho9
        have HH9 : Hid (Has L9 (upTo zs ((i + 1) * Q) N)) := by rw [Nat.add_mul, Nat.one_mul, ← HU.out]; exact hh9
        have HK9 : Hid (∀ t, t < i + 1 → ∀ j, j < Q → (rinner (mrow K rs t) (mrow K (trans K Q ss) j)).ok) := fun t ht j hj => by
          by_cases e : t = i
          · subst e; rw [rinner_comm]; exact hok9 j hj
          · exact hk.out t (by omega) j hj
        clear HC9 ho9 hh9 hok9
        go_wp2_with fail
        go_roundw
        case rel => exact ⟨i + 1, L9, by omega, by go_num, HO9, HH9, X_d, Y_d, T_d, B_d, HK9⟩
        case measure => simp [intOf]; omega
    · obtain rfl : i = P := by omega
      have HH : Hid (Has L zs) := by
        have h1 := hh.out
        rw [← HN.out, upTo_all HZL.out] at h1
        exact h1
      have ht_3 := Lib.hid (ht_2.out.below hb.out ht_2.out.lt)
      have BW_3 := Lib.hid (BW_2.out.trans (hb.out.mono BW_2.out.size))
      have HQ : Hid (MultiplyIs i K rs K Q ss i Q zs true) := .inl ⟨⟨⟨M1.out, M2.out, rfl⟩, mmul_all.2 hk.out⟩, rfl, rfl, HZ.out, rfl⟩
      have eht0 := ht_3.out.cell 0
      have eht1 := ht_3.out.cell 1
      have eht2 := ht_3.out.cell 2
      have fht0 := ht_3.out.free 0
      have fht1 := ht_3.out.free 1
      have fht2 := ht_3.out.free 2
      simp at eht0 eht1 eht2
      have ex0 := hX.out.cell 0
      have ex1 := hX.out.cell 1
      have ex2 := hX.out.cell 2
      simp at ex0 ex1 ex2
      go_wp2_with fail
      refine bodyPost_ret (v := .tuple #[.agg #[.int .i64 i, .int .i64 Q, .slice (some ⟨G, 0, none⟩) N N], .bool true]) (by simp [results, Try.results14, eht0, eht1, eht2, go_sem]) rfl ?_
      exact matOkEnd_store ht_3.out (by omega) BW_3.out HQ.out HZG.out HZL.out ho.out hsz2 HH.out
theorem impl_multiply (p k : Int) (A : Option Addr) (n c : Nat) (rs : List RD) (p' k' : Int) (B : Option Addr) (m d : Nat) (ss : List RD) (w : World) (h1 : InV w A n rs) (hp : -9223372036854775808 ≤ p ∧ p ≤ 9223372036854775807) (hk : -9223372036854775808 ≤ k ∧ k ≤ 9223372036854775807) (hc : n ≤ c) (h2 : InV w B m ss) (hp' : -9223372036854775808 ≤ p' ∧ p' ≤ 9223372036854775807) (hk' : -9223372036854775808 ≤ k' ∧ k' ≤ 9223372036854775807) (hd : m ≤ d) :
    Calls Try.prog 14 #[.agg #[.int .i64 p, .int .i64 k, .slice A n c], .agg #[.int .i64 p', .int .i64 k', .slice B m d]] w fun e w' => ∃ q j r V b, e = .returned (.tuple #[.agg #[.int .i64 q, .int .i64 j, V], .bool b]) ∧ MultiplyIs p k rs p' k' ss q j r b ∧ ResV w w' V r ∧ Below w.heap.size w w' := (impl_multiply0 p k A n c rs p' k' B m d ss w h1 hp hk hc h2 hp' hk' hd).mono fun _ _ h => h
end Go.Proofs.Ytmclfoahfifmfaa
