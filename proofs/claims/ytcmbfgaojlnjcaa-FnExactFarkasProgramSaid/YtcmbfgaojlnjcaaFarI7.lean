/- The programs that search for certificates, by the program. -/
import Derived.Test.YtcmbfgaojlnjcaaFarI6
import Derived.Test.YtcmbfgaojlnjcaaLpI2
namespace Go.Proofs.Ytcmbfgaojlnjcaa
set_option maxRecDepth 100000
open Go.RowKit

theorem ineg_ineg (l : List Int) : ineg (ineg l) = l := by
  induction l with
  | nil => rfl
  | cons a l ih => simp only [ineg, List.map_cons] at ih ⊢; rw [ih, Int.neg_neg]
/-- A program to be searched through, and whether there is one. -/
def SearchEnd (P Q : LP) (w w' : World) (e : Ending) : Prop :=
  ∃ p k la v lb u lc t b, e = .returned (.tuple #[.agg #[.int .i64 p, .int .i64 k, v, u, t], .bool b]) ∧ SearchIs P Q ⟨p, k, la, lb, lc⟩ ∧ (b = true ↔ Fits P) ∧ ResP w w' v la u lb t lc ∧ Below w.heap.size w w'
theorem searchEnd_zero {P Q : LP} {w w' : World} (h : ¬ Fits P) (hb : Below w.heap.size w w') : SearchEnd P Q w w' (.returned (.tuple #[.agg #[.int .i64 0, .int .i64 0, .slice none 0 0, .slice none 0 0, .slice none 0 0], .bool false])) :=
  ⟨0, 0, [], _, [], _, [], _, false, rfl, .inr ⟨h, rfl⟩, ⟨fun q => (by cases q), fun q => absurd q h⟩, ⟨⟨by simp, World.ownsRow_nil _ _ _ _⟩, ⟨by simp, World.ownsRow_nil _ _ _ _⟩, ⟨by simp, World.ownsRow_nil _ _ _ _⟩, fun k hk => (by cases hk), fun k hk => (by cases hk), fun k hk => (by cases hk), fun z hz => (by cases hz), fun z hz => (by cases hz), fun z hz => (by cases hz)⟩, hb⟩
theorem searchEnd_of {P Q : LP} {w w' : World} {base : Nat} {p k : Int} {A B C : Option Addr} {n c m d l e : Nat} {la lb lc : List Int} (hf : Fits P) (h : (⟨p, k, la, lb, lc⟩ : LP) = Q) (ho : OwnP w' base A n c (la.map (.int .i64)) B m d (lb.map (.int .i64)) C l e (lc.map (.int .i64))) (hbase : w.heap.size ≤ base) (hn : n ≤ 4194304) (hm : m ≤ 4194304) (hl : l ≤ 4194304) (h1 : I64s la) (h2 : I64s lb) (h3 : I64s lc) (hb : Below w.heap.size w w') :
    SearchEnd P Q w w' (.returned (.tuple #[.agg #[.int .i64 p, .int .i64 k, .slice A n c, .slice B m d, .slice C l e], .bool true])) := by
  have q : ∀ {v : Value} {n : Nat} {la : List Int}, w'.ownsRow base 3 1 v n (la.map (.int .i64)) → n ≤ 4194304 → ResI w w' v la := fun {v n la} h hn => by
    have hl : la.length = n := by have := h.1; simpa using this
    exact ⟨by omega, by rw [hl]; exact own_base h hbase⟩
  exact ⟨p, k, la, _, lb, _, lc, _, true, rfl, .inl ⟨hf, h⟩, ⟨fun _ => hf, fun _ => rfl⟩, ⟨q ho.1 hn, q ho.2.1 hm, q ho.2.2.1 hl, ho.2.2.2.1, ho.2.2.2.2.1, ho.2.2.2.2.2, h1, h2, h3⟩, hb⟩
theorem ResP.below {w w1 w2 : World} {v u t : Value} {la lb lc : List Int} (h : ResP w w1 v la u lb t lc) (hb : Below w1.heap.size w1 w2) : ResP w w2 v la u lb t lc :=
  ⟨⟨h.1.1, own_below h.1.2 hb⟩, ⟨h.2.1.1, own_below h.2.1.2 hb⟩, ⟨h.2.2.1.1, own_below h.2.2.1.2 hb⟩, h.2.2.2⟩
/-- A result stored in a variable of the caller's. -/
theorem ResP.boxed {w0 w w1 : World} {g : Nat} {z : Array Value} {v u t a0 a1 a2 a3 a4 : Value} {la lb lc : List Int} (h : ResP w w1 v la u lb t lc) (hb : Box w1 g 26 z) (hw : w0.heap.size ≤ w.heap.size) :
    ResP w0 (((((w1.setCell ⟨g, 0, none⟩ a0).setCell ⟨g, 1, none⟩ a1).setCell ⟨g, 2, none⟩ a2).setCell ⟨g, 3, none⟩ a3).setCell ⟨g, 4, none⟩ a4) v la u lb t lc :=
  ⟨⟨h.1.1, own_base (own_store5 h.1.2 hb (by decide) _ _ _ _ _) hw⟩, ⟨h.2.1.1, own_base (own_store5 h.2.1.2 hb (by decide) _ _ _ _ _) hw⟩, ⟨h.2.2.1.1, own_base (own_store5 h.2.2.1.2 hb (by decide) _ _ _ _ _) hw⟩, h.2.2.2⟩
set_option maxHeartbeats 12800000 in
theorem impl_searchForFarkas (p k : Int) (A : Option Addr) (n c : Nat) (la : List Int) (B : Option Addr) (m d : Nat) (lb : List Int) (C : Option Addr) (l f : Nat) (lc : List Int) (w : World) (h : InP w A n la B m lb C l lc) (hc : n ≤ c) :
    Calls Try.prog 55 #[.iface 72 (.agg #[]), .agg #[.int .i64 p, .int .i64 k, .slice A n c, .slice B m d, .slice C l f]] w fun e w' => SearchEnd ⟨p, k, la, lb, lc⟩ (farkasP ⟨p, k, la, lb, lc⟩) w w' e := by
  obtain ⟨W0, hW0⟩ : ∃ W, W = ((w.alloc (.cells #[.int .i64 p, .int .i64 k, .slice A n c, .slice B m d, .slice C l f] 26)).alloc (.cells #[.int .i64 0, .int .i64 0, .slice none 0 0, .slice none 0 0, .slice none 0 0] 26)) := ⟨_, rfl⟩
  have hp0_0 : Hid (Box W0 (w.heap.size) 26 #[.int .i64 p, .int .i64 k, .slice A n c, .slice B m d, .slice C l f]) := by rw [hW0]; exact ((Box.at' (by simp)).alloc _)
  have hpr_0 : Hid (Box W0 (w.heap.size + 1) 26 #[.int .i64 0, .int .i64 0, .slice none 0 0, .slice none 0 0, .slice none 0 0]) := by rw [hW0]; exact (Box.at' (by simp))
  have BW_0 : Hid (Below w.heap.size w W0) := by rw [hW0]; exact (((Below.refl w.heap.size w).alloc (by simp) _).alloc (by simp) _)
  have hsz0 : w.heap.size + 1 + 1 ≤ W0.heap.size := by rw [hW0]; simp
  have HI := Lib.hid (h.below BW_0.out)
  clear h
  go_enter Try.func55, Try.ntmps55
  go_upto_region 1 with fail
  rw [← hW0]
  clear hW0
  have ehp00 := hp0_0.out.cell 0
  have ehp01 := hp0_0.out.cell 1
  have ehp02 := hp0_0.out.cell 2
  have ehp03 := hp0_0.out.cell 3
  have ehp04 := hp0_0.out.cell 4
  simp at ehp00 ehp01 ehp02 ehp03 ehp04
  go_wp2_with fail
  clear ehp00 ehp01 ehp02 ehp03 ehp04
  refine (impl_linearOf p k A n c la B m d lb C l f lc _ HI.out).mono ?_
  rintro e w1 ⟨b, rfl, hq, hb⟩
  have hp0_1 := Lib.hid (hp0_0.out.below hb hp0_0.out.lt)
  have hpr_1 := Lib.hid (hpr_0.out.below hb hpr_0.out.lt)
  have BW_1 := Lib.hid (BW_0.out.trans (hb.mono BW_0.out.size))
  replace HI := Lib.hid (HI.out.below hb)
  clear hb
  have HQ := Lib.hid hq
  clear hq
  go_upto_region 2 with fail
  obtain ⟨w2, hw2⟩ : ∃ W, W = w1.alloc (.cells #[.int .i64 p, .int .i64 k, .slice A n c, .slice B m d, .slice C l f] 102) := ⟨_, rfl⟩
  have hb2 : Below w1.heap.size w1 w2 := by rw [hw2]; exact (Below.refl _ _).alloc (Nat.le_refl _) _
  obtain ⟨g, hg⟩ : ∃ g, g = w1.heap.size := ⟨_, rfl⟩
  have XL : Hid (Box w2 g 102 #[.int .i64 p, .int .i64 k, .slice A n c, .slice B m d, .slice C l f]) := by rw [hw2, hg]; exact Box.new _ _ _
  rw [← hw2, ← hg]
  clear hw2 hg
  have hp0_2 := Lib.hid (hp0_1.out.below hb2 hp0_1.out.lt)
  have hpr_2 := Lib.hid (hpr_1.out.below hb2 hpr_1.out.lt)
  have HI2 := Lib.hid (HI.out.below hb2)
  have BW_2 := Lib.hid (BW_1.out.trans (hb2.mono BW_1.out.size))
  clear hb2 hp0_1 hpr_1 HI BW_1
  cases b
  case false =>
    have HZ : Hid (SearchEnd ⟨p, k, la, lb, lc⟩ (farkasP ⟨p, k, la, lb, lc⟩) w (((((w2.setCell ⟨w.heap.size + 1, 0, none⟩ (.int .i64 0)).setCell ⟨w.heap.size + 1, 1, none⟩ (.int .i64 0)).setCell ⟨w.heap.size + 1, 2, none⟩ (.slice none 0 0)).setCell ⟨w.heap.size + 1, 3, none⟩ (.slice none 0 0)).setCell ⟨w.heap.size + 1, 4, none⟩ (.slice none 0 0)) (.returned (.tuple #[.agg #[.int .i64 0, .int .i64 0, .slice none 0 0, .slice none 0 0, .slice none 0 0], .bool false]))) := searchEnd_zero (fun q => by have := HQ.out.2 q.1; cases this) (below_store5 BW_2.out (by omega) _ _ _ _ _)
    have hpr0' := hpr_2.out.cell 0
    have hpr1' := hpr_2.out.cell 1
    have hpr2' := hpr_2.out.cell 2
    have hpr3' := hpr_2.out.cell 3
    have hpr4' := hpr_2.out.cell 4
    have fpr0 := hpr_2.out.free 0
    have fpr1 := hpr_2.out.free 1
    have fpr2 := hpr_2.out.free 2
    have fpr3 := hpr_2.out.free 3
    have fpr4 := hpr_2.out.free 4
    have hp00' := hp0_2.out.cell 0
    have hp01' := hp0_2.out.cell 1
    simp at hpr0' hpr1' hpr2' hpr3' hpr4' hp00' hp01'
    go_wp2_with fail
    refine bodyPost_ret (v := .tuple #[.agg #[.int .i64 0, .int .i64 0, .slice none 0 0, .slice none 0 0, .slice none 0 0], .bool false]) (by simp [results, Try.results55, hpr0', hpr1', hpr2', hpr3', hpr4', go_sem]) rfl ?_
    exact HZ.out
  have HOK := Lib.hid (HQ.out.1 rfl)
  by_cases hp9 : 9 < p
  case pos =>
    have HZ : Hid (SearchEnd ⟨p, k, la, lb, lc⟩ (farkasP ⟨p, k, la, lb, lc⟩) w (((((w2.setCell ⟨w.heap.size + 1, 0, none⟩ (.int .i64 0)).setCell ⟨w.heap.size + 1, 1, none⟩ (.int .i64 0)).setCell ⟨w.heap.size + 1, 2, none⟩ (.slice none 0 0)).setCell ⟨w.heap.size + 1, 3, none⟩ (.slice none 0 0)).setCell ⟨w.heap.size + 1, 4, none⟩ (.slice none 0 0)) (.returned (.tuple #[.agg #[.int .i64 0, .int .i64 0, .slice none 0 0, .slice none 0 0, .slice none 0 0], .bool false]))) := searchEnd_zero (fun q => by have := q.2.1; simp only at this; omega) (below_store5 BW_2.out (by omega) _ _ _ _ _)
    have hpr0' := hpr_2.out.cell 0
    have hpr1' := hpr_2.out.cell 1
    have hpr2' := hpr_2.out.cell 2
    have hpr3' := hpr_2.out.cell 3
    have hpr4' := hpr_2.out.cell 4
    have fpr0 := hpr_2.out.free 0
    have fpr1 := hpr_2.out.free 1
    have fpr2 := hpr_2.out.free 2
    have fpr3 := hpr_2.out.free 3
    have fpr4 := hpr_2.out.free 4
    have hp00' := hp0_2.out.cell 0
    have hp01' := hp0_2.out.cell 1
    simp at hpr0' hpr1' hpr2' hpr3' hpr4' hp00' hp01'
    go_wp2_with fail
    refine bodyPost_ret (v := .tuple #[.agg #[.int .i64 0, .int .i64 0, .slice none 0 0, .slice none 0 0, .slice none 0 0], .bool false]) (by simp [results, Try.results55, hpr0', hpr1', hpr2', hpr3', hpr4', go_sem]) rfl ?_
    exact HZ.out
  by_cases hk16 : 16 < k
  case pos =>
    have HZ : Hid (SearchEnd ⟨p, k, la, lb, lc⟩ (farkasP ⟨p, k, la, lb, lc⟩) w (((((w2.setCell ⟨w.heap.size + 1, 0, none⟩ (.int .i64 0)).setCell ⟨w.heap.size + 1, 1, none⟩ (.int .i64 0)).setCell ⟨w.heap.size + 1, 2, none⟩ (.slice none 0 0)).setCell ⟨w.heap.size + 1, 3, none⟩ (.slice none 0 0)).setCell ⟨w.heap.size + 1, 4, none⟩ (.slice none 0 0)) (.returned (.tuple #[.agg #[.int .i64 0, .int .i64 0, .slice none 0 0, .slice none 0 0, .slice none 0 0], .bool false]))) := searchEnd_zero (fun q => by have := q.2.2; simp only at this; omega) (below_store5 BW_2.out (by omega) _ _ _ _ _)
    have hpr0' := hpr_2.out.cell 0
    have hpr1' := hpr_2.out.cell 1
    have hpr2' := hpr_2.out.cell 2
    have hpr3' := hpr_2.out.cell 3
    have hpr4' := hpr_2.out.cell 4
    have fpr0 := hpr_2.out.free 0
    have fpr1 := hpr_2.out.free 1
    have fpr2 := hpr_2.out.free 2
    have fpr3 := hpr_2.out.free 3
    have fpr4 := hpr_2.out.free 4
    have hp00' := hp0_2.out.cell 0
    have hp01' := hp0_2.out.cell 1
    simp at hpr0' hpr1' hpr2' hpr3' hpr4' hp00' hp01'
    go_wp2_with fail
    refine bodyPost_ret (v := .tuple #[.agg #[.int .i64 0, .int .i64 0, .slice none 0 0, .slice none 0 0, .slice none 0 0], .bool false]) (by simp [results, Try.results55, hpr0', hpr1', hpr2', hpr3', hpr4', go_sem]) rfl ?_
    exact HZ.out
  have HF : Hid (Fits ⟨p, k, la, lb, lc⟩) := ⟨HOK.out, by simp only; omega, by simp only; omega⟩
  obtain ⟨P, K, hP, hK, _, _, hla, hlb, hlc⟩ := HOK.out.nats
  simp only at hP hK hla hlb hlc
  subst hP hK
  have HL : Hid (n = P * K) := by rw [← HI2.out.1.1]; exact hla
  obtain rfl : P = m := by rw [← HI2.out.2.1.1]; exact hlb.symm
  obtain rfl : K = l := by rw [← HI2.out.2.2.1]; exact hlc.symm
  have HE : Hid (Ent la) := HOK.out.1.2.2.2
  have HEB : Hid (Ent lb) := HOK.out.2.1.2
  have HEC : Hid (Ent lc) := HOK.out.2.2.2
  have hP9 : P ≤ 9 := by omega
  have hK16 : K ≤ 16 := by omega
  clear hla hlb hlc HQ HOK
  have eL0 := XL.out.cell 0
  have eL1 := XL.out.cell 1
  have eL2 := XL.out.cell 2
  have eL3 := XL.out.cell 3
  have eL4 := XL.out.cell 4
  have hp00' := hp0_2.out.cell 0
  have hp01' := hp0_2.out.cell 1
  simp at eL0 eL1 eL2 eL3 eL4 hp00' hp01'
  go_wp2_with fail
  clear eL0 eL1 eL2 eL3 eL4 hp00' hp01'
  refine (impl_farkasSearch P K A n c la B d lb C K f _ HI2.out.1 HI2.out.2.1 HL.out hP9 hK16 HE.out HEB.out hc).mono ?_
  rintro e w3 ⟨A1, c1, B1, d1, C1, f1, rfl, ho, hb⟩
  have hpr_3 := Lib.hid (hpr_2.out.below hb hpr_2.out.lt)
  have BW_3 := Lib.hid (BW_2.out.trans (hb.mono BW_2.out.size))
  have HZ : Hid (SearchEnd ⟨(P : Int), (K : Int), la, lb, lc⟩ (farkasP ⟨(P : Int), (K : Int), la, lb, lc⟩) w (((((w3.setCell ⟨w.heap.size + 1, 0, none⟩ (.int .i64 ((K : Int) + 1))).setCell ⟨w.heap.size + 1, 1, none⟩ (.int .i64 (2 * (P : Int) + (K : Int)))).setCell ⟨w.heap.size + 1, 2, none⟩ (.slice A1 ((frows K la P K).length + (P + P + K)) c1)).setCell ⟨w.heap.size + 1, 3, none⟩ (.slice B1 (K + 1) d1)).setCell ⟨w.heap.size + 1, 4, none⟩ (.slice C1 (2 * P + K) f1)) (.returned (.tuple #[.agg #[.int .i64 ((K : Int) + 1), .int .i64 (2 * (P : Int) + (K : Int)), .slice A1 ((frows K la P K).length + (P + P + K)) c1, .slice B1 (K + 1) d1, .slice C1 (2 * P + K) f1], .bool true]))) := by
    have hla := ent_frows (K := K) HE.out P K
    have hNA : (frows K la P K).length ≤ 544 := frows_le (Nat.le_refl _) hP9 hK16
    have hsz2 := BW_2.out.size
    refine searchEnd_of (base := w2.heap.size) (p := (K : Int) + 1) (k := 2 * (P : Int) + (K : Int)) (la := frows K la P K ++ (lb ++ wneg lb ++ List.replicate K 0)) (lb := List.replicate K 0 ++ [-1]) (lc := List.replicate (2 * P + K) 0) (n := (frows K la P K).length + (P + P + K)) (m := K + 1) (l := 2 * P + K) HF.out (by rw [wneg_ent HEB.out]; simp [farkasP]) ?_ (by omega) (by omega) (by omega) (by omega) ?_ ?_ ?_ (below_store5 BW_3.out (by omega) _ _ _ _ _)
    · exact PM.own (pm_store5 hpr_3.out ho _ _)
    · rw [wneg_ent HEB.out]; exact (hla.append ((HEB.out.append HEB.out.ineg).append (ent_zeros K))).i64
    · intro z hz; rcases List.mem_append.1 hz with h | h
      · exact (ent_zeros K).i64 z h
      · simp at h; omega
    · exact (ent_zeros _).i64
  clear ho hb
  have hpr0' := hpr_3.out.cell 0
  have hpr1' := hpr_3.out.cell 1
  have hpr2' := hpr_3.out.cell 2
  have hpr3' := hpr_3.out.cell 3
  have hpr4' := hpr_3.out.cell 4
  have fpr0 := hpr_3.out.free 0
  have fpr1 := hpr_3.out.free 1
  have fpr2 := hpr_3.out.free 2
  have fpr3 := hpr_3.out.free 3
  have fpr4 := hpr_3.out.free 4
  simp at hpr0' hpr1' hpr2' hpr3' hpr4'
  go_wp2_with fail
  refine bodyPost_ret (v := .tuple #[.agg #[.int .i64 ((K : Int) + 1), .int .i64 (2 * (P : Int) + (K : Int)), .slice A1 ((frows K la P K).length + (P + P + K)) c1, .slice B1 (K + 1) d1, .slice C1 (2 * P + K) f1], .bool true]) (by simp [results, Try.results55, hpr0', hpr1', hpr2', hpr3', hpr4', go_sem]) rfl ?_
  exact HZ.out
set_option maxHeartbeats 12800000 in
theorem impl_farkasProgram0 (p k : Int) (A : Option Addr) (n c : Nat) (la : List Int) (B : Option Addr) (m d : Nat) (lb : List Int) (C : Option Addr) (l f : Nat) (lc : List Int) (w : World) (h : InP w A n la B m lb C l lc) (hc : n ≤ c) :
    Calls Try.prog 17 #[.agg #[.int .i64 p, .int .i64 k, .slice A n c, .slice B m d, .slice C l f]] w fun e w' => ProgEnd (SearchIs ⟨p, k, la, lb, lc⟩ (farkasP ⟨p, k, la, lb, lc⟩)) w w' e := by
  obtain ⟨W0, hW0⟩ : ∃ W, W = ((w.alloc (.cells #[.int .i64 p, .int .i64 k, .slice A n c, .slice B m d, .slice C l f] 26)).alloc (.cells #[.int .i64 0, .int .i64 0, .slice none 0 0, .slice none 0 0, .slice none 0 0] 26)) := ⟨_, rfl⟩
  have hp0_0 : Hid (Box W0 (w.heap.size) 26 #[.int .i64 p, .int .i64 k, .slice A n c, .slice B m d, .slice C l f]) := by rw [hW0]; exact ((Box.at' (by simp)).alloc _)
  have hpr_0 : Hid (Box W0 (w.heap.size + 1) 26 #[.int .i64 0, .int .i64 0, .slice none 0 0, .slice none 0 0, .slice none 0 0]) := by rw [hW0]; exact (Box.at' (by simp))
  have BW_0 : Hid (Below w.heap.size w W0) := by rw [hW0]; exact (((Below.refl w.heap.size w).alloc (by simp) _).alloc (by simp) _)
  have hsz0 : w.heap.size + 1 + 1 ≤ W0.heap.size := by rw [hW0]; simp
  have HI := Lib.hid (h.below BW_0.out)
  clear h
  go_enter Try.func17, Try.ntmps17
  go_upto_region 1 with fail
  rw [← hW0]
  clear hW0
  have ehp00 := hp0_0.out.cell 0
  have ehp01 := hp0_0.out.cell 1
  have ehp02 := hp0_0.out.cell 2
  have ehp03 := hp0_0.out.cell 3
  have ehp04 := hp0_0.out.cell 4
  simp at ehp00 ehp01 ehp02 ehp03 ehp04
  go_wp2_with fail
  clear ehp00 ehp01 ehp02 ehp03 ehp04
  refine (impl_searchForFarkas p k A n c la B m d lb C l f lc _ HI.out hc).mono ?_
  rintro e w1 ⟨p', k', la', v, lb', u, lc', t, b, rfl, hq, _, ho, hb⟩
  obtain ⟨A1, c1, rfl⟩ := own_slice ho.1.2
  obtain ⟨A2, c2, rfl⟩ := own_slice ho.2.1.2
  obtain ⟨A3, c3, rfl⟩ := own_slice ho.2.2.1.2
  have hpr_1 := Lib.hid (hpr_0.out.below hb hpr_0.out.lt)
  have BW_1 := Lib.hid (BW_0.out.trans (hb.mono BW_0.out.size))
  clear hb
  have HZ : Hid (ProgEnd (SearchIs ⟨p, k, la, lb, lc⟩ (farkasP ⟨p, k, la, lb, lc⟩)) w ((((((w1.alloc (.cells #[.int .i64 p', .int .i64 k', .slice A1 la'.length c1, .slice A2 lb'.length c2, .slice A3 lc'.length c3] 26)).setCell ⟨w.heap.size + 1, 0, none⟩ (.int .i64 p')).setCell ⟨w.heap.size + 1, 1, none⟩ (.int .i64 k')).setCell ⟨w.heap.size + 1, 2, none⟩ (.slice A1 la'.length c1)).setCell ⟨w.heap.size + 1, 3, none⟩ (.slice A2 lb'.length c2)).setCell ⟨w.heap.size + 1, 4, none⟩ (.slice A3 lc'.length c3)) (.returned (.agg #[.int .i64 p', .int .i64 k', .slice A1 la'.length c1, .slice A2 lb'.length c2, .slice A3 lc'.length c3]))) := by
    have hr := hpr_1.out.alloc (.cells #[.int .i64 p', .int .i64 k', .slice A1 la'.length c1, .slice A2 lb'.length c2, .slice A3 lc'.length c3] 26)
    have hsz := BW_0.out.size
    refine ⟨p', k', la', _, lb', _, lc', _, rfl, hq, (((ho.below ((Below.refl _ _).alloc (Nat.le_refl _) _)).boxed hr (by omega))), below_store5 (BW_1.out.alloc BW_1.out.size _) (by omega) _ _ _ _ _⟩
  clear ho hq
  have hpr_2 := Lib.hid (hpr_1.out.alloc (.cells #[.int .i64 p', .int .i64 k', .slice A1 la'.length c1, .slice A2 lb'.length c2, .slice A3 lc'.length c3] 26))
  have hpr0' := hpr_2.out.cell 0
  have hpr1' := hpr_2.out.cell 1
  have hpr2' := hpr_2.out.cell 2
  have hpr3' := hpr_2.out.cell 3
  have hpr4' := hpr_2.out.cell 4
  have fpr0 := hpr_2.out.free 0
  have fpr1 := hpr_2.out.free 1
  have fpr2 := hpr_2.out.free 2
  have fpr3 := hpr_2.out.free 3
  have fpr4 := hpr_2.out.free 4
  simp at hpr0' hpr1' hpr2' hpr3' hpr4'
  go_wp2_with fail
  refine bodyPost_ret (v := .agg #[.int .i64 p', .int .i64 k', .slice A1 la'.length c1, .slice A2 lb'.length c2, .slice A3 lc'.length c3]) (by simp [results, Try.results17, hpr0', hpr1', hpr2', hpr3', hpr4', go_sem]) rfl ?_
  exact HZ.out
set_option maxHeartbeats 12800000 in
theorem impl_searchForDual (p k : Int) (A : Option Addr) (n c : Nat) (la : List Int) (B : Option Addr) (m d : Nat) (lb : List Int) (C : Option Addr) (l f : Nat) (lc : List Int) (w : World) (h : InP w A n la B m lb C l lc) (hc : n ≤ c) :
    Calls Try.prog 55 #[.iface 73 (.agg #[]), .agg #[.int .i64 p, .int .i64 k, .slice A n c, .slice B m d, .slice C l f]] w fun e w' => SearchEnd ⟨p, k, la, lb, lc⟩ (dualP ⟨p, k, la, lb, lc⟩) w w' e := by
  obtain ⟨W0, hW0⟩ : ∃ W, W = ((w.alloc (.cells #[.int .i64 p, .int .i64 k, .slice A n c, .slice B m d, .slice C l f] 26)).alloc (.cells #[.int .i64 0, .int .i64 0, .slice none 0 0, .slice none 0 0, .slice none 0 0] 26)) := ⟨_, rfl⟩
  have hp0_0 : Hid (Box W0 (w.heap.size) 26 #[.int .i64 p, .int .i64 k, .slice A n c, .slice B m d, .slice C l f]) := by rw [hW0]; exact ((Box.at' (by simp)).alloc _)
  have hpr_0 : Hid (Box W0 (w.heap.size + 1) 26 #[.int .i64 0, .int .i64 0, .slice none 0 0, .slice none 0 0, .slice none 0 0]) := by rw [hW0]; exact (Box.at' (by simp))
  have BW_0 : Hid (Below w.heap.size w W0) := by rw [hW0]; exact (((Below.refl w.heap.size w).alloc (by simp) _).alloc (by simp) _)
  have hsz0 : w.heap.size + 1 + 1 ≤ W0.heap.size := by rw [hW0]; simp
  have HI := Lib.hid (h.below BW_0.out)
  clear h
  go_enter Try.func55, Try.ntmps55
  go_upto_region 1 with fail
  rw [← hW0]
  clear hW0
  have ehp00 := hp0_0.out.cell 0
  have ehp01 := hp0_0.out.cell 1
  have ehp02 := hp0_0.out.cell 2
  have ehp03 := hp0_0.out.cell 3
  have ehp04 := hp0_0.out.cell 4
  simp at ehp00 ehp01 ehp02 ehp03 ehp04
  go_wp2_with fail
  clear ehp00 ehp01 ehp02 ehp03 ehp04
  refine (impl_linearOf p k A n c la B m d lb C l f lc _ HI.out).mono ?_
  rintro e w1 ⟨b, rfl, hq, hb⟩
  have hp0_1 := Lib.hid (hp0_0.out.below hb hp0_0.out.lt)
  have hpr_1 := Lib.hid (hpr_0.out.below hb hpr_0.out.lt)
  have BW_1 := Lib.hid (BW_0.out.trans (hb.mono BW_0.out.size))
  replace HI := Lib.hid (HI.out.below hb)
  clear hb
  have HQ := Lib.hid hq
  clear hq
  go_upto_region 2 with fail
  obtain ⟨w2, hw2⟩ : ∃ W, W = w1.alloc (.cells #[.int .i64 p, .int .i64 k, .slice A n c, .slice B m d, .slice C l f] 102) := ⟨_, rfl⟩
  have hb2 : Below w1.heap.size w1 w2 := by rw [hw2]; exact (Below.refl _ _).alloc (Nat.le_refl _) _
  obtain ⟨g, hg⟩ : ∃ g, g = w1.heap.size := ⟨_, rfl⟩
  have XL : Hid (Box w2 g 102 #[.int .i64 p, .int .i64 k, .slice A n c, .slice B m d, .slice C l f]) := by rw [hw2, hg]; exact Box.new _ _ _
  rw [← hw2, ← hg]
  clear hw2 hg
  have hp0_2 := Lib.hid (hp0_1.out.below hb2 hp0_1.out.lt)
  have hpr_2 := Lib.hid (hpr_1.out.below hb2 hpr_1.out.lt)
  have HI2 := Lib.hid (HI.out.below hb2)
  have BW_2 := Lib.hid (BW_1.out.trans (hb2.mono BW_1.out.size))
  clear hb2 hp0_1 hpr_1 HI BW_1
  cases b
  case false =>
    have HZ : Hid (SearchEnd ⟨p, k, la, lb, lc⟩ (dualP ⟨p, k, la, lb, lc⟩) w (((((w2.setCell ⟨w.heap.size + 1, 0, none⟩ (.int .i64 0)).setCell ⟨w.heap.size + 1, 1, none⟩ (.int .i64 0)).setCell ⟨w.heap.size + 1, 2, none⟩ (.slice none 0 0)).setCell ⟨w.heap.size + 1, 3, none⟩ (.slice none 0 0)).setCell ⟨w.heap.size + 1, 4, none⟩ (.slice none 0 0)) (.returned (.tuple #[.agg #[.int .i64 0, .int .i64 0, .slice none 0 0, .slice none 0 0, .slice none 0 0], .bool false]))) := searchEnd_zero (fun q => by have := HQ.out.2 q.1; cases this) (below_store5 BW_2.out (by omega) _ _ _ _ _)
    have hpr0' := hpr_2.out.cell 0
    have hpr1' := hpr_2.out.cell 1
    have hpr2' := hpr_2.out.cell 2
    have hpr3' := hpr_2.out.cell 3
    have hpr4' := hpr_2.out.cell 4
    have fpr0 := hpr_2.out.free 0
    have fpr1 := hpr_2.out.free 1
    have fpr2 := hpr_2.out.free 2
    have fpr3 := hpr_2.out.free 3
    have fpr4 := hpr_2.out.free 4
    have hp00' := hp0_2.out.cell 0
    have hp01' := hp0_2.out.cell 1
    simp at hpr0' hpr1' hpr2' hpr3' hpr4' hp00' hp01'
    go_wp2_with fail
    refine bodyPost_ret (v := .tuple #[.agg #[.int .i64 0, .int .i64 0, .slice none 0 0, .slice none 0 0, .slice none 0 0], .bool false]) (by simp [results, Try.results55, hpr0', hpr1', hpr2', hpr3', hpr4', go_sem]) rfl ?_
    exact HZ.out
  have HOK := Lib.hid (HQ.out.1 rfl)
  by_cases hp9 : 9 < p
  case pos =>
    have HZ : Hid (SearchEnd ⟨p, k, la, lb, lc⟩ (dualP ⟨p, k, la, lb, lc⟩) w (((((w2.setCell ⟨w.heap.size + 1, 0, none⟩ (.int .i64 0)).setCell ⟨w.heap.size + 1, 1, none⟩ (.int .i64 0)).setCell ⟨w.heap.size + 1, 2, none⟩ (.slice none 0 0)).setCell ⟨w.heap.size + 1, 3, none⟩ (.slice none 0 0)).setCell ⟨w.heap.size + 1, 4, none⟩ (.slice none 0 0)) (.returned (.tuple #[.agg #[.int .i64 0, .int .i64 0, .slice none 0 0, .slice none 0 0, .slice none 0 0], .bool false]))) := searchEnd_zero (fun q => by have := q.2.1; simp only at this; omega) (below_store5 BW_2.out (by omega) _ _ _ _ _)
    have hpr0' := hpr_2.out.cell 0
    have hpr1' := hpr_2.out.cell 1
    have hpr2' := hpr_2.out.cell 2
    have hpr3' := hpr_2.out.cell 3
    have hpr4' := hpr_2.out.cell 4
    have fpr0 := hpr_2.out.free 0
    have fpr1 := hpr_2.out.free 1
    have fpr2 := hpr_2.out.free 2
    have fpr3 := hpr_2.out.free 3
    have fpr4 := hpr_2.out.free 4
    have hp00' := hp0_2.out.cell 0
    have hp01' := hp0_2.out.cell 1
    simp at hpr0' hpr1' hpr2' hpr3' hpr4' hp00' hp01'
    go_wp2_with fail
    refine bodyPost_ret (v := .tuple #[.agg #[.int .i64 0, .int .i64 0, .slice none 0 0, .slice none 0 0, .slice none 0 0], .bool false]) (by simp [results, Try.results55, hpr0', hpr1', hpr2', hpr3', hpr4', go_sem]) rfl ?_
    exact HZ.out
  by_cases hk16 : 16 < k
  case pos =>
    have HZ : Hid (SearchEnd ⟨p, k, la, lb, lc⟩ (dualP ⟨p, k, la, lb, lc⟩) w (((((w2.setCell ⟨w.heap.size + 1, 0, none⟩ (.int .i64 0)).setCell ⟨w.heap.size + 1, 1, none⟩ (.int .i64 0)).setCell ⟨w.heap.size + 1, 2, none⟩ (.slice none 0 0)).setCell ⟨w.heap.size + 1, 3, none⟩ (.slice none 0 0)).setCell ⟨w.heap.size + 1, 4, none⟩ (.slice none 0 0)) (.returned (.tuple #[.agg #[.int .i64 0, .int .i64 0, .slice none 0 0, .slice none 0 0, .slice none 0 0], .bool false]))) := searchEnd_zero (fun q => by have := q.2.2; simp only at this; omega) (below_store5 BW_2.out (by omega) _ _ _ _ _)
    have hpr0' := hpr_2.out.cell 0
    have hpr1' := hpr_2.out.cell 1
    have hpr2' := hpr_2.out.cell 2
    have hpr3' := hpr_2.out.cell 3
    have hpr4' := hpr_2.out.cell 4
    have fpr0 := hpr_2.out.free 0
    have fpr1 := hpr_2.out.free 1
    have fpr2 := hpr_2.out.free 2
    have fpr3 := hpr_2.out.free 3
    have fpr4 := hpr_2.out.free 4
    have hp00' := hp0_2.out.cell 0
    have hp01' := hp0_2.out.cell 1
    simp at hpr0' hpr1' hpr2' hpr3' hpr4' hp00' hp01'
    go_wp2_with fail
    refine bodyPost_ret (v := .tuple #[.agg #[.int .i64 0, .int .i64 0, .slice none 0 0, .slice none 0 0, .slice none 0 0], .bool false]) (by simp [results, Try.results55, hpr0', hpr1', hpr2', hpr3', hpr4', go_sem]) rfl ?_
    exact HZ.out
  have HF : Hid (Fits ⟨p, k, la, lb, lc⟩) := ⟨HOK.out, by simp only; omega, by simp only; omega⟩
  obtain ⟨P, K, hP, hK, _, _, hla, hlb, hlc⟩ := HOK.out.nats
  simp only at hP hK hla hlb hlc
  subst hP hK
  have HL : Hid (n = P * K) := by rw [← HI2.out.1.1]; exact hla
  obtain rfl : P = m := by rw [← HI2.out.2.1.1]; exact hlb.symm
  obtain rfl : K = l := by rw [← HI2.out.2.2.1]; exact hlc.symm
  have HE : Hid (Ent la) := HOK.out.1.2.2.2
  have HEB : Hid (Ent lb) := HOK.out.2.1.2
  have HEC : Hid (Ent lc) := HOK.out.2.2.2
  have hP9 : P ≤ 9 := by omega
  have hK16 : K ≤ 16 := by omega
  clear hla hlb hlc HQ HOK
  have eL0 := XL.out.cell 0
  have eL1 := XL.out.cell 1
  have eL2 := XL.out.cell 2
  have eL3 := XL.out.cell 3
  have eL4 := XL.out.cell 4
  have hp00' := hp0_2.out.cell 0
  have hp01' := hp0_2.out.cell 1
  simp at eL0 eL1 eL2 eL3 eL4 hp00' hp01'
  go_wp2_with fail
  clear eL0 eL1 eL2 eL3 eL4 hp00' hp01'
  refine (impl_dualSearch P K A n c la B d lb C f lc _ HI2.out.1 HI2.out.2.1 HI2.out.2.2 HL.out hP9 hK16 HE.out hc).mono ?_
  rintro e w3 ⟨A1, c1, B1, d1, C1, f1, rfl, ho, hb⟩
  have hpr_3 := Lib.hid (hpr_2.out.below hb hpr_2.out.lt)
  have BW_3 := Lib.hid (BW_2.out.trans (hb.mono BW_2.out.size))
  have HZ : Hid (SearchEnd ⟨(P : Int), (K : Int), la, lb, lc⟩ (dualP ⟨(P : Int), (K : Int), la, lb, lc⟩) w (((((w3.setCell ⟨w.heap.size + 1, 0, none⟩ (.int .i64 K)).setCell ⟨w.heap.size + 1, 1, none⟩ (.int .i64 (2 * (P : Int) + (K : Int)))).setCell ⟨w.heap.size + 1, 2, none⟩ (.slice A1 (frows K la P K).length c1)).setCell ⟨w.heap.size + 1, 3, none⟩ (.slice B1 K d1)).setCell ⟨w.heap.size + 1, 4, none⟩ (.slice C1 (P + P + K) f1)) (.returned (.tuple #[.agg #[.int .i64 K, .int .i64 (2 * (P : Int) + (K : Int)), .slice A1 (frows K la P K).length c1, .slice B1 K d1, .slice C1 (P + P + K) f1], .bool true]))) := by
    have hla := ent_frows (K := K) HE.out P K
    have hNA : (frows K la P K).length ≤ 544 := frows_le (Nat.le_refl _) hP9 hK16
    have hsz2 := BW_2.out.size
    refine searchEnd_of (base := w2.heap.size) (p := (K : Int)) (k := 2 * (P : Int) + (K : Int)) (la := frows K la P K) (lb := lc) (lc := wneg lb ++ wneg (wneg lb) ++ List.replicate K 0) (n := (frows K la P K).length) (m := K) (l := P + P + K) HF.out (by rw [wneg_ent HEB.out, wneg_ent HEB.out.ineg, ineg_ineg]; simp [dualP]) ?_ (by omega) (by omega) (by omega) (by omega) ?_ ?_ ?_ (below_store5 BW_3.out (by omega) _ _ _ _ _)
    · exact PM.own (pm_store5 hpr_3.out ho _ _)
    · exact hla.i64
    · exact HEC.out.i64
    · rw [wneg_ent HEB.out, wneg_ent HEB.out.ineg]; exact ((HEB.out.ineg.append HEB.out.ineg.ineg).append (ent_zeros K)).i64
  clear ho hb
  have hpr0' := hpr_3.out.cell 0
  have hpr1' := hpr_3.out.cell 1
  have hpr2' := hpr_3.out.cell 2
  have hpr3' := hpr_3.out.cell 3
  have hpr4' := hpr_3.out.cell 4
  have fpr0 := hpr_3.out.free 0
  have fpr1 := hpr_3.out.free 1
  have fpr2 := hpr_3.out.free 2
  have fpr3 := hpr_3.out.free 3
  have fpr4 := hpr_3.out.free 4
  simp at hpr0' hpr1' hpr2' hpr3' hpr4'
  go_wp2_with fail
  refine bodyPost_ret (v := .tuple #[.agg #[.int .i64 K, .int .i64 (2 * (P : Int) + (K : Int)), .slice A1 (frows K la P K).length c1, .slice B1 K d1, .slice C1 (P + P + K) f1], .bool true]) (by simp [results, Try.results55, hpr0', hpr1', hpr2', hpr3', hpr4', go_sem]) rfl ?_
  exact HZ.out
set_option maxHeartbeats 12800000 in
theorem impl_dualProgram0 (p k : Int) (A : Option Addr) (n c : Nat) (la : List Int) (B : Option Addr) (m d : Nat) (lb : List Int) (C : Option Addr) (l f : Nat) (lc : List Int) (w : World) (h : InP w A n la B m lb C l lc) (hc : n ≤ c) :
    Calls Try.prog 22 #[.agg #[.int .i64 p, .int .i64 k, .slice A n c, .slice B m d, .slice C l f]] w fun e w' => ProgEnd (SearchIs ⟨p, k, la, lb, lc⟩ (dualP ⟨p, k, la, lb, lc⟩)) w w' e := by
  obtain ⟨W0, hW0⟩ : ∃ W, W = ((w.alloc (.cells #[.int .i64 p, .int .i64 k, .slice A n c, .slice B m d, .slice C l f] 26)).alloc (.cells #[.int .i64 0, .int .i64 0, .slice none 0 0, .slice none 0 0, .slice none 0 0] 26)) := ⟨_, rfl⟩
  have hp0_0 : Hid (Box W0 (w.heap.size) 26 #[.int .i64 p, .int .i64 k, .slice A n c, .slice B m d, .slice C l f]) := by rw [hW0]; exact ((Box.at' (by simp)).alloc _)
  have hpr_0 : Hid (Box W0 (w.heap.size + 1) 26 #[.int .i64 0, .int .i64 0, .slice none 0 0, .slice none 0 0, .slice none 0 0]) := by rw [hW0]; exact (Box.at' (by simp))
  have BW_0 : Hid (Below w.heap.size w W0) := by rw [hW0]; exact (((Below.refl w.heap.size w).alloc (by simp) _).alloc (by simp) _)
  have hsz0 : w.heap.size + 1 + 1 ≤ W0.heap.size := by rw [hW0]; simp
  have HI := Lib.hid (h.below BW_0.out)
  clear h
  go_enter Try.func22, Try.ntmps22
  go_upto_region 1 with fail
  rw [← hW0]
  clear hW0
  have ehp00 := hp0_0.out.cell 0
  have ehp01 := hp0_0.out.cell 1
  have ehp02 := hp0_0.out.cell 2
  have ehp03 := hp0_0.out.cell 3
  have ehp04 := hp0_0.out.cell 4
  simp at ehp00 ehp01 ehp02 ehp03 ehp04
  go_wp2_with fail
  clear ehp00 ehp01 ehp02 ehp03 ehp04
  refine (impl_searchForDual p k A n c la B m d lb C l f lc _ HI.out hc).mono ?_
  rintro e w1 ⟨p', k', la', v, lb', u, lc', t, b, rfl, hq, _, ho, hb⟩
  obtain ⟨A1, c1, rfl⟩ := own_slice ho.1.2
  obtain ⟨A2, c2, rfl⟩ := own_slice ho.2.1.2
  obtain ⟨A3, c3, rfl⟩ := own_slice ho.2.2.1.2
  have hpr_1 := Lib.hid (hpr_0.out.below hb hpr_0.out.lt)
  have BW_1 := Lib.hid (BW_0.out.trans (hb.mono BW_0.out.size))
  clear hb
  have HZ : Hid (ProgEnd (SearchIs ⟨p, k, la, lb, lc⟩ (dualP ⟨p, k, la, lb, lc⟩)) w ((((((w1.alloc (.cells #[.int .i64 p', .int .i64 k', .slice A1 la'.length c1, .slice A2 lb'.length c2, .slice A3 lc'.length c3] 26)).setCell ⟨w.heap.size + 1, 0, none⟩ (.int .i64 p')).setCell ⟨w.heap.size + 1, 1, none⟩ (.int .i64 k')).setCell ⟨w.heap.size + 1, 2, none⟩ (.slice A1 la'.length c1)).setCell ⟨w.heap.size + 1, 3, none⟩ (.slice A2 lb'.length c2)).setCell ⟨w.heap.size + 1, 4, none⟩ (.slice A3 lc'.length c3)) (.returned (.agg #[.int .i64 p', .int .i64 k', .slice A1 la'.length c1, .slice A2 lb'.length c2, .slice A3 lc'.length c3]))) := by
    have hr := hpr_1.out.alloc (.cells #[.int .i64 p', .int .i64 k', .slice A1 la'.length c1, .slice A2 lb'.length c2, .slice A3 lc'.length c3] 26)
    have hsz := BW_0.out.size
    refine ⟨p', k', la', _, lb', _, lc', _, rfl, hq, (((ho.below ((Below.refl _ _).alloc (Nat.le_refl _) _)).boxed hr (by omega))), below_store5 (BW_1.out.alloc BW_1.out.size _) (by omega) _ _ _ _ _⟩
  clear ho hq
  have hpr_2 := Lib.hid (hpr_1.out.alloc (.cells #[.int .i64 p', .int .i64 k', .slice A1 la'.length c1, .slice A2 lb'.length c2, .slice A3 lc'.length c3] 26))
  have hpr0' := hpr_2.out.cell 0
  have hpr1' := hpr_2.out.cell 1
  have hpr2' := hpr_2.out.cell 2
  have hpr3' := hpr_2.out.cell 3
  have hpr4' := hpr_2.out.cell 4
  have fpr0 := hpr_2.out.free 0
  have fpr1 := hpr_2.out.free 1
  have fpr2 := hpr_2.out.free 2
  have fpr3 := hpr_2.out.free 3
  have fpr4 := hpr_2.out.free 4
  simp at hpr0' hpr1' hpr2' hpr3' hpr4'
  go_wp2_with fail
  refine bodyPost_ret (v := .agg #[.int .i64 p', .int .i64 k', .slice A1 la'.length c1, .slice A2 lb'.length c2, .slice A3 lc'.length c3]) (by simp [results, Try.results22, hpr0', hpr1', hpr2', hpr3', hpr4', go_sem]) rfl ?_
  exact HZ.out
end Go.Proofs.Ytcmbfgaojlnjcaa
