/- A contract of the model's MakeNat: a natural number of at most three limbs, in memory of its own. -/
import Derived.Test.YteghhaefpbkjnaaDoorCur
import Derived.Test.YteghhaefpbkjnaaDoorNat
import Derived.Test.YteghhaefpbkjnaaDoorApp
import Derived.Test.YteghhaefpbkjnaaDoorIm3
namespace Go.Proofs.YteghhaefpbkjnaaDoor
open Go.RowKit

theorem ints_one (l : List Int) : ∀ u ∈ l.map (Value.int .i64), u.oneCell' = true := by simp [Value.oneCell']
/-- A small natural number. -/
def Small3 (rs : List Int) : Prop := Canon rs ∧ rs.length ≤ 3
set_option maxHeartbeats 1600000 in
theorem spec_makeNat (A : Option Addr) (n c m : Nat) (w : World) (hn : n ≤ 1048576) (hm : m ≤ 1000000) (hby : BytesIn w w.heap.size A n) :
    Calls Tryd.prog 5 #[.slice A n c, .int .i64 (m : Int)] w fun e w' => BinEnd Small3 w w' e := by
  obtain ⟨i0, hi, hz0, hz1, hz2⟩ := info_parts Tryd.infoI
  have Hby := Lib.hid hby
  clear hby
  go_enter Tryd.func5, Tryd.ntmps5
  go_wp2_with fail
  refine (spec_new32 A n c m _ hn hm Hby.out).mono ?_
  rintro e w1 ⟨g, rfl, hg, hcur, hb⟩
  have Hc := Lib.hid (hcur.below ((Below.refl w1.heap.size w1).alloc (Nat.le_refl _) (.cells #[] 3)))
  have Hb := Lib.hid (hb.alloc hb.size (.cells #[] 3))
  have hg1 := hcur.lt
  obtain ⟨L, hL⟩ : ∃ L, L = w1.heap.size := ⟨_, rfl⟩
  have hgL : g < L := by omega
  have hwL : w.heap.size ≤ L := by have := hb.size; omega
  have HL := Lib.hid hL
  have O0 : Hid ((w1.alloc (.cells #[] 3)).ownsRow L 3 1 (.slice (some ⟨w1.heap.size, 0, none⟩) 0 0) 0 (([] : List Int).map (.int .i64))) := World.ownsRow_lit w1 #[] 0 (by omega) (by simp) (by simp)
  clear hcur hb hL hg1
  go_wp2_with fail
  refine (spec_below 4 w.heap.size g _ (by omega) (by omega) Hc.out).mono ?_
  rintro e w2 ⟨⟨x, rfl, hx0, hx1⟩, hc2, hg2⟩
  have C2 := Lib.hid hc2
  have B2 := Lib.hid (Hb.out.grown hg2 Hb.out.size (fun j hj => by cases hj; exact hg))
  have O2 := Lib.hid (O0.out.kept hg2 (.inr (fun e => by have := (O0.out.lt g e).1; omega)))
  have S2 : L ≤ w2.heap.size := by have := hg2.size; simp at this; have := HL.out; omega
  clear hc2 hg2 O0
  go_wp2_with fail
  go_loopw [6, 7] (fun u y wr => ∃ (k : Int) (r : List Int), 0 ≤ k ∧ k + r.length ≤ 3 ∧ y = .int .i64 k ∧ Hid (InR r) ∧ Hid (wr.ownsRow L 3 1 u r.length (r.map (.int .i64))) ∧ Hid (Cur wr w.heap.size g) ∧ Hid (Below w.heap.size w wr) ∧ L ≤ wr.heap.size) (fun _ y _ => (intOf y).toNat)
  case atStart => exact ⟨x, [], hx0, by simp; omega, rfl, InR.nil, O2, C2, B2, S2⟩
  case round =>
    obtain ⟨k, r, hk0, hk3, rfl, hin, ho, hc, hbr, hLr⟩ := hrel
    obtain ⟨N, hN⟩ : ∃ N, N = r.length := ⟨_, rfl⟩
    rw [← hN] at ho hk3
    have HN := Lib.hid hN
    clear hN
    by_cases hlt : 0 < k
    · go_wp2_with fail
      refine (spec_below 1000 w.heap.size g _ (by omega) (by omega) hc.out).mono ?_
      rintro e w3 ⟨⟨p, rfl, hp0, hp1⟩, hc3, hg3⟩
      have C3 := Lib.hid hc3
      have B3 := Lib.hid (hbr.out.grown hg3 hbr.out.size (fun j hj => by cases hj; exact hg))
      have O3 := Lib.hid (ho.out.kept hg3 (.inr (fun e => by have := (ho.out.lt g e).1; omega)))
      have S3 : L ≤ w3.heap.size := Nat.le_trans hLr hg3.size
      clear hc3 hg3
      go_wp2_with fail
      refine (spec_below 1000 w.heap.size g _ (by omega) (by omega) C3.out).mono ?_
      rintro e w4 ⟨⟨q, rfl, hq0, hq1⟩, hc4, hg4⟩
      have C4 := Lib.hid hc4
      have B4 := Lib.hid (B3.out.grown hg4 B3.out.size (fun j hj => by cases hj; exact hg))
      have O4 := Lib.hid (O3.out.kept hg4 (.inr (fun e => by have := (O3.out.lt g e).1; omega)))
      have S4 : L ≤ w4.heap.size := Nat.le_trans S3 hg4.size
      have hnx : Hid (InR (r ++ [p * 1000000 + q])) := hin.out.append (InR.one (by omega) (by omega))
      have h63 : N + 1 ≤ maxLen := by unfold maxLen; omega
      have hby8 : (N + 1) * 8 ≤ 140737488355328 := by omega
      clear hc4 hg4
      go_wp2_with (at_builtin; refine wpList_append_own _ rfl _ _ 23 rfl L 3 i0 (.int .i64 0) 1 8 Tryd.underlying23 hi hz0 hz1 hz2 rfl (by decide) _ _ _ rfl (O4.out.alloc _) ⟨w4.heap.size, 0, none⟩ 1 1 [.int .i64 (p * 1000000 + q)] rfl rfl (cell_one_new _ _ _) (by simp [Value.oneCell']) h63 hby8 (by simp; omega) ?_)
      intro v' w5 hown hg5 _
      have O5 : Hid (w5.ownsRow L 3 1 v' (r ++ [p * 1000000 + q]).length ((r ++ [p * 1000000 + q]).map (.int .i64))) := by
        unfold Hid; rw [List.length_append, ← HN.out]; simpa using hown
      have C5 := Lib.hid ((C4.out.below ((Below.refl w4.heap.size w4).alloc (Nat.le_refl _) (.cells #[.int .i64 (p * 1000000 + q)] 3))).moved hg5 (fun j hj => by have := (O4.out.lt j hj).1; omega) (by omega))
      have B5 := Lib.hid ((B4.out.alloc B4.out.size _).grown hg5 (by have := B4.out.size; simp; omega) (fun j hj => by have := (O4.out.lt j hj).1; omega))
      have S5 : L ≤ w5.heap.size := by have := hg5.size; simp at this; omega
      clear hown hg5
      go_wp2_with fail
      go_roundw
      case rel => exact ⟨k - 1, _, by omega, by rw [List.length_append, ← HN.out]; simp; omega, rfl, hnx, O5, C5, B5, S5⟩
      case measure => simp [intOf]; omega
    · obtain ⟨A9, c9, rfl⟩ := own_slice ho.out
      have szr := hbr.out.size
      have B6 := Lib.hid (hbr.out.alloc szr (.cells #[] 3))
      have O6 := Lib.hid (own_below ho.out ((Below.refl wr.heap.size wr).alloc (Nat.le_refl _) (.cells #[] 3)))
      go_wp2_with fail
      refine (spec_trim L A9 N c9 r _ HN.out.symm (by omega) O6.out).mono ?_
      rintro e w7 ⟨⟨q, rfl, hq⟩, rfl⟩
      have hqN : q ≤ N := by have := hq.1; rwa [← HN.out] at this
      have hcan := hq.canon hin.out
      have hlen : Hid (((r.take q).map (Value.int .i64)).length = q) := by unfold Hid; rw [List.length_map, List.length_take, ← HN.out]; omega
      have hrd : Hid (Reads (wr.alloc (.cells #[] 3)) A9 ((r.take q).map (.int .i64))) := by
        have h1 := Reads.of_own (own_take O6.out hqN)
        unfold Hid; rw [List.map_take]; exact h1
      have h63 : 0 + q ≤ maxLen := by unfold maxLen; omega
      have hby8 : (0 + q) * 8 ≤ 140737488355328 := by omega
      have hbs : w.heap.size ≤ (wr.alloc (.cells #[] 3)).heap.size := by simp; omega
      have Hcan := Lib.hid hcan
      clear hq hcan
      go_wp2_with (at_builtin; refine wpList_append_reads rfl _ _ 23 rfl w.heap.size 3 i0 (.int .i64 0) 8 Tryd.underlying23 hi hz0 hz1 hz2 rfl _ _ _ rfl (World.ownsRow_lit wr #[] 0 szr (by simp) (by simp)) A9 q c9 ((r.take q).map (.int .i64)) rfl hlen.out hrd.out (ints_one _) h63 hby8 hbs ?_)
      intro v' w8 hown hg8
      have hfin : Hid (BinEnd Small3 w w8 (.returned v')) := by
        have hl := hlen.out
        rw [List.length_map] at hl
        refine ⟨r.take q, v', rfl, ⟨Hcan.out.1, by omega⟩, ⟨by omega, by rw [hl]; simpa using hown⟩, ?_⟩
        exact B6.out.grown hg8 hbs (fun j hj => by simp [Value.ownBlock] at hj; omega)
      clear hown hg8
      go_wp2_with fail
      go_ret
      exact hfin.out
end Go.Proofs.YteghhaefpbkjnaaDoor
