/- Contracts of the program's natural numbers: what is one, the way from int, comparisons. -/
import Derived.Test.YtjggdbakbhacjaaNat4
namespace Go.Proofs.Ytjggdbakbhacjaa
set_option maxRecDepth 100000
open Go.RowKit

set_option maxHeartbeats 800000 in
theorem impl_natOk' (A : Option Addr) (n c : Nat) (xs : List Int) (w : World) (h : InI w A n xs) :
    Calls Try.prog 100 #[.slice A n c] w fun e w' => OkEnd xs e ∧ w = w' := by
  obtain ⟨hlen, hn, hr, _⟩ := h
  have Hlen := Lib.hid hlen
  have Hr := Lib.hid hr
  clear hlen hr
  by_cases h60 : 60 < (n : Int)
  · have hfin := Lib.hid (okNo (xs := xs) (fun h => by have := h.2; rw [Hlen.out] at this; omega))
    go_enter Try.func100, Try.ntmps100
    go_wp2_with fail
    go_ret
    exact ⟨hfin.out, rfl⟩
  go_enter Try.func100, Try.ntmps100
  go_wp2_with fail
  go_loop [4, 10] (fun _ y => ∃ k : Nat, k ≤ n ∧ y = .int .i64 k ∧ Hid (InR (xs.take k))) (fun _ y => n - (intOf y).toNat)
  case atStart => exact ⟨0, Nat.zero_le _, rfl, by simpa using Lib.hid InR.nil⟩
  case round =>
    obtain ⟨k, hk, rfl, hin⟩ := hrel
    by_cases hlt : k < n
    · have hkx : k < xs.length := by rw [Hlen.out]; exact hlt
      obtain ⟨b, o, rfl, hb, hc⟩ := Hr.out.at_ (by simp; omega)
      obtain ⟨z, hz⟩ : ∃ z, z = xs[k] := ⟨_, rfl⟩
      have hcell : w.cell? ⟨b, o + k, none⟩ = some (.int .i64 z) := (hc k (by simpa using hkx)).trans (by simp [hz])
      have hi0 : (0 : Int) ≤ (k : Int) := by omega
      have hi1 : (k : Int) < (n : Int) := by omega
      have Hz := Lib.hid hz
      clear hc hz
      by_cases hneg : z < 0
      · have hfin := Lib.hid (okNo (xs := xs) (fun h => not_inR hkx (by rw [← Hz.out]; omega) h.1.1))
        go_wp2_with fail
        go_ret
        exact ⟨hfin.out, rfl⟩
      · by_cases hbig : 1000000000 ≤ z
        · have hfin := Lib.hid (okNo (xs := xs) (fun h => not_inR hkx (by rw [← Hz.out]; omega) h.1.1))
          go_wp2_with fail
          go_ret
          exact ⟨hfin.out, rfl⟩
        · have hnx : Hid (InR (xs.take (k + 1))) := hin.out.snoc_take hkx (by rw [← Hz.out]; omega) (by rw [← Hz.out]; omega)
          go_wp2_with fail
          go_round
          case rel => exact ⟨k + 1, by omega, by go_num, hnx⟩
          case measure => simp [intOf]; omega
    · obtain rfl : k = n := by omega
      have hall : Hid (InR xs) := by have := hin.out; rwa [List.take_of_length_le (by rw [Hlen.out]; exact Nat.le_refl _)] at this
      by_cases h0 : k = 0
      · have hfin := Lib.hid (okYes (xs := xs) ⟨⟨hall.out, by rw [List.eq_nil_of_length_eq_zero (Hlen.out.trans h0)]; simp⟩, by rw [Hlen.out]; omega⟩)
        subst h0
        go_wp2_with fail
        go_ret
        exact ⟨hfin.out, rfl⟩
      · obtain ⟨m, rfl⟩ : ∃ m, k = m + 1 := ⟨k - 1, by omega⟩
        have hmx : m < xs.length := by rw [Hlen.out]; omega
        obtain ⟨b, o, rfl, hb, hc⟩ := Hr.out.at_ (by simp; omega)
        obtain ⟨z, hz⟩ : ∃ z, z = xs[m] := ⟨_, rfl⟩
        have hcell : w.cell? ⟨b, o + m, none⟩ = some (.int .i64 z) := (hc m (by simpa using hmx)).trans (by simp [hz])
        have hla := last_at Hlen.out
        rw [← hz] at hla
        have hne : (((m + 1 : Nat) : Int) == 0) = false := by simp; omega
        have hne2 : ((m : Int) + 1 == 0) = false := by simp; omega
        clear hc hz h0
        by_cases hz0 : z = 0
        · have hfin := Lib.hid (okNo (xs := xs) (fun h => h.1.2 (by rw [hla, hz0])))
          subst hz0
          clear hla
          go_wp2_with fail
          go_ret
          exact ⟨hfin.out, rfl⟩
        · have hfin := Lib.hid (okYes (xs := xs) ⟨⟨hall.out, by rw [hla]; simpa using hz0⟩, by rw [Hlen.out]; omega⟩)
          have hz1 : (z == 0) = false := by simpa using hz0
          have hz2 : (z != 0) = true := by simpa using hz0
          clear hla hz0
          go_wp2_with fail
          go_ret
          exact ⟨hfin.out, rfl⟩
theorem impl_natOk (A : Option Addr) (n c : Nat) (xs : List Int) (w : World) (h : InI w A n xs) :
    Calls Try.prog 100 #[.slice A n c] w fun e w' => ∃ b, e = .returned (.bool b) ∧ NatOkIs xs b ∧ Below w.heap.size w w' :=
  (impl_natOk' A n c xs w h).mono fun _ _ ⟨⟨b, he, hi⟩, hw⟩ => ⟨b, he, hi, by subst hw; exact Below.refl _ _⟩

set_option maxHeartbeats 400000 in
theorem impl_natOf (n : Int) (w : World) (hn : -9223372036854775808 ≤ n ∧ n ≤ 9223372036854775807) :
    Calls Try.prog 50 #[.int .i64 n] w fun e w' => ∃ rs v, e = .returned v ∧ NatOfIs n rs ∧ ResI w w' v rs ∧ Below w.heap.size w w' := by
  obtain ⟨i0, hi, hz0, hz1, hz2⟩ := info_parts Try.infoI
  by_cases hneg : n < 0
  · have hfin : Hid (NatOfIs n []) := ⟨canon_nil, by rw [if_pos (by omega)]; rfl⟩
    have hnp : ¬ 0 < n := by omega
    go_enter Try.func50, Try.ntmps50
    go_wp2_with fail
    refine wp_loop_rounds 1 ?_
    rw [rounds_succ]
    go_wp2_with fail
    go_ret
    exact ⟨[], _, rfl, hfin.out, ⟨by simp, World.ownsRow_nil _ _ _ _⟩, Below.refl _ _⟩
  go_enter Try.func50, Try.ntmps50
  go_wp2_with fail
  go_loopw [0, 3] (fun x y wr => ∃ (k : Int) (r : List Int), 0 ≤ k ∧ k ≤ n ∧ x = .int .i64 k ∧ Hid (OfAt n k r) ∧ Hid (wr.ownsRow w.heap.size 3 1 y r.length (r.map (.int .i64))) ∧ Hid (Below w.heap.size w wr)) (fun x _ _ => (intOf x).toNat)
  case atStart => exact ⟨n, [], by omega, Int.le_refl _, rfl, ⟨InR.nil, by simp [val, pw], by omega, fun _ => by simp, by simp⟩, World.ownsRow_nil _ _ _ _, Below.refl _ _⟩
  case round =>
    obtain ⟨k, r, hk0, hkn, rfl, hat, ho, hb⟩ := hrel
    have hl3 := hat.out.2.2.2.2
    by_cases hlt : 0 < k
    · have hnx := Lib.hid (hat.out.step hlt hn.2)
      obtain ⟨N, hN⟩ : ∃ N, N = r.length := ⟨_, rfl⟩
      rw [← hN] at ho hl3
      have HN := Lib.hid hN
      clear hN
      go_wp2_with (at_builtin; refine wpList_append_own _ rfl _ _ 22 rfl w.heap.size 3 i0 (.int .i64 0) 1 8 Try.underlying22 hi hz0 hz1 hz2 rfl (by decide) _ _ _ rfl (ho.out.alloc _) ⟨wr.heap.size, 0, none⟩ 1 1 [.int .i64 (k % 1000000000)] rfl rfl ?c1 ?c2 ?c3 ?c4 ?c5 ?_)
      case c1 => exact cell_one_new _ _ _
      case c2 => simp [Value.oneCell']
      case c3 => unfold maxLen; omega
      case c4 => omega
      case c5 => have := hb.out.size; simp; omega
      intro v' w1 hown hg _
      have hb1 := Lib.hid ((hb.out.alloc hb.out.size _).grown hg (by have := hb.out.size; simp; omega) (fun j hj => (ho.out.lt j hj).1))
      have ho1 : Hid (w1.ownsRow w.heap.size 3 1 v' (r ++ [k % 1000000000]).length ((r ++ [k % 1000000000]).map (.int .i64))) := by
        unfold Hid; rw [List.length_append, ← HN.out]; simpa using hown
      clear hown hg
      go_wp2_with fail
      go_roundw
      case rel => exact ⟨k / 1000000000, r ++ [k % 1000000000], by omega, by omega, rfl, hnx, ho1, hb1⟩
      case measure => simp [intOf]; omega
    · obtain rfl : k = 0 := by omega
      have hfin := Lib.hid hat.out.done
      go_wp2_with fail
      go_ret
      exact ⟨r, _, rfl, hfin.out, ⟨by omega, ho.out⟩, hb.out⟩

theorem quiet_left {P : Program} {f : FuncId} {args : Array Value} {w : World} {n : Nat} {v : Value}
    (h : Calls P f args (w.drewN n) fun e w' => e = .returned v ∧ w.drewN n = w') : Calls P f args (w.drewN n) fun e w'' => e = .returned v ∧ ∃ m, w'' = w.drewN m :=
  h.mono fun _ _ ⟨he, hm⟩ => ⟨he, n, hm.symm⟩
theorem quiet_add_left {P : Program} {f : FuncId} {args : Array Value} {w : World} {a n : Nat} {v : Value}
    (h : Calls P f args (w.drewN (a + n)) fun e w' => e = .returned v ∧ w.drewN (a + n) = w') :
    Calls P f args (w.drewN (a + n)) fun e w'' => e = .returned v ∧ ∃ m, w'' = w.drewN (a + m) :=
  h.mono fun _ _ ⟨he, hm⟩ => ⟨he, n, hm.symm⟩
theorem isNaN_any (x : Int) (w : World) : Calls Try.prog 169 #[.int .i64 x] w fun e w' => e = .returned (.bool false) ∧ w = w' := by
  have h : (x != x) = false := by simp
  go_enter Try.func169, Try.ntmps169
  go_wp2_with fail
  go_ret
  exact ⟨ret_bool (by simp), rfl⟩
theorem compare_lt (x y : Int) (h : x < y) (w : World) : Calls Try.prog 167 #[.int .i64 x, .int .i64 y] w fun e w' => e = .returned (.int .i64 (-1)) ∧ w = w' := by
  go_enter Try.func167, Try.ntmps167
  go_wp2_with ((with_reducible refine (isNaN_any _ _).mono ?_); rintro e w' ⟨rfl, rfl⟩)
  go_ret
  exact ⟨rfl, rfl⟩
theorem compare_gt (x y : Int) (h : y < x) (w : World) : Calls Try.prog 167 #[.int .i64 x, .int .i64 y] w fun e w' => e = .returned (.int .i64 1) ∧ w = w' := by
  have h2 : ¬ x < y := by omega
  go_enter Try.func167, Try.ntmps167
  go_wp2_with ((with_reducible refine (isNaN_any _ _).mono ?_); rintro e w' ⟨rfl, rfl⟩)
  go_ret
  exact ⟨rfl, rfl⟩

set_option maxHeartbeats 800000 in
theorem impl_cmp (A1 : Option Addr) (n1 c1 : Nat) (xs : List Int) (A2 : Option Addr) (n2 c2 : Nat) (ys : List Int) (w : World) (h1 : xs.length = n1 ∧ n1 ≤ 1048576 ∧ Reads w A1 (xs.map (.int .i64))) (h2 : ys.length = n2 ∧ n2 ≤ 1048576 ∧ Reads w A2 (ys.map (.int .i64))) (k1 : Canon xs) (k2 : Canon ys) :
    Calls Try.prog 159 #[.slice A1 n1 c1, .slice A2 n2 c2] w fun e w' => CmpEnd xs ys e ∧ Below w.heap.size w w' := by
  obtain ⟨hn1, hb1, hr1⟩ := h1
  obtain ⟨hn2, hb2, hr2⟩ := h2
  have Hn1 := Lib.hid hn1
  have Hn2 := Lib.hid hn2
  have Hr1 := Lib.hid hr1
  have Hr2 := Lib.hid hr2
  have K1 := Lib.hid k1
  have K2 := Lib.hid k2
  by_cases hlt : (n1 : Int) < n2
  · have hfin : Hid (CmpEnd xs ys (.returned (.int .i64 (-1)))) := by unfold Hid CmpEnd; rw [cmpV_lt (shorter_lt k1.1 k2 (by omega))]
    have hne : ((n1 : Int) == n2) = false := by simp; omega
    have hne2 : ((n1 : Int) != n2) = true := by simp; omega
    clear hn1 hn2 hr1 hr2 k1 k2
    go_enter Try.func159, Try.ntmps159
    go_wp2_with ((with_reducible refine (compare_lt _ _ hlt _).mono ?_); rintro e w' ⟨rfl, rfl⟩)
    go_ret
    exact ⟨hfin.out, Below.refl _ _⟩
  by_cases hgt : (n2 : Int) < n1
  · have hfin : Hid (CmpEnd xs ys (.returned (.int .i64 1))) := by unfold Hid CmpEnd; rw [cmpV_gt (shorter_lt k2.1 k1 (by omega))]
    have hne : ((n1 : Int) == n2) = false := by simp; omega
    have hne2 : ((n1 : Int) != n2) = true := by simp; omega
    clear hn1 hn2 hr1 hr2 k1 k2
    go_enter Try.func159, Try.ntmps159
    go_wp2_with ((with_reducible refine (compare_gt _ _ hgt _).mono ?_); rintro e w' ⟨rfl, rfl⟩)
    go_ret
    exact ⟨hfin.out, Below.refl _ _⟩
  obtain rfl : n1 = n2 := by omega
  clear hn1 hn2 hr1 hr2 k1 k2 hlt hgt
  go_enter Try.func159, Try.ntmps159
  go_wp2_with fail
  go_loopw [5, 6, 19] (fun _ _ x wr => ∃ k j : Nat, wr = w.drewN j ∧ k ≤ n1 ∧ x = .int .i64 k ∧ Hid (xs.drop (n1 - k) = ys.drop (n1 - k))) (fun _ _ x _ => n1 - (intOf x).toNat)
  case atStart => exact ⟨0, 0, rfl, Nat.zero_le _, rfl, by unfold Hid; rw [List.drop_eq_nil_of_le (by rw [Hn1.out]; omega), List.drop_eq_nil_of_le (by rw [Hn2.out]; omega)]⟩
  case round =>
    obtain ⟨k, j, rfl, hk, rfl, hd⟩ := hrel
    by_cases h0 : k = n1
    · have hfin : Hid (CmpEnd xs ys (.returned (.int .i64 0))) := by
        have := hd.out
        rw [h0, Nat.sub_self, List.drop_zero, List.drop_zero] at this
        unfold Hid CmpEnd; rw [this, cmpV_eq rfl]
      subst h0
      go_wp2_with fail
      go_ret
      exact ⟨hfin.out, below_drewN (Below.refl _ _) _⟩
    · obtain ⟨i, hi⟩ : ∃ i, n1 - k = i + 1 := ⟨n1 - k - 1, by omega⟩
      have hdi := hd.out
      rw [hi] at hdi
      have hix : i < xs.length := by rw [Hn1.out]; omega
      have hiy : i < ys.length := by rw [Hn2.out]; omega
      obtain ⟨b1, o1, rfl, hbs1, hc1⟩ := Hr1.out.at_ (by simp; omega)
      obtain ⟨b2, o2, rfl, hbs2, hc2⟩ := Hr2.out.at_ (by simp; omega)
      obtain ⟨x, hx⟩ : ∃ x, x = xs[i] := ⟨_, rfl⟩
      obtain ⟨y, hy⟩ : ∃ y, y = ys[i] := ⟨_, rfl⟩
      have g1 : w.cell? ⟨b1, o1 + i, none⟩ = some (.int .i64 x) := (hc1 i (by simpa using hix)).trans (by simp [hx])
      have g2 : w.cell? ⟨b2, o2 + i, none⟩ = some (.int .i64 y) := (hc2 i (by simpa using hiy)).trans (by simp [hy])
      have hsi : (n1 : Int) - 1 - (k : Int) = (i : Int) := by omega
      have hi0 : (0 : Int) ≤ (i : Int) := by omega
      have hi1 : (i : Int) < (n1 : Int) := by omega
      have hk1 : (k : Int) < (n1 : Int) := by omega
      have hkn : i = n1 - (k + 1) := by omega
      have Hkn := Lib.hid hkn
      clear hkn hi
      by_cases hxy : x < y
      · have hfin : Hid (CmpEnd xs ys (.returned (.int .i64 (-1)))) := by unfold Hid CmpEnd; rw [cmpV_lt (top_lt K1.out.1 K2.out.1 hix hiy hdi (by rw [← hx, ← hy]; exact hxy))]
        have hne : (x == y) = false := by simp; omega
        have hne2 : (x != y) = true := by simp; omega
        clear hc1 hc2 hx hy h0 hdi
        go_wp2_with fail
        go_quiet (fail)
        go_wp2_with fail
        go_quiet ((first | exact quiet_add_left (compare_lt _ _ hxy _) | exact quiet_left (compare_lt _ _ hxy _)))
        go_wp2_with fail
        go_ret
        exact ⟨hfin.out, below_drewN (below_drewN (below_drewN (Below.refl _ _) _) _) _⟩
      · by_cases hyx : y < x
        · have hfin : Hid (CmpEnd xs ys (.returned (.int .i64 1))) := by unfold Hid CmpEnd; rw [cmpV_gt (top_lt K2.out.1 K1.out.1 hiy hix hdi.symm (by rw [← hx, ← hy]; exact hyx))]
          have hne : (x == y) = false := by simp; omega
          have hne2 : (x != y) = true := by simp; omega
          clear hc1 hc2 hx hy h0 hdi
          go_wp2_with fail
          go_quiet (fail)
          go_wp2_with fail
          go_quiet ((first | exact quiet_add_left (compare_gt _ _ hyx _) | exact quiet_left (compare_gt _ _ hyx _)))
          go_wp2_with fail
          go_ret
          exact ⟨hfin.out, below_drewN (below_drewN (below_drewN (Below.refl _ _) _) _) _⟩
        · have hnx : Hid (xs.drop i = ys.drop i) := drop_step hix hiy hdi (by rw [← hx, ← hy]; omega)
          obtain rfl : x = y := by omega
          have hne : (x == x) = true := by simp
          have hne2 : (x != x) = false := by simp
          clear hc1 hc2 hx hy h0 hdi
          go_wp2_with fail
          go_quiet (fail)
          go_wp2_with fail
          go_roundw
          case rel => exact ⟨k + 1, _, rfl, by omega, by go_num, by rw [← Hkn.out]; exact hnx⟩
          case measure => simp [intOf]; omega

end Go.Proofs.Ytjggdbakbhacjaa
