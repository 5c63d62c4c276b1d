/- Contracts of the program's natural numbers: what is one, the way from int, comparisons. -/
import Derived.Test.YtegclofijaoajaaGreatGN
import Derived.IntWalk
namespace Go.Proofs.YtegclofijaoajaaGreat
set_option maxRecDepth 100000
open Go.RowKit

set_option maxHeartbeats 800000 in
theorem impl_natOk' (A : Option Addr) (n c : Nat) (xs : List Int) (w : World) (h : InI w A n xs) :
    Calls Tryz.prog 147 #[.slice A n c] w fun e w' => OkEnd xs e ∧ w = w' := by
  obtain ⟨hlen, hn, hr, _⟩ := h
  have Hlen := Lib.hid hlen
  have Hr := Lib.hid hr
  clear hlen hr
  by_cases h60 : 60 < (n : Int)
  · have hfin := Lib.hid (okNo (xs := xs) (fun h => by have := h.2; rw [Hlen.out] at this; omega))
    go_enter Tryz.func147, Tryz.ntmps147
    go_wp2_with fail
    go_ret
    exact ⟨hfin.out, rfl⟩
  go_enter Tryz.func147, Tryz.ntmps147
  go_wp2_with fail
  go_loop [4, 10] (fun _ y => ∃ k : Nat, k ≤ n ∧ y = .int .i64 k ∧ Hid (InR (xs.take k))) (fun _ y => n - (intOf y).toNat)
  case atStart => exact ⟨0, Nat.zero_le _, rfl, by simpa using Lib.hid InR.nil⟩
  case round =>
    obtain ⟨k, hk, rfl, hin⟩ := hrel
    by_cases hlt : k < n
    · have hkx : k < xs.length := by rw [Hlen.out]; exact hlt
      obtain ⟨b, o, rfl, hb, hc⟩ := Hr.out.at_ (by simp; omega)
      obtain ⟨z, hz⟩ : ∃ z, z = xs[k] := ⟨_, rfl⟩
      have hcell : w.cell? ⟨b, o + k, none⟩ = some (.int .i64 z) := (hc k (by simpa using hkx)).trans (by simp [hz])
      have hi0 : (0 : Int) ≤ (k : Int) := by omega
      have hi1 : (k : Int) < (n : Int) := by omega
      have Hz := Lib.hid hz
      clear hc hz
      by_cases hneg : z < 0
      · have hfin := Lib.hid (okNo (xs := xs) (fun h => not_inR hkx (by rw [← Hz.out]; omega) h.1.1))
        go_wp2_with fail
        go_ret
        exact ⟨hfin.out, rfl⟩
      · by_cases hbig : 1000000000 ≤ z
        · have hfin := Lib.hid (okNo (xs := xs) (fun h => not_inR hkx (by rw [← Hz.out]; omega) h.1.1))
          go_wp2_with fail
          go_ret
          exact ⟨hfin.out, rfl⟩
        · have hnx : Hid (InR (xs.take (k + 1))) := hin.out.snoc_take hkx (by rw [← Hz.out]; omega) (by rw [← Hz.out]; omega)
          go_wp2_with fail
          go_round
          case rel => exact ⟨k + 1, by omega, by go_num, hnx⟩
          case measure => simp [intOf]; omega
    · obtain rfl : k = n := by omega
      have hall : Hid (InR xs) := by have := hin.out; rwa [List.take_of_length_le (by rw [Hlen.out]; exact Nat.le_refl _)] at this
      by_cases h0 : k = 0
      · have hfin := Lib.hid (okYes (xs := xs) ⟨⟨hall.out, by rw [List.eq_nil_of_length_eq_zero (Hlen.out.trans h0)]; simp⟩, by rw [Hlen.out]; omega⟩)
        subst h0
        go_wp2_with fail
        go_ret
        exact ⟨hfin.out, rfl⟩
      · obtain ⟨m, rfl⟩ : ∃ m, k = m + 1 := ⟨k - 1, by omega⟩
        have hmx : m < xs.length := by rw [Hlen.out]; omega
        obtain ⟨b, o, rfl, hb, hc⟩ := Hr.out.at_ (by simp; omega)
        obtain ⟨z, hz⟩ : ∃ z, z = xs[m] := ⟨_, rfl⟩
        have hcell : w.cell? ⟨b, o + m, none⟩ = some (.int .i64 z) := (hc m (by simpa using hmx)).trans (by simp [hz])
        have hla := last_at Hlen.out
        rw [← hz] at hla
        have hne : (((m + 1 : Nat) : Int) == 0) = false := by simp; omega
        have hne2 : ((m : Int) + 1 == 0) = false := by simp; omega
        clear hc hz h0
        by_cases hz0 : z = 0
        · have hfin := Lib.hid (okNo (xs := xs) (fun h => h.1.2 (by rw [hla, hz0])))
          subst hz0
          clear hla
          go_wp2_with fail
          go_ret
          exact ⟨hfin.out, rfl⟩
        · have hfin := Lib.hid (okYes (xs := xs) ⟨⟨hall.out, by rw [hla]; simpa using hz0⟩, by rw [Hlen.out]; omega⟩)
          have hz1 : (z == 0) = false := by simpa using hz0
          have hz2 : (z != 0) = true := by simpa using hz0
          clear hla hz0
          go_wp2_with fail
          go_ret
          exact ⟨hfin.out, rfl⟩
set_option maxHeartbeats 400000 in
theorem impl_natOf (n : Int) (w : World) (hn : -9223372036854775808 ≤ n ∧ n ≤ 9223372036854775807) :
    Calls Tryz.prog 208 #[.int .i64 n] w fun e w' => ∃ rs v, e = .returned v ∧ NatOfIs n rs ∧ ResI w w' v rs ∧ Below w.heap.size w w' := by
  obtain ⟨i0, hi, hz0, hz1, hz2⟩ := info_parts Tryz.infoI
  by_cases hneg : n < 0
  · have hfin : Hid (NatOfIs n []) := ⟨canon_nil, by rw [if_pos (by omega)]; rfl⟩
    have hnp : ¬ 0 < n := by omega
    go_enter Tryz.func208, Tryz.ntmps208
    go_wp2_with fail
    refine wp_loop_rounds 1 ?_
    rw [rounds_succ]
    go_wp2_with fail
    go_ret
    exact ⟨[], _, rfl, hfin.out, ⟨by simp, World.ownsRow_nil _ _ _ _⟩, Below.refl _ _⟩
  go_enter Tryz.func208, Tryz.ntmps208
  go_wp2_with fail
  go_loopw [0, 3] (fun x y wr => ∃ (k : Int) (r : List Int), 0 ≤ k ∧ k ≤ n ∧ x = .int .i64 k ∧ Hid (OfAt n k r) ∧ Hid (wr.ownsRow w.heap.size 3 1 y r.length (r.map (.int .i64))) ∧ Hid (Below w.heap.size w wr)) (fun x _ _ => (intOf x).toNat)
  case atStart => exact ⟨n, [], by omega, Int.le_refl _, rfl, ⟨InR.nil, by simp [val, pw], by omega, fun _ => by simp, by simp⟩, World.ownsRow_nil _ _ _ _, Below.refl _ _⟩
  case round =>
    obtain ⟨k, r, hk0, hkn, rfl, hat, ho, hb⟩ := hrel
    have hl3 := hat.out.2.2.2.2
    by_cases hlt : 0 < k
    · have hnx := Lib.hid (hat.out.step hlt hn.2)
      obtain ⟨N, hN⟩ : ∃ N, N = r.length := ⟨_, rfl⟩
      rw [← hN] at ho hl3
      have HN := Lib.hid hN
      clear hN
      go_wp2_with (at_builtin; refine wpList_append_own _ rfl _ _ 30 rfl w.heap.size 3 i0 (.int .i64 0) 1 8 Tryz.underlying30 hi hz0 hz1 hz2 rfl (by decide) _ _ _ rfl (ho.out.alloc _) ⟨wr.heap.size, 0, none⟩ 1 1 [.int .i64 (k % 1000000000)] rfl rfl ?c1 ?c2 ?c3 ?c4 ?c5 ?_)
      case c1 => exact cell_one_new _ _ _
      case c2 => simp [Value.oneCell']
      case c3 => unfold maxLen; omega
      case c4 => omega
      case c5 => have := hb.out.size; simp; omega
      intro v' w1 hown hg _
      have hb1 := Lib.hid ((hb.out.alloc hb.out.size _).grown hg (by have := hb.out.size; simp; omega) (fun j hj => (ho.out.lt j hj).1))
      have ho1 : Hid (w1.ownsRow w.heap.size 3 1 v' (r ++ [k % 1000000000]).length ((r ++ [k % 1000000000]).map (.int .i64))) := by
        unfold Hid; rw [List.length_append, ← HN.out]; simpa using hown
      clear hown hg
      go_wp2_with fail
      go_roundw
      case rel => exact ⟨k / 1000000000, r ++ [k % 1000000000], by omega, by omega, rfl, hnx, ho1, hb1⟩
      case measure => simp [intOf]; omega
    · obtain rfl : k = 0 := by omega
      have hfin := Lib.hid hat.out.done
      go_wp2_with fail
      go_ret
      exact ⟨r, _, rfl, hfin.out, ⟨by omega, ho.out⟩, hb.out⟩

theorem quiet_left {P : Program} {f : FuncId} {args : Array Value} {w : World} {n : Nat} {v : Value}
    (h : Calls P f args (w.drewN n) fun e w' => e = .returned v ∧ w.drewN n = w') : Calls P f args (w.drewN n) fun e w'' => e = .returned v ∧ ∃ m, w'' = w.drewN m :=
  h.mono fun _ _ ⟨he, hm⟩ => ⟨he, n, hm.symm⟩
theorem quiet_add_left {P : Program} {f : FuncId} {args : Array Value} {w : World} {a n : Nat} {v : Value}
    (h : Calls P f args (w.drewN (a + n)) fun e w' => e = .returned v ∧ w.drewN (a + n) = w') :
    Calls P f args (w.drewN (a + n)) fun e w'' => e = .returned v ∧ ∃ m, w'' = w.drewN (a + m) :=
  h.mono fun _ _ ⟨he, hm⟩ => ⟨he, n, hm.symm⟩
theorem isNaN_any (x : Int) (w : World) : Calls Tryz.prog 275 #[.int .i64 x] w fun e w' => e = .returned (.bool false) ∧ w = w' := by
  have h : (x != x) = false := by simp
  go_enter Tryz.func275, Tryz.ntmps275
  go_wp2_with fail
  go_ret
  exact ⟨ret_bool (by simp), rfl⟩
theorem compare_lt (x y : Int) (h : x < y) (w : World) : Calls Tryz.prog 273 #[.int .i64 x, .int .i64 y] w fun e w' => e = .returned (.int .i64 (-1)) ∧ w = w' := by
  go_enter Tryz.func273, Tryz.ntmps273
  go_wp2_with ((with_reducible refine (isNaN_any _ _).mono ?_); rintro e w' ⟨rfl, rfl⟩)
  go_ret
  exact ⟨rfl, rfl⟩
theorem compare_gt (x y : Int) (h : y < x) (w : World) : Calls Tryz.prog 273 #[.int .i64 x, .int .i64 y] w fun e w' => e = .returned (.int .i64 1) ∧ w = w' := by
  have h2 : ¬ x < y := by omega
  go_enter Tryz.func273, Tryz.ntmps273
  go_wp2_with ((with_reducible refine (isNaN_any _ _).mono ?_); rintro e w' ⟨rfl, rfl⟩)
  go_ret
  exact ⟨rfl, rfl⟩

set_option maxHeartbeats 800000 in
theorem impl_cmp (A1 : Option Addr) (n1 c1 : Nat) (xs : List Int) (A2 : Option Addr) (n2 c2 : Nat) (ys : List Int) (w : World) (h1 : xs.length = n1 ∧ n1 ≤ 1048576 ∧ Reads w A1 (xs.map (.int .i64))) (h2 : ys.length = n2 ∧ n2 ≤ 1048576 ∧ Reads w A2 (ys.map (.int .i64))) (k1 : Canon xs) (k2 : Canon ys) :
    Calls Tryz.prog 267 #[.slice A1 n1 c1, .slice A2 n2 c2] w fun e w' => CmpEnd xs ys e ∧ Below w.heap.size w w' := by
  obtain ⟨hn1, hb1, hr1⟩ := h1
  obtain ⟨hn2, hb2, hr2⟩ := h2
  have Hn1 := Lib.hid hn1
  have Hn2 := Lib.hid hn2
  have Hr1 := Lib.hid hr1
  have Hr2 := Lib.hid hr2
  have K1 := Lib.hid k1
  have K2 := Lib.hid k2
  by_cases hlt : (n1 : Int) < n2
  · have hfin : Hid (CmpEnd xs ys (.returned (.int .i64 (-1)))) := by unfold Hid CmpEnd; rw [cmpV_lt (shorter_lt k1.1 k2 (by omega))]
    have hne : ((n1 : Int) == n2) = false := by simp; omega
    have hne2 : ((n1 : Int) != n2) = true := by simp; omega
    clear hn1 hn2 hr1 hr2 k1 k2
    go_enter Tryz.func267, Tryz.ntmps267
    go_wp2_with ((with_reducible refine (compare_lt _ _ hlt _).mono ?_); rintro e w' ⟨rfl, rfl⟩)
    go_ret
    exact ⟨hfin.out, Below.refl _ _⟩
  by_cases hgt : (n2 : Int) < n1
  · have hfin : Hid (CmpEnd xs ys (.returned (.int .i64 1))) := by unfold Hid CmpEnd; rw [cmpV_gt (shorter_lt k2.1 k1 (by omega))]
    have hne : ((n1 : Int) == n2) = false := by simp; omega
    have hne2 : ((n1 : Int) != n2) = true := by simp; omega
    clear hn1 hn2 hr1 hr2 k1 k2
    go_enter Tryz.func267, Tryz.ntmps267
    go_wp2_with ((with_reducible refine (compare_gt _ _ hgt _).mono ?_); rintro e w' ⟨rfl, rfl⟩)
    go_ret
    exact ⟨hfin.out, Below.refl _ _⟩
  obtain rfl : n1 = n2 := by omega
  clear hn1 hn2 hr1 hr2 k1 k2 hlt hgt
  go_enter Tryz.func267, Tryz.ntmps267
  go_wp2_with fail
  go_loopw [5, 6, 19] (fun _ _ x wr => ∃ k j : Nat, wr = w.drewN j ∧ k ≤ n1 ∧ x = .int .i64 k ∧ Hid (xs.drop (n1 - k) = ys.drop (n1 - k))) (fun _ _ x _ => n1 - (intOf x).toNat)
  case atStart => exact ⟨0, 0, rfl, Nat.zero_le _, rfl, by unfold Hid; rw [List.drop_eq_nil_of_le (by rw [Hn1.out]; omega), List.drop_eq_nil_of_le (by rw [Hn2.out]; omega)]⟩
  case round =>
    obtain ⟨k, j, rfl, hk, rfl, hd⟩ := hrel
    by_cases h0 : k = n1
    · have hfin : Hid (CmpEnd xs ys (.returned (.int .i64 0))) := by
        have := hd.out
        rw [h0, Nat.sub_self, List.drop_zero, List.drop_zero] at this
        unfold Hid CmpEnd; rw [this, cmpV_eq rfl]
      subst h0
      go_wp2_with fail
      go_ret
      exact ⟨hfin.out, below_drewN (Below.refl _ _) _⟩
    · obtain ⟨i, hi⟩ : ∃ i, n1 - k = i + 1 := ⟨n1 - k - 1, by omega⟩
      have hdi := hd.out
      rw [hi] at hdi
      have hix : i < xs.length := by rw [Hn1.out]; omega
      have hiy : i < ys.length := by rw [Hn2.out]; omega
      obtain ⟨b1, o1, rfl, hbs1, hc1⟩ := Hr1.out.at_ (by simp; omega)
      obtain ⟨b2, o2, rfl, hbs2, hc2⟩ := Hr2.out.at_ (by simp; omega)
      obtain ⟨x, hx⟩ : ∃ x, x = xs[i] := ⟨_, rfl⟩
      obtain ⟨y, hy⟩ : ∃ y, y = ys[i] := ⟨_, rfl⟩
      have g1 : w.cell? ⟨b1, o1 + i, none⟩ = some (.int .i64 x) := (hc1 i (by simpa using hix)).trans (by simp [hx])
      have g2 : w.cell? ⟨b2, o2 + i, none⟩ = some (.int .i64 y) := (hc2 i (by simpa using hiy)).trans (by simp [hy])
      have hsi : (n1 : Int) - 1 - (k : Int) = (i : Int) := by omega
      have hi0 : (0 : Int) ≤ (i : Int) := by omega
      have hi1 : (i : Int) < (n1 : Int) := by omega
      have hk1 : (k : Int) < (n1 : Int) := by omega
      have hkn : i = n1 - (k + 1) := by omega
      have Hkn := Lib.hid hkn
      clear hkn hi
      by_cases hxy : x < y
      · have hfin : Hid (CmpEnd xs ys (.returned (.int .i64 (-1)))) := by unfold Hid CmpEnd; rw [cmpV_lt (top_lt K1.out.1 K2.out.1 hix hiy hdi (by rw [← hx, ← hy]; exact hxy))]
        have hne : (x == y) = false := by simp; omega
        have hne2 : (x != y) = true := by simp; omega
        clear hc1 hc2 hx hy h0 hdi
        go_wp2_with fail
        go_quiet (fail)
        go_wp2_with fail
        go_quiet ((first | exact quiet_add_left (compare_lt _ _ hxy _) | exact quiet_left (compare_lt _ _ hxy _)))
        go_wp2_with fail
        go_ret
        exact ⟨hfin.out, below_drewN (below_drewN (below_drewN (Below.refl _ _) _) _) _⟩
      · by_cases hyx : y < x
        · have hfin : Hid (CmpEnd xs ys (.returned (.int .i64 1))) := by unfold Hid CmpEnd; rw [cmpV_gt (top_lt K2.out.1 K1.out.1 hiy hix hdi.symm (by rw [← hx, ← hy]; exact hyx))]
          have hne : (x == y) = false := by simp; omega
          have hne2 : (x != y) = true := by simp; omega
          clear hc1 hc2 hx hy h0 hdi
          go_wp2_with fail
          go_quiet (fail)
          go_wp2_with fail
          go_quiet ((first | exact quiet_add_left (compare_gt _ _ hyx _) | exact quiet_left (compare_gt _ _ hyx _)))
          go_wp2_with fail
          go_ret
          exact ⟨hfin.out, below_drewN (below_drewN (below_drewN (Below.refl _ _) _) _) _⟩
        · have hnx : Hid (xs.drop i = ys.drop i) := drop_step hix hiy hdi (by rw [← hx, ← hy]; omega)
          obtain rfl : x = y := by omega
          have hne : (x == x) = true := by simp
          have hne2 : (x != x) = false := by simp
          clear hc1 hc2 hx hy h0 hdi
          go_wp2_with fail
          go_quiet (fail)
          go_wp2_with fail
          go_roundw
          case rel => exact ⟨k + 1, _, rfl, by omega, by go_num, by rw [← Hkn.out]; exact hnx⟩
          case measure => simp [intOf]; omega

end Go.Proofs.YtegclofijaoajaaGreat
namespace Go.Proofs.YtegclofijaoajaaGreat
set_option maxRecDepth 100000
open Go.RowKit

set_option maxHeartbeats 800000 in
theorem impl_trim (base : Nat) (A : Option Addr) (n c : Nat) (xs : List Int) (w : World) (hn : xs.length = n) (hb : n ≤ 4194304) (ho : w.ownsRow base 3 1 (.slice A n c) n (xs.map (.int .i64))) :
    Calls Tryz.prog 249 #[.slice A n c] w fun e w' => (∃ m, e = .returned (.slice A m c) ∧ Trimmed xs m) ∧ w = w' := by
  have hcap := (own_cap ho).1
  have Hn := Lib.hid hn
  have Ho := Lib.hid ho
  by_cases h0 : n = 0
  · have hfin : Hid (Trimmed xs 0) := ⟨Nat.zero_le _, fun j hj _ => absurd hj (by rw [hn]; omega), by simp⟩
    have hA : (A = none ∧ c = 0) ∨ ∃ g, A = some ⟨g, 0, none⟩ := by
      rcases ho.2 with ⟨hv, _⟩ | ⟨g, _, _, hv, _⟩
      · cases hv; exact .inl ⟨rfl, rfl⟩
      · cases hv; exact .inr ⟨g, rfl⟩
    clear hn ho
    subst h0
    rcases hA with ⟨rfl, rfl⟩ | ⟨g, rfl⟩
    all_goals
      go_enter Tryz.func249, Tryz.ntmps249
      go_wp2_with fail
      refine wp_loop_rounds 1 ?_
      rw [rounds_succ]
      go_wp2_with fail
    · go_ret
      exact ⟨⟨0, rfl, hfin.out⟩, rfl⟩
    · go_ret
      exact ⟨⟨0, rfl, hfin.out⟩, rfl⟩
  obtain ⟨g, rfl, _, hgs⟩ := own_at ho (by omega)
  clear hn ho
  go_enter Tryz.func249, Tryz.ntmps249
  go_wp2_with fail
  go_loop [3] (fun x => ∃ m : Nat, m ≤ n ∧ x = .int .i64 m ∧ Hid (ZeroFrom xs m)) (fun x => (intOf x).toNat)
  case atStart => exact ⟨n, Nat.le_refl _, rfl, fun j hj hle => absurd hj (by rw [Hn.out]; omega)⟩
  case round =>
    obtain ⟨m, hm, rfl, hz⟩ := hrel
    by_cases hm0 : m = 0
    · have hfin : Hid (Trimmed xs 0) := ⟨Nat.zero_le _, by rw [← hm0]; exact hz.out, by simp⟩
      subst hm0
      go_wp2_with fail
      go_ret
      exact ⟨⟨0, rfl, hfin.out⟩, rfl⟩
    · obtain ⟨k, rfl⟩ : ∃ k, m = k + 1 := ⟨m - 1, by omega⟩
      have hkx : k < xs.length := by rw [Hn.out]; omega
      obtain ⟨z, hzk⟩ : ∃ z, z = xs[k] := ⟨_, rfl⟩
      have hcell : w.cell? ⟨g, k, none⟩ = some (.int .i64 z) := by
        rw [Ho.out.cellAt k (by omega)]; simp [hzk, hkx]
      by_cases hz0 : z = 0
      · have hnx : Hid (ZeroFrom xs k) := zeroFrom_pred hz.out hkx (by rw [← hzk]; exact hz0)
        subst hz0
        clear hzk hm0
        go_wp2_with fail
        go_round
        case rel => exact ⟨k, by omega, by go_num, hnx⟩
        case measure => simp [intOf]
      · have hfin : Hid (Trimmed xs (k + 1)) := ⟨by omega, hz.out, by rw [take_last hkx, ← hzk]; simpa using hz0⟩
        have hz1 : (z == 0) = false := by simpa using hz0
        clear hzk hm0 hz0
        go_wp2_with fail
        go_ret
        exact ⟨⟨k + 1, rfl, hfin.out⟩, rfl⟩

theorem impl_limited (A : Option Addr) (n c : Nat) (w : World) (hb : n ≤ 4194304) :
    Calls Tryz.prog 264 #[.slice A n c] w fun e w' => ((60 < n ∧ e = .returned (.slice none 0 0)) ∨ (n ≤ 60 ∧ e = .returned (.slice A n c))) ∧ w = w' := by
  by_cases h60 : 60 < (n : Int)
  · go_enter Tryz.func264, Tryz.ntmps264
    go_wp2_with fail
    go_ret
    exact ⟨.inl ⟨by omega, rfl⟩, rfl⟩
  · go_enter Tryz.func264, Tryz.ntmps264
    go_wp2_with fail
    go_ret
    exact ⟨.inr ⟨by omega, rfl⟩, rfl⟩

theorem impl_limbAt (A : Option Addr) (n c : Nat) (xs : List Int) (k : Nat) (w : World) (hn : xs.length = n) (hb : n ≤ 1048576) (hr : Reads w A (xs.map (.int .i64))) :
    Calls Tryz.prog 263 #[.slice A n c, .int .i64 k] w fun e w' => e = .returned (.int .i64 (lim xs k)) ∧ w = w' := by
  have hi0 : (0 : Int) ≤ (k : Int) := by omega
  by_cases hk : k < n
  · have hix : k < xs.length := by omega
    obtain ⟨b, o, rfl, hbs, hc⟩ := hr.at_ (by simp; omega)
    have l1 : lim xs k = xs[k] := by unfold lim; rw [List.getD_eq_getElem?_getD, List.getElem?_eq_getElem hix]; rfl
    obtain ⟨x, hx⟩ : ∃ x, x = xs[k] := ⟨_, rfl⟩
    have g1 : w.cell? ⟨b, o + k, none⟩ = some (.int .i64 x) := (hc k (by simpa using hix)).trans (by simp [hx])
    have hi1 : (k : Int) < (n : Int) := by omega
    have hfin : Hid (lim xs k = x) := by unfold Hid; rw [l1, hx]
    clear hc hx l1 hr hn
    go_enter Tryz.func263, Tryz.ntmps263
    go_wp2_with fail
    go_ret
    exact ⟨ret_int hfin.out.symm, rfl⟩
  · have hfin : Hid (lim xs k = 0) := by unfold Hid lim; rw [List.getD_eq_getElem?_getD, List.getElem?_eq_none (by omega)]; rfl
    have hi1 : (n : Int) ≤ (k : Int) := by omega
    clear hr hn
    go_enter Tryz.func263, Tryz.ntmps263
    go_wp2_with fail
    go_ret
    exact ⟨ret_int hfin.out.symm, rfl⟩

set_option maxHeartbeats 400000 in
theorem impl_valueOf (A1 : Option Addr) (n1 c1 : Nat) (xs : List Int) (w : World) (hn : xs.length = n1) (hb : n1 ≤ 1048576) (hr : Reads w A1 (xs.map (.int .i64))) (k1 : InR xs) (hle : val xs ≤ 9223372036854775807) :
    Calls Tryz.prog 210 #[.slice A1 n1 c1] w fun e w' => e = .returned (.int .i64 (val xs)) ∧ w = w' := by
  have Hn := Lib.hid hn
  have Hr := Lib.hid hr
  have K1 := Lib.hid k1
  have Hle := Lib.hid hle
  clear hn hr k1 hle
  go_enter Tryz.func210, Tryz.ntmps210
  go_wp2_with fail
  go_loop [3, 4, 7] (fun x _ y => ∃ k : Nat, k ≤ n1 ∧ y = .int .i64 (k : Int) ∧ x = .int .i64 (val (xs.drop (n1 - k)))) (fun _ _ y => n1 - (intOf y).toNat)
  case atStart => exact ⟨0, Nat.zero_le _, rfl, by rw [List.drop_eq_nil_of_le (by rw [Hn.out]; exact Nat.le_refl _)]; rfl⟩
  case round =>
    obtain ⟨k, hk, rfl, rfl⟩ := hrel
    by_cases h0 : k = n1
    · subst h0
      rw [Nat.sub_self, List.drop_zero]
      go_wp2_with fail
      go_ret
      exact ⟨rfl, rfl⟩
    · obtain ⟨i, hi⟩ : ∃ i, n1 - k = i + 1 := ⟨n1 - k - 1, by omega⟩
      rw [hi]
      have hix : i < xs.length := by rw [Hn.out]; omega
      obtain ⟨b1, o1, rfl, hbs1, hc1⟩ := Hr.out.at_ (by simp; omega)
      obtain ⟨x, hx⟩ : ∃ x, x = xs[i] := ⟨_, rfl⟩
      have g1 : w.cell? ⟨b1, o1 + i, none⟩ = some (.int .i64 x) := (hc1 i (by simpa using hix)).trans (by simp [hx])
      have hsi : (n1 : Int) - 1 - (k : Int) = (i : Int) := by omega
      have hv := val_drop_at hix
      rw [← hx] at hv
      have hle := val_drop_le K1.out i
      have hxr := K1.out _ (List.getElem_mem hix)
      rw [← hx] at hxr
      obtain ⟨x0, x1⟩ := hxr
      have hnn := val_nonneg (K1.out.drop (i + 1))
      have hle2 := Hle.out
      obtain ⟨V, hV⟩ : ∃ V, V = val (xs.drop (i + 1)) := ⟨_, rfl⟩
      rw [← hV] at hv hnn ⊢
      have hsum : V * 1000000000 + x ≤ 9223372036854775807 := by omega
      have hnx : Hid (V * 1000000000 + x = val (xs.drop (n1 - (k + 1)))) := by unfold Hid; rw [show n1 - (k + 1) = i by omega]; omega
      have hi0 : (0 : Int) ≤ (i : Int) := by omega
      have hi1 : (i : Int) < (n1 : Int) := by omega
      have hk1 : (k : Int) < (n1 : Int) := by omega
      clear hc1 hx hv hle hV h0 hi
      go_wp2_with fail
      go_round
      case rel => exact ⟨k + 1, by omega, by go_num, congrArg (Value.int .i64) hnx.out⟩
      case measure => simp [intOf]; omega

end Go.Proofs.YtegclofijaoajaaGreat
namespace Go.Proofs.YtegclofijaoajaaGreat
set_option maxRecDepth 100000
open Go.RowKit

/-- A sum after k places: the limbs, the carry. -/
def SumAt (xs ys : List Int) (L k : Nat) (cy : Int) (os : List Int) : Prop := os.length = L + 1 ∧ InR os ∧ val os + pw k * cy = val (xs.take k) + val (ys.take k) ∧ ZeroFrom os k ∧ 0 ≤ cy ∧ cy ≤ 1
theorem SumAt.start (xs ys : List Int) (L : Nat) : SumAt xs ys L 0 0 (List.replicate (L + 1) 0) :=
  ⟨by simp, zeros_inR _, by rw [zeros_val]; simp [val], zeros_from _ _, by omega, by omega⟩
theorem SumAt.step {xs ys os : List Int} {L k : Nat} {cy x y : Int} (h : SumAt xs ys L k cy os) (hx : lim xs k = x) (hy : lim ys k = y) (x0 : 0 ≤ x) (x1 : x ≤ 999999999) (y0 : 0 ≤ y) (y1 : y ≤ 999999999) (hk : k < L) :
    SumAt xs ys L (k + 1) ((cy + (x + y)) / 1000000000) (os.set k ((cy + (x + y)) % 1000000000)) := by
  obtain ⟨h1, h2, h3, h4, h5, h6⟩ := h
  have hio : k < os.length := by omega
  refine ⟨by simpa using h1, h2.set _ (by omega) (by omega), ?_, h4.set_last _, by omega, by omega⟩
  rw [val_set _ _ _ hio, h4 _ hio (Nat.le_refl _), val_take_succ, val_take_succ, hx, hy, pw]
  have e := Int.mul_ediv_add_emod (cy + (x + y)) 1000000000
  grind
theorem SumAt.last {xs ys os : List Int} {L : Nat} {cy : Int} (h : SumAt xs ys L L cy os) (hx : xs.length ≤ L) (hy : ys.length ≤ L) : InR (os.set L cy) ∧ val (os.set L cy) = val xs + val ys ∧ (os.set L cy).length = L + 1 := by
  obtain ⟨h1, h2, h3, h4, h5, h6⟩ := h
  rw [List.take_of_length_le hx, List.take_of_length_le hy] at h3
  refine ⟨h2.set _ h5 (by omega), ?_, by simpa using h1⟩
  rw [val_set _ _ _ (by omega), h4 _ (by omega) (Nat.le_refl _), Int.sub_zero]; exact h3
/-- A difference after k places: the limbs, what is still to be taken off. -/
def DiffAt (xs ys : List Int) (L k : Nat) (bo : Int) (os : List Int) : Prop := os.length = L ∧ InR os ∧ val os = val (xs.take k) - val (ys.take k) + pw k * bo ∧ ZeroFrom os k ∧ 0 ≤ bo ∧ bo ≤ 1
theorem DiffAt.start (xs ys : List Int) (L : Nat) : DiffAt xs ys L 0 0 (List.replicate L 0) :=
  ⟨by simp, zeros_inR _, by rw [zeros_val]; simp [val], zeros_from _ _, by omega, by omega⟩
theorem DiffAt.step0 {xs ys os : List Int} {L k : Nat} {bo x y d : Int} (h : DiffAt xs ys L k bo os) (hx : lim xs k = x) (hy : lim ys k = y) (x1 : x ≤ 999999999) (y0 : 0 ≤ y) (hk : k < L) (hd : d = x - y - bo) (d0 : 0 ≤ d) :
    DiffAt xs ys L (k + 1) 0 (os.set k d) := by
  obtain ⟨h1, h2, h3, h4, h5, h6⟩ := h
  have hio : k < os.length := by omega
  refine ⟨by simpa using h1, h2.set _ (by omega) (by omega), ?_, h4.set_last _, by omega, by omega⟩
  rw [val_set _ _ _ hio, h4 _ hio (Nat.le_refl _), val_take_succ, val_take_succ, hx, hy, hd]
  grind
theorem DiffAt.step1 {xs ys os : List Int} {L k : Nat} {bo x y d : Int} (h : DiffAt xs ys L k bo os) (hx : lim xs k = x) (hy : lim ys k = y) (x0 : 0 ≤ x) (y1 : y ≤ 999999999) (hk : k < L) (hd : d = x - y - bo) (d0 : d < 0) :
    DiffAt xs ys L (k + 1) 1 (os.set k (d + 1000000000)) := by
  obtain ⟨h1, h2, h3, h4, h5, h6⟩ := h
  have hio : k < os.length := by omega
  refine ⟨by simpa using h1, h2.set _ (by omega) (by omega), ?_, h4.set_last _, by omega, by omega⟩
  rw [val_set _ _ _ hio, h4 _ hio (Nat.le_refl _), val_take_succ, val_take_succ, hx, hy, hd, pw]
  grind
theorem DiffAt.done {xs ys os : List Int} {k : Nat} {bo : Int} (h : DiffAt xs ys k k bo os) (hx : xs.length ≤ k) (hy : ys.length ≤ k) (hle : val ys ≤ val xs) : InR os ∧ val os = val xs - val ys ∧ os.length = k := by
  obtain ⟨h1, h2, h3, h4, h5, h6⟩ := h
  rw [List.take_of_length_le hx, List.take_of_length_le hy] at h3
  have h7 := val_lt h2
  rw [h1] at h7
  have hb0 : bo = 0 := by
    by_cases e : bo = 0
    · exact e
    · have e1 : bo = 1 := by omega
      rw [e1, Int.mul_one] at h3; omega
  subst hb0
  exact ⟨h2, by rw [h3]; simp, h1⟩
/-- Trimmed and limited: what the cut list gives. -/
theorem capEnd_of {xs : List Int} {A : Option Addr} {c m : Nat} {e : Ending} (ht : Trimmed xs m) (h : (60 < m ∧ e = .returned (.slice none 0 0)) ∨ (m ≤ 60 ∧ e = .returned (.slice A m c))) : CapEnd xs A c e := ⟨m, ht, h⟩
/-- An ending with a list of its own: what it is, where it lies. -/
def BinEnd (Q : List Int → Prop) (w w' : World) (e : Ending) : Prop := ∃ rs v, e = .returned v ∧ Q rs ∧ ResI w w' v rs ∧ Below w.heap.size w w'

set_option maxHeartbeats 1600000 in
theorem impl_natAdd (A1 : Option Addr) (n1 c1 : Nat) (xs : List Int) (A2 : Option Addr) (n2 c2 : Nat) (ys : List Int) (w : World) (h1 : InI w A1 n1 xs) (h2 : InI w A2 n2 ys) :
    Calls Tryz.prog 239 #[.slice A1 n1 c1, .slice A2 n2 c2] w fun e w' => ∃ rs v, e = .returned v ∧ NatAddIs xs ys rs ∧ ResI w w' v rs ∧ Below w.heap.size w w' := by
  obtain ⟨i0, hi, hz0, hz1, hz2⟩ := info_parts Tryz.infoI
  have H1 := Lib.hid h1
  have H2 := Lib.hid h2
  clear h1 h2
  go_enter Tryz.func239, Tryz.ntmps239
  go_wp2_with fail
  refine (impl_natOk' A1 n1 c1 xs _ H1.out).mono ?_
  rintro e w' ⟨⟨b1, rfl, ho1⟩, rfl⟩
  cases b1
  · have hfin : Hid (NatAddIs xs ys []) := .inr ⟨(fun h => by have := ho1.2 h.1; cases this), rfl⟩
    clear ho1
    go_wp2_with fail
    go_ret
    exact ⟨[], _, rfl, hfin.out, ⟨by simp, World.ownsRow_nil _ _ _ _⟩, Below.refl _ _⟩
  have k1 := Lib.hid (ho1.1 rfl)
  clear ho1
  go_wp2_with fail
  refine (impl_natOk' A2 n2 c2 ys _ H2.out).mono ?_
  rintro e w' ⟨⟨b2, rfl, ho2⟩, rfl⟩
  cases b2
  · have hfin : Hid (NatAddIs xs ys []) := .inr ⟨(fun h => by have := ho2.2 h.2; cases this), rfl⟩
    clear ho2
    go_wp2_with fail
    go_ret
    exact ⟨[], _, rfl, hfin.out, ⟨by simp, World.ownsRow_nil _ _ _ _⟩, Below.refl _ _⟩
  have k2 := Lib.hid (ho2.1 rfl)
  clear ho2
  have hn1 : n1 ≤ 60 := by have := k1.out.2; rwa [H1.out.1] at this
  have hn2 : n2 ≤ 60 := by have := k2.out.2; rwa [H2.out.1] at this
  by_cases hm : (n1 : Int) < (n2 : Int)
  · obtain ⟨N, rfl⟩ : ∃ N, N = n2 := ⟨_, rfl⟩
    have hN1 : n1 ≤ N := by omega
    have hN2 : N ≤ N := by omega
    go_wp2_with (refine wpList_make_full _ rfl _ _ 30 rfl w.heap.size 3 i0 (.int .i64 0) 1 Tryz.underlying30 hi hz0 hz1 _ _ _ _ (N + 1) rfl rfl (by omega) (by omega) (by rw [hz2]; omega) (by unfold maxLen; omega) (Nat.le_refl _) ?_)
    have hrep : (madeCells #[Value.int .i64 0] (N + 1)).toList = (List.replicate (N + 1) (0 : Int)).map (.int .i64) := by simp [toList_madeCells_one]
    intro w1 ho hg
    have O1 : Hid (w1.ownsRow w.heap.size 3 1 (.slice (some ⟨w.heap.size, 0, none⟩) (N + 1) (N + 1)) (N + 1) ((List.replicate (N + 1) (0 : Int)).map (.int .i64))) := by
      unfold Hid; rw [← hrep]; exact ho
    have B1 := Lib.hid ((Below.refl w.heap.size w).grown hg (Nat.le_refl _) (fun k hk => by cases hk))
    have M1 := Lib.hid (SumAt.start xs ys N)
    clear ho hg hrep
    go_wp2_with fail
    go_loopw [7, 8, 26] (fun x _ y wr => ∃ (k : Nat) (cy : Int) (os : List Int), k ≤ N ∧ y = .int .i64 (k : Int) ∧ x = .int .i64 cy ∧ 0 ≤ cy ∧ cy ≤ 1 ∧ Hid (SumAt xs ys N k cy os) ∧ Hid (wr.ownsRow w.heap.size 3 1 (.slice (some ⟨w.heap.size, 0, none⟩) (N + 1) (N + 1)) (N + 1) (os.map (.int .i64))) ∧ Hid (Below w.heap.size w wr)) (fun _ _ y _ => N - (intOf y).toNat)
    case atStart => exact ⟨0, 0, _, Nat.zero_le _, rfl, rfl, by omega, by omega, M1, O1, B1⟩
    case round =>
      obtain ⟨k, cy, os, hk, rfl, rfl, c0, c9, hs, ho, hb⟩ := hrel
      obtain ⟨wo, rfl⟩ : ∃ wo : World, wo = wr := ⟨_, rfl⟩
      by_cases hlt : k < N
      · obtain ⟨x, hx⟩ : ∃ x, lim xs k = x := ⟨_, rfl⟩
        obtain ⟨y, hy⟩ : ∃ y, lim ys k = y := ⟨_, rfl⟩
        have bx := lim_bd k1.out.1.1 k
        have bY := lim_bd k2.out.1.1 k
        rw [hx] at bx
        rw [hy] at bY
        obtain ⟨x0, x1⟩ := bx
        obtain ⟨y0, y1⟩ := bY
        have hnx := Lib.hid (hs.out.step hx hy x0 x1 y0 y1 hlt)
        have hS : 0 ≤ (cy + (x + y)) / 1000000000 ∧ (cy + (x + y)) / 1000000000 ≤ 1 := by omega
        have HS := Lib.hid hS
        have hio : k < os.length := by rw [hs.out.1]; omega
        obtain ⟨o, hoo⟩ : ∃ o, o = os[k] := ⟨_, rfl⟩
        have g3 : wo.cell? ⟨w.heap.size, k, none⟩ = some (.int .i64 o) := by
          rw [ho.out.cellAt k (by omega)]; simp [hio, hoo]
        have hfr := ho.out.frozenAt k
        have hst := ho.out.stored k (.int .i64 ((cy + (x + y)) % 1000000000))
        rw [map_set_int] at hst
        have ho2 := Lib.hid hst.1
        have hb2 := Lib.hid (below_marked hb.out ho.out hst.2 (Nat.le_refl _) hb.out.size)
        have HX := Lib.hid hx
        have HY := Lib.hid hy
        have hk0 : (0 : Int) ≤ (k : Int) := by omega
        have hkn : (k : Int) < (N : Int) := by omega
        clear hx hy hoo hst hS
        go_wp2_with fail
        refine (impl_limbAt _ _ _ xs k _ H1.out.1 H1.out.2.1 (H1.out.2.2.1.below hb.out)).mono ?_
        rintro e w' ⟨rfl, rfl⟩
        rw [HX.out]
        go_wp2_with fail
        refine (impl_limbAt _ _ _ ys k _ H2.out.1 H2.out.2.1 (H2.out.2.2.1.below hb.out)).mono ?_
        rintro e w' ⟨rfl, rfl⟩
        rw [HY.out]
        go_wp2_with fail
        go_roundw
        case rel => exact ⟨k + 1, _, _, by omega, by go_num, rfl, HS.out.1, HS.out.2, hnx, ho2, hb2⟩
        case measure => simp [intOf]; omega
      · obtain rfl : k = N := by omega
        have hv := Lib.hid (hs.out.last (by rw [H1.out.1]; omega) (by rw [H2.out.1]; omega))
        have hio : k < os.length := by rw [hs.out.1]; omega
        obtain ⟨o, hoo⟩ : ∃ o, o = os[k] := ⟨_, rfl⟩
        have g3 : wo.cell? ⟨w.heap.size, k, none⟩ = some (.int .i64 o) := by
          rw [ho.out.cellAt k (by omega)]; simp [hio, hoo]
        have hfr := ho.out.frozenAt k
        have hst := ho.out.stored k (.int .i64 cy)
        rw [map_set_int] at hst
        have ho2 := Lib.hid hst.1
        have hb2 := Lib.hid (below_marked hb.out ho.out hst.2 (Nat.le_refl _) hb.out.size)
        have hk0 : (0 : Int) ≤ (k : Int) := by omega
        clear hoo hst
        go_wp2_with fail
        refine (impl_trim w.heap.size _ _ _ (os.set k cy) _ hv.out.2.2 (by omega) ho2.out).mono ?_
        rintro e w' ⟨⟨m, rfl, ht⟩, rfl⟩
        have Ht := Lib.hid ht
        have hm9 : m ≤ k + 1 := by have := ht.1; rwa [hv.out.2.2] at this
        clear ht
        go_wp2_with fail
        refine (impl_limited _ m _ _ (by omega)).mono ?_
        rintro e w' ⟨he, rfl⟩
        obtain ⟨rs, v, rfl, hown, h60, l, hcl, hvl, hrs⟩ := (capEnd_of Ht.out he).gives hv.out.1 ho2.out hv.out.2.2
        have hfin : Hid (∃ v', v = v' ∧ NatAddIs xs ys rs ∧ ResI w _ v' rs ∧ Below w.heap.size w _) :=
          ⟨v, rfl, .inl ⟨⟨k1.out, k2.out⟩, l, hcl, hvl.trans hv.out.2.1, hrs⟩, ⟨by omega, hown⟩, hb2.out⟩
        clear he hown hcl hvl hrs
        go_wp2_with fail
        go_ret
        obtain ⟨v', rfl, h⟩ := hfin.out
        exact ⟨rs, _, rfl, h⟩
  · obtain ⟨N, rfl⟩ : ∃ N, N = n1 := ⟨_, rfl⟩
    have hN1 : N ≤ N := by omega
    have hN2 : n2 ≤ N := by omega
    go_wp2_with (refine wpList_make_full _ rfl _ _ 30 rfl w.heap.size 3 i0 (.int .i64 0) 1 Tryz.underlying30 hi hz0 hz1 _ _ _ _ (N + 1) rfl rfl (by omega) (by omega) (by rw [hz2]; omega) (by unfold maxLen; omega) (Nat.le_refl _) ?_)
    have hrep : (madeCells #[Value.int .i64 0] (N + 1)).toList = (List.replicate (N + 1) (0 : Int)).map (.int .i64) := by simp [toList_madeCells_one]
    intro w1 ho hg
    have O1 : Hid (w1.ownsRow w.heap.size 3 1 (.slice (some ⟨w.heap.size, 0, none⟩) (N + 1) (N + 1)) (N + 1) ((List.replicate (N + 1) (0 : Int)).map (.int .i64))) := by
      unfold Hid; rw [← hrep]; exact ho
    have B1 := Lib.hid ((Below.refl w.heap.size w).grown hg (Nat.le_refl _) (fun k hk => by cases hk))
    have M1 := Lib.hid (SumAt.start xs ys N)
    clear ho hg hrep
    go_wp2_with fail
    go_loopw [7, 8, 26] (fun x _ y wr => ∃ (k : Nat) (cy : Int) (os : List Int), k ≤ N ∧ y = .int .i64 (k : Int) ∧ x = .int .i64 cy ∧ 0 ≤ cy ∧ cy ≤ 1 ∧ Hid (SumAt xs ys N k cy os) ∧ Hid (wr.ownsRow w.heap.size 3 1 (.slice (some ⟨w.heap.size, 0, none⟩) (N + 1) (N + 1)) (N + 1) (os.map (.int .i64))) ∧ Hid (Below w.heap.size w wr)) (fun _ _ y _ => N - (intOf y).toNat)
    case atStart => exact ⟨0, 0, _, Nat.zero_le _, rfl, rfl, by omega, by omega, M1, O1, B1⟩
    case round =>
      obtain ⟨k, cy, os, hk, rfl, rfl, c0, c9, hs, ho, hb⟩ := hrel
      obtain ⟨wo, rfl⟩ : ∃ wo : World, wo = wr := ⟨_, rfl⟩
      by_cases hlt : k < N
      · obtain ⟨x, hx⟩ : ∃ x, lim xs k = x := ⟨_, rfl⟩
        obtain ⟨y, hy⟩ : ∃ y, lim ys k = y := ⟨_, rfl⟩
        have bx := lim_bd k1.out.1.1 k
        have bY := lim_bd k2.out.1.1 k
        rw [hx] at bx
        rw [hy] at bY
        obtain ⟨x0, x1⟩ := bx
        obtain ⟨y0, y1⟩ := bY
        have hnx := Lib.hid (hs.out.step hx hy x0 x1 y0 y1 hlt)
        have hS : 0 ≤ (cy + (x + y)) / 1000000000 ∧ (cy + (x + y)) / 1000000000 ≤ 1 := by omega
        have HS := Lib.hid hS
        have hio : k < os.length := by rw [hs.out.1]; omega
        obtain ⟨o, hoo⟩ : ∃ o, o = os[k] := ⟨_, rfl⟩
        have g3 : wo.cell? ⟨w.heap.size, k, none⟩ = some (.int .i64 o) := by
          rw [ho.out.cellAt k (by omega)]; simp [hio, hoo]
        have hfr := ho.out.frozenAt k
        have hst := ho.out.stored k (.int .i64 ((cy + (x + y)) % 1000000000))
        rw [map_set_int] at hst
        have ho2 := Lib.hid hst.1
        have hb2 := Lib.hid (below_marked hb.out ho.out hst.2 (Nat.le_refl _) hb.out.size)
        have HX := Lib.hid hx
        have HY := Lib.hid hy
        have hk0 : (0 : Int) ≤ (k : Int) := by omega
        have hkn : (k : Int) < (N : Int) := by omega
        clear hx hy hoo hst hS
        go_wp2_with fail
        refine (impl_limbAt _ _ _ xs k _ H1.out.1 H1.out.2.1 (H1.out.2.2.1.below hb.out)).mono ?_
        rintro e w' ⟨rfl, rfl⟩
        rw [HX.out]
        go_wp2_with fail
        refine (impl_limbAt _ _ _ ys k _ H2.out.1 H2.out.2.1 (H2.out.2.2.1.below hb.out)).mono ?_
        rintro e w' ⟨rfl, rfl⟩
        rw [HY.out]
        go_wp2_with fail
        go_roundw
        case rel => exact ⟨k + 1, _, _, by omega, by go_num, rfl, HS.out.1, HS.out.2, hnx, ho2, hb2⟩
        case measure => simp [intOf]; omega
      · obtain rfl : k = N := by omega
        have hv := Lib.hid (hs.out.last (by rw [H1.out.1]; omega) (by rw [H2.out.1]; omega))
        have hio : k < os.length := by rw [hs.out.1]; omega
        obtain ⟨o, hoo⟩ : ∃ o, o = os[k] := ⟨_, rfl⟩
        have g3 : wo.cell? ⟨w.heap.size, k, none⟩ = some (.int .i64 o) := by
          rw [ho.out.cellAt k (by omega)]; simp [hio, hoo]
        have hfr := ho.out.frozenAt k
        have hst := ho.out.stored k (.int .i64 cy)
        rw [map_set_int] at hst
        have ho2 := Lib.hid hst.1
        have hb2 := Lib.hid (below_marked hb.out ho.out hst.2 (Nat.le_refl _) hb.out.size)
        have hk0 : (0 : Int) ≤ (k : Int) := by omega
        clear hoo hst
        go_wp2_with fail
        refine (impl_trim w.heap.size _ _ _ (os.set k cy) _ hv.out.2.2 (by omega) ho2.out).mono ?_
        rintro e w' ⟨⟨m, rfl, ht⟩, rfl⟩
        have Ht := Lib.hid ht
        have hm9 : m ≤ k + 1 := by have := ht.1; rwa [hv.out.2.2] at this
        clear ht
        go_wp2_with fail
        refine (impl_limited _ m _ _ (by omega)).mono ?_
        rintro e w' ⟨he, rfl⟩
        obtain ⟨rs, v, rfl, hown, h60, l, hcl, hvl, hrs⟩ := (capEnd_of Ht.out he).gives hv.out.1 ho2.out hv.out.2.2
        have hfin : Hid (∃ v', v = v' ∧ NatAddIs xs ys rs ∧ ResI w _ v' rs ∧ Below w.heap.size w _) :=
          ⟨v, rfl, .inl ⟨⟨k1.out, k2.out⟩, l, hcl, hvl.trans hv.out.2.1, hrs⟩, ⟨by omega, hown⟩, hb2.out⟩
        clear he hown hcl hvl hrs
        go_wp2_with fail
        go_ret
        obtain ⟨v', rfl, h⟩ := hfin.out
        exact ⟨rs, _, rfl, h⟩
end Go.Proofs.YtegclofijaoajaaGreat
namespace Go.Proofs.YtegclofijaoajaaGreat
set_option maxRecDepth 100000
open Go.RowKit

theorem Reads.drewN {w : World} {A : Option Addr} {xs : List Value} (h : Reads w A xs) (n : Nat) : Reads (w.drewN n) A xs := h
theorem impl_limbAt_v (A : Option Addr) (n c : Nat) (xs : List Int) (k : Nat) (y : Int) (w : World) (hy : lim xs k = y) (hn : xs.length = n) (hb : n ≤ 1048576) (hr : Reads w A (xs.map (.int .i64))) :
    Calls Tryz.prog 263 #[.slice A n c, .int .i64 k] w fun e w' => e = .returned (.int .i64 y) ∧ w = w' := by
  subst hy; exact impl_limbAt A n c xs k w hn hb hr

set_option maxHeartbeats 1600000 in
theorem impl_natSub (A1 : Option Addr) (n1 c1 : Nat) (xs : List Int) (A2 : Option Addr) (n2 c2 : Nat) (ys : List Int) (w : World) (h1 : InI w A1 n1 xs) (h2 : InI w A2 n2 ys) :
    Calls Tryz.prog 268 #[.slice A1 n1 c1, .slice A2 n2 c2] w fun e w' => ∃ rs v, e = .returned v ∧ NatSubIs xs ys rs ∧ ResI w w' v rs ∧ Below w.heap.size w w' := by
  obtain ⟨i0, hi, hz0, hz1, hz2⟩ := info_parts Tryz.infoI
  have H1 := Lib.hid h1
  have H2 := Lib.hid h2
  clear h1 h2
  go_enter Tryz.func268, Tryz.ntmps268
  go_wp2_with fail
  refine (impl_natOk' A1 n1 c1 xs _ H1.out).mono ?_
  rintro e w' ⟨⟨b1, rfl, ho1⟩, rfl⟩
  cases b1
  · have hfin : Hid (NatSubIs xs ys []) := .inr ⟨(fun h => by have := ho1.2 h.1; cases this), rfl⟩
    clear ho1
    go_wp2_with fail
    go_ret
    exact ⟨[], _, rfl, hfin.out, ⟨by simp, World.ownsRow_nil _ _ _ _⟩, Below.refl _ _⟩
  have k1 := Lib.hid (ho1.1 rfl)
  clear ho1
  go_wp2_with fail
  refine (impl_natOk' A2 n2 c2 ys _ H2.out).mono ?_
  rintro e w' ⟨⟨b2, rfl, ho2⟩, rfl⟩
  cases b2
  · have hfin : Hid (NatSubIs xs ys []) := .inr ⟨(fun h => by have := ho2.2 h.2.1; cases this), rfl⟩
    clear ho2
    go_wp2_with fail
    go_ret
    exact ⟨[], _, rfl, hfin.out, ⟨by simp, World.ownsRow_nil _ _ _ _⟩, Below.refl _ _⟩
  have k2 := Lib.hid (ho2.1 rfl)
  clear ho2
  go_wp2_with fail
  refine (impl_cmp A1 n1 c1 xs A2 n2 c2 ys _ H1.out.canon H2.out.canon k1.out.1 k2.out.1).mono ?_
  rintro e wc ⟨rfl, hb⟩
  have HB := Lib.hid hb
  by_cases hlt : val xs < val ys
  · have hfin : Hid (NatSubIs xs ys []) := .inr ⟨(fun h => by have := h.2.2; omega), rfl⟩
    rw [cmpV_lt hlt]
    clear hb hlt
    go_wp2_with fail
    go_ret
    exact ⟨[], _, rfl, hfin.out, ⟨by simp, World.ownsRow_nil _ _ _ _⟩, HB.out⟩
  have hge : Hid (val ys ≤ val xs) := Lib.hid (by omega)
  have hcm : 0 ≤ cmpV (val xs) (val ys) := by
    by_cases e : val xs = val ys
    · rw [cmpV_eq e]; omega
    · rw [cmpV_gt (by omega)]; omega
  obtain ⟨cm, hcm2⟩ : ∃ cm, cm = cmpV (val xs) (val ys) := ⟨_, rfl⟩
  rw [← hcm2] at hcm ⊢
  clear hb hlt hcm2
  have hn1 : n1 ≤ 60 := by have := k1.out.2; rwa [H1.out.1] at this
  have hn2 : n2 ≤ n1 := by have := longer_ge k2.out.1 k1.out.1.1 hge.out; rwa [H1.out.1, H2.out.1] at this
  have sz := HB.out.size
  go_wp2_with (refine wpList_make_full _ rfl _ _ 30 rfl w.heap.size 3 i0 (.int .i64 0) 1 Tryz.underlying30 hi hz0 hz1 _ _ _ _ n1 rfl rfl rfl rfl (by rw [hz2]; omega) (by unfold maxLen; omega) sz ?_)
  have hrep : (madeCells #[Value.int .i64 0] n1).toList = (List.replicate n1 (0 : Int)).map (.int .i64) := by simp [toList_madeCells_one]
  intro w1 ho hg
  obtain ⟨g, hgE⟩ : ∃ g, g = wc.heap.size := ⟨_, rfl⟩
  rw [← hgE] at ho ⊢
  have O1 : Hid (w1.ownsRow w.heap.size 3 1 (.slice (some ⟨g, 0, none⟩) n1 n1) n1 ((List.replicate n1 (0 : Int)).map (.int .i64))) := by
    unfold Hid; rw [← hrep]; simpa using ho
  have B1 := Lib.hid (HB.out.grown hg sz (fun k hk => by cases hk))
  have M1 := Lib.hid (DiffAt.start xs ys n1)
  clear ho hg hrep hgE
  go_wp2_with fail
  go_loopw [6, 7, 8, 28] (fun x _ _ y wr => ∃ (k : Nat) (bo : Int) (os : List Int), k ≤ n1 ∧ y = .int .i64 (k : Int) ∧ x = .int .i64 bo ∧ 0 ≤ bo ∧ bo ≤ 1 ∧ Hid (DiffAt xs ys n1 k bo os) ∧ Hid (wr.ownsRow w.heap.size 3 1 (.slice (some ⟨g, 0, none⟩) n1 n1) n1 (os.map (.int .i64))) ∧ Hid (Below w.heap.size w wr)) (fun _ _ _ y _ => n1 - (intOf y).toNat)
  case atStart => exact ⟨0, 0, _, Nat.zero_le _, rfl, rfl, by omega, by omega, M1, O1, B1⟩
  case round =>
    obtain ⟨k, bo, os, hk, rfl, rfl, c0, c9, hs, ho, hb⟩ := hrel
    obtain ⟨wo, rfl⟩ : ∃ wo : World, wo = wr := ⟨_, rfl⟩
    by_cases hlt : k < n1
    · obtain ⟨x, hx⟩ : ∃ x, lim xs k = x := ⟨_, rfl⟩
      obtain ⟨y, hy⟩ : ∃ y, lim ys k = y := ⟨_, rfl⟩
      have bx := lim_bd k1.out.1.1 k
      have bY := lim_bd k2.out.1.1 k
      rw [hx] at bx
      rw [hy] at bY
      obtain ⟨x0, x1⟩ := bx
      obtain ⟨y0, y1⟩ := bY
      have hix1 : k < xs.length := by rw [H1.out.1]; omega
      obtain ⟨b1, o1, rfl, hbs1, hcc1⟩ := (H1.out.2.2.1.below hb.out).at_ (by simp; omega)
      have g1 : wo.cell? ⟨b1, o1 + k, none⟩ = some (.int .i64 x) := (hcc1 k (by simpa using hix1)).trans (by rw [← hx]; unfold lim; rw [List.getD_eq_getElem?_getD, List.getElem?_eq_getElem hix1]; simp)
      have hio : k < os.length := by rw [hs.out.1]; omega
      obtain ⟨o, hoo⟩ : ∃ o, o = os[k] := ⟨_, rfl⟩
      have g3 : wo.cell? ⟨g, k, none⟩ = some (.int .i64 o) := by
        rw [ho.out.cellAt k (by omega)]; simp [hio, hoo]
      have hfr := ho.out.frozenAt k
      have HX := Lib.hid hx
      have HY := Lib.hid hy
      have R2 := Lib.hid (H2.out.2.2.1.below hb.out)
      have hk0 : (0 : Int) ≤ (k : Int) := by omega
      have hkn : (k : Int) < (n1 : Int) := by omega
      by_cases hneg : x - y - bo < 0
      · have hnx := Lib.hid (hs.out.step1 hx hy x0 y1 hlt rfl hneg)
        have hst := ho.out.stored k (.int .i64 (x - y - bo + 1000000000))
        rw [map_set_int] at hst
        have ho2 := Lib.hid hst.1
        have hb2 := Lib.hid (below_marked hb.out ho.out hst.2 (Nat.le_refl _) hb.out.size)
        clear hx hy hoo hst hcc1
        go_wp2_with fail
        go_quiet ((go_at_call 263; first | exact quiet_add_left (impl_limbAt_v _ _ _ ys k y _ HY.out H2.out.1 H2.out.2.1 (R2.out.drewN _)) | exact quiet_left (impl_limbAt_v _ _ _ ys k y _ HY.out H2.out.1 H2.out.2.1 (R2.out.drewN _))))
        go_wp2_with fail
        go_roundw
        case rel => exact ⟨k + 1, 1, _, by omega, by go_num, rfl, by omega, by omega, hnx, ho2, below_drewN hb2.out _⟩
        case measure => simp [intOf]; omega
      · have hnx := Lib.hid (hs.out.step0 hx hy x1 y0 hlt rfl (by omega))
        have hst := ho.out.stored k (.int .i64 (x - y - bo))
        rw [map_set_int] at hst
        have ho2 := Lib.hid hst.1
        have hb2 := Lib.hid (below_marked hb.out ho.out hst.2 (Nat.le_refl _) hb.out.size)
        clear hx hy hoo hst hcc1
        go_wp2_with fail
        go_quiet ((go_at_call 263; first | exact quiet_add_left (impl_limbAt_v _ _ _ ys k y _ HY.out H2.out.1 H2.out.2.1 (R2.out.drewN _)) | exact quiet_left (impl_limbAt_v _ _ _ ys k y _ HY.out H2.out.1 H2.out.2.1 (R2.out.drewN _))))
        go_wp2_with fail
        go_roundw
        case rel => exact ⟨k + 1, 0, _, by omega, by go_num, rfl, by omega, by omega, hnx, ho2, below_drewN hb2.out _⟩
        case measure => simp [intOf]; omega
    · obtain rfl : k = n1 := by omega
      have hv := Lib.hid (hs.out.done (by rw [H1.out.1]; exact Nat.le_refl _) (by rw [H2.out.1]; exact hn2) hge.out)
      go_wp2_with fail
      refine (impl_trim w.heap.size _ _ _ os _ hv.out.2.2 (by omega) ho.out).mono ?_
      rintro e w' ⟨⟨m, rfl, ht⟩, rfl⟩
      obtain ⟨hcn, hvl⟩ := ht.canon hv.out.1
      have hm9 : m ≤ k := by have := ht.1; rwa [hv.out.2.2] at this
      have hlm : (os.take m).length = m := by have := ht.1; simp; omega
      have hown := own_take ho.out hm9
      rw [← List.map_take] at hown
      have hfin : Hid (NatSubIs xs ys (os.take m) ∧ ResI w wo (.slice (some ⟨g, 0, none⟩) m k) (os.take m) ∧ Below w.heap.size w wo) :=
        ⟨.inl ⟨⟨k1.out, k2.out, hge.out⟩, os.take m, hcn, hvl.trans hv.out.2.1, by rw [(hcn.ok (by rw [hlm]; omega)).2]⟩, ⟨by rw [hlm]; omega, by rw [hlm]; exact hown⟩, hb.out⟩
      clear hcn hvl hlm hown ht
      go_wp2_with fail
      go_ret
      exact ⟨_, _, rfl, hfin.out⟩
end Go.Proofs.YtegclofijaoajaaGreat
namespace Go.Proofs.YtegclofijaoajaaGreat
set_option maxRecDepth 100000
open Go.RowKit

set_option maxHeartbeats 1600000 in
theorem impl_natMul (A1 : Option Addr) (n1 c1 : Nat) (xs : List Int) (A2 : Option Addr) (n2 c2 : Nat) (ys : List Int) (w : World) (h1 : InI w A1 n1 xs) (h2 : InI w A2 n2 ys) :
    Calls Tryz.prog 246 #[.slice A1 n1 c1, .slice A2 n2 c2] w fun e w' => ∃ rs v, e = .returned v ∧ NatMulIs xs ys rs ∧ ResI w w' v rs ∧ Below w.heap.size w w' := by
  obtain ⟨i0, hi, hz0, hz1, hz2⟩ := info_parts Tryz.infoI
  have H1 := Lib.hid h1
  have H2 := Lib.hid h2
  clear h1 h2
  go_enter Tryz.func246, Tryz.ntmps246
  go_wp2_with fail
  refine (impl_natOk' A1 n1 c1 xs _ H1.out).mono ?_
  rintro e w' ⟨⟨b1, rfl, ho1⟩, rfl⟩
  cases b1
  · have hfin : Hid (NatMulIs xs ys []) := .inr ⟨(fun h => by have := ho1.2 h.1; cases this), rfl⟩
    clear ho1
    go_wp2_with fail
    go_ret
    exact ⟨[], _, rfl, hfin.out, ⟨by simp, World.ownsRow_nil _ _ _ _⟩, Below.refl _ _⟩
  have k1 := Lib.hid (ho1.1 rfl)
  clear ho1
  go_wp2_with fail
  refine (impl_natOk' A2 n2 c2 ys _ H2.out).mono ?_
  rintro e w' ⟨⟨b2, rfl, ho2⟩, rfl⟩
  cases b2
  · have hfin : Hid (NatMulIs xs ys []) := .inr ⟨(fun h => by have := ho2.2 h.2; cases this), rfl⟩
    clear ho2
    go_wp2_with fail
    go_ret
    exact ⟨[], _, rfl, hfin.out, ⟨by simp, World.ownsRow_nil _ _ _ _⟩, Below.refl _ _⟩
  have k2 := Lib.hid (ho2.1 rfl)
  clear ho2
  by_cases e1 : n1 = 0
  · have hfin : Hid (NatMulIs xs ys []) := .inl ⟨⟨k1.out, k2.out⟩, [], canon_nil, by rw [List.eq_nil_of_length_eq_zero (H1.out.1.trans e1)]; simp [val], rfl⟩
    have ht : ((n1 : Int) == 0) = true := by simp [e1]
    clear e1
    go_wp2_with fail
    go_ret
    exact ⟨[], _, rfl, hfin.out, ⟨by simp, World.ownsRow_nil _ _ _ _⟩, Below.refl _ _⟩
  by_cases e2 : n2 = 0
  · have hfin : Hid (NatMulIs xs ys []) := .inl ⟨⟨k1.out, k2.out⟩, [], canon_nil, by rw [List.eq_nil_of_length_eq_zero (H2.out.1.trans e2)]; simp [val], rfl⟩
    have ht : ((n1 : Int) == 0) = false := by simp [e1]
    have ht2 : ((n2 : Int) == 0) = true := by simp [e2]
    clear e1 e2
    go_wp2_with fail
    go_ret
    exact ⟨[], _, rfl, hfin.out, ⟨by simp, World.ownsRow_nil _ _ _ _⟩, Below.refl _ _⟩
  have ht1 : ((n1 : Int) == 0) = false := by simp [e1]
  have ht2 : ((n2 : Int) == 0) = false := by simp [e2]
  have hp1 : 0 < n1 := by omega
  have hp2 : 0 < n2 := by omega
  have hn1 : n1 ≤ 60 := by have := k1.out.2; rwa [H1.out.1] at this
  have hn2 : n2 ≤ 60 := by have := k2.out.2; rwa [H2.out.1] at this
  clear e1 e2
  go_wp2_with (refine wpList_make_full _ rfl _ _ 30 rfl w.heap.size 3 i0 (.int .i64 0) 1 Tryz.underlying30 hi hz0 hz1 _ _ _ _ (n1 + n2) rfl rfl (by omega) (by omega) (by rw [hz2]; omega) (by unfold maxLen; omega) (Nat.le_refl _) ?_)
  have hrep : (madeCells #[Value.int .i64 0] (n1 + n2)).toList = (List.replicate (n1 + n2) (0 : Int)).map (.int .i64) := by
    simp [toList_madeCells_one]
  intro w1 ho hg
  have O1 : Hid (w1.ownsRow w.heap.size 3 1 (.slice (some ⟨w.heap.size, 0, none⟩) (n1 + n2) (n1 + n2)) (n1 + n2) ((List.replicate (n1 + n2) (0 : Int)).map (.int .i64))) := by
    unfold Hid; rw [← hrep]; exact ho
  have B1 := Lib.hid ((Below.refl w.heap.size w).grown hg (Nat.le_refl _) (fun k hk => by cases hk))
  have M1 : Hid (MulAt xs ys (n1 + n2) 0 (List.replicate (n1 + n2) 0)) :=
    ⟨by simp, zeros_inR _, by rw [zeros_val]; simp [val], zeros_from _ _⟩
  clear ho hg hrep
  go_wp2_with fail
  go_loopw [35] (fun z wr => ∃ (i : Nat) (os : List Int), i ≤ n1 ∧ z = .int .i64 i ∧ Hid (MulAt xs ys (n1 + n2) i os) ∧ Hid (wr.ownsRow w.heap.size 3 1 (.slice (some ⟨w.heap.size, 0, none⟩) (n1 + n2) (n1 + n2)) (n1 + n2) (os.map (.int .i64))) ∧ Hid (Below w.heap.size w wr)) (fun z _ => n1 - (intOf z).toNat)
  case atStart => exact ⟨0, _, Nat.zero_le _, rfl, M1, O1, B1⟩
  case round =>
    obtain ⟨i, os, hin, rfl, hm, ho, hb⟩ := hrel
    by_cases hlt : i < n1
    · obtain ⟨wo, rfl⟩ : ∃ wo : World, wo = wr := ⟨_, rfl⟩
      have hix : i < xs.length := by rw [H1.out.1]; exact hlt
      obtain ⟨x, hx⟩ : ∃ x, x = xs[i] := ⟨_, rfl⟩
      have hxr := k1.out.1.1 _ (List.getElem_mem hix)
      rw [← hx] at hxr
      obtain ⟨x0, x1⟩ := hxr
      have Hx := Lib.hid hx
      have hi0 : (0 : Int) ≤ (i : Int) := by omega
      have hi1 : (i : Int) < (n1 : Int) := by omega
      have hrow := Lib.hid (hm.out.row x)
      clear hx
      go_wp2_with fail
      go_loopw [7, 40] (fun y z wr => ∃ (j : Nat) (cy : Int) (os : List Int), j ≤ n2 ∧ z = .int .i64 j ∧ y = .int .i64 cy ∧ 0 ≤ cy ∧ cy ≤ 999999999 ∧ Hid (RowAt xs ys (n1 + n2) i x j cy os) ∧ Hid (wr.ownsRow w.heap.size 3 1 (.slice (some ⟨w.heap.size, 0, none⟩) (n1 + n2) (n1 + n2)) (n1 + n2) (os.map (.int .i64))) ∧ Hid (Below w.heap.size w wr)) (fun _ z _ => n2 - (intOf z).toNat)
      case atStart => exact ⟨0, 0, os, Nat.zero_le _, rfl, rfl, by omega, by omega, hrow, ho, hb⟩
      case round =>
        obtain ⟨j, cy, os, hjn, rfl, rfl, cy0, cy1, hr, ho, hb⟩ := hrel
        obtain ⟨wi, rfl⟩ : ∃ wi : World, wi = wr := ⟨_, rfl⟩
        by_cases hjt : j < n2
        · have hjy : j < ys.length := by rw [H2.out.1]; exact hjt
          obtain ⟨b1, o1, rfl, hbs1, hc1⟩ := (H1.out.2.2.1.below hb.out).at_ (by simp; omega)
          have g1 : wi.cell? ⟨b1, o1 + i, none⟩ = some (.int .i64 x) := (hc1 i (by simpa using hix)).trans (by simp [Hx.out])
          obtain ⟨b2, o2, rfl, hbs2, hc2⟩ := (H2.out.2.2.1.below hb.out).at_ (by simp; omega)
          obtain ⟨y, hy⟩ : ∃ y, y = ys[j] := ⟨_, rfl⟩
          have g2 : wi.cell? ⟨b2, o2 + j, none⟩ = some (.int .i64 y) := (hc2 j (by simpa using hjy)).trans (by simp [hy])
          have hyr := k2.out.1.1 _ (List.getElem_mem hjy)
          rw [← hy] at hyr
          obtain ⟨y0, y1⟩ := hyr
          have hij : i + j < os.length := by rw [hr.out.1]; omega
          obtain ⟨o, hoo⟩ : ∃ o, o = os[i + j] := ⟨_, rfl⟩
          have g3 : wi.cell? ⟨w.heap.size, i + j, none⟩ = some (.int .i64 o) := by
            rw [ho.out.cellAt (i + j) (by omega)]; simp [hij, hoo]
          have hor := hr.out.2.1 _ (List.getElem_mem hij)
          rw [← hoo] at hor
          obtain ⟨q0, q1⟩ := hor
          obtain ⟨p0, p1⟩ := prod_bd x0 x1 y0 y1
          have hnx := Lib.hid (hr.out.step hjy hy hij hoo (by omega) (by omega))
          have hcm : o + x * y + cy = cy + (o + x * y) := by omega
          rw [hcm] at hnx
          have hfr := ho.out.frozenAt (i + j)
          have hst := ho.out.stored (i + j) (.int .i64 ((cy + (o + x * y)) % 1000000000))
          rw [map_set_int] at hst
          have ho2 := Lib.hid hst.1
          have hb2 := Lib.hid (below_marked hb.out ho.out hst.2 (Nat.le_refl _) hb.out.size)
          have hj0 : (0 : Int) ≤ (j : Int) := by omega
          have hj1 : (j : Int) < (n2 : Int) := by omega
          have hij2 : (i : Int) + (j : Int) < ((n1 + n2 : Nat) : Int) := by omega
          have hij3 : (i : Int) + (j : Int) < (n1 : Int) + (n2 : Int) := by omega
          have hb3 : 0 ≤ (cy + (o + x * y)) / 1000000000 ∧ (cy + (o + x * y)) / 1000000000 ≤ 999999999 := by omega
          have Hb3 := Lib.hid hb3
          clear hc1 hc2 hy hoo hst hb3 hcm
          go_wp2_with fail
          go_quiet (fail)
          go_wp2_with fail
          go_roundw
          case rel => exact ⟨j + 1, _, _, by omega, by go_num, rfl, Hb3.out.1, Hb3.out.2, hnx, ho2, below_drewN hb2.out _⟩
          case measure => simp [intOf]; omega
        · obtain rfl : j = n2 := by omega
          have hjl : i + ys.length < os.length := by rw [H2.out.1, hr.out.1]; omega
          have hr2 := hr.out
          rw [← H2.out.1] at hr2
          have hnx := Lib.hid (hr2.next hix Hx.out hjl)
          rw [H2.out.1] at hnx
          obtain ⟨o, hoo⟩ : ∃ o, o = os[i + j]'(by rw [hr.out.1]; omega) := ⟨_, rfl⟩
          have g3 : wi.cell? ⟨w.heap.size, i + j, none⟩ = some (.int .i64 o) := by
            rw [ho.out.cellAt (i + j) (by omega)]; simp [hoo]
          have hfr := ho.out.frozenAt (i + j)
          have hst := ho.out.stored (i + j) (.int .i64 cy)
          rw [map_set_int] at hst
          have ho2 := Lib.hid hst.1
          have hb2 := Lib.hid (below_marked hb.out ho.out hst.2 (Nat.le_refl _) hb.out.size)
          have hij2 : (i : Int) + (j : Int) < ((n1 + j : Nat) : Int) := by omega
          clear hoo hst hr2
          go_wp2_with fail
          go_roundw
          case rel => exact ⟨i + 1, _, by omega, by go_num, hnx, ho2, hb2⟩
          case measure => simp [intOf]; omega
    · obtain rfl : i = n1 := by omega
      have hv : Hid (InR os ∧ val os = val xs * val ys ∧ os.length = i + n2) :=
        ⟨hm.out.2.1, by have := hm.out.2.2.1; rwa [List.take_of_length_le (by rw [H1.out.1]; exact Nat.le_refl _)] at this, hm.out.1⟩
      go_wp2_with fail
      refine (impl_trim w.heap.size _ (i + n2) (i + n2) os _ hv.out.2.2 (by omega) ho.out).mono ?_
      rintro e w' ⟨⟨m, rfl, ht⟩, rfl⟩
      have Ht := Lib.hid ht
      have hm9 : m ≤ i + n2 := by have := ht.1; rwa [hv.out.2.2] at this
      clear ht
      go_wp2_with fail
      refine (impl_limited _ m _ _ (by omega)).mono ?_
      rintro e w' ⟨he, rfl⟩
      obtain ⟨rs, v, rfl, hown, h60, l, hcl, hvl, hrs⟩ := (capEnd_of Ht.out he).gives hv.out.1 ho.out hv.out.2.2
      have hfin : Hid (∃ v', v = v' ∧ NatMulIs xs ys rs ∧ ResI w _ v' rs ∧ Below w.heap.size w _) :=
        ⟨v, rfl, .inl ⟨⟨k1.out, k2.out⟩, l, hcl, hvl.trans hv.out.2.1, hrs⟩, ⟨by omega, hown⟩, hb.out⟩
      clear he hown hcl hvl hrs
      go_wp2_with fail
      go_ret
      obtain ⟨v', rfl, h⟩ := hfin.out
      exact ⟨rs, _, rfl, h⟩
end Go.Proofs.YtegclofijaoajaaGreat
namespace Go.Proofs.YtegclofijaoajaaGreat
set_option maxRecDepth 100000
open Go.RowKit

theorem Reads.grown {w w' : World} {A : Option Addr} {xs : List Value} {g : Nat} (h : Reads w A xs) (hg : w.grownBy w' (some g)) (hne : ∀ b o, A = some ⟨b, o, none⟩ → b ≠ g) : Reads w' A xs := by
  rcases h with rfl | ⟨b, o, rfl, hb, hc⟩
  · exact .inl rfl
  · exact .inr ⟨b, o, rfl, by have := hg.size; omega, fun j hj => (World.cell?_of_block (a := ⟨b, o + j, none⟩) (hg.block b hb (fun e => hne b o rfl (by simpa using e)))).trans (hc j hj)⟩
theorem map_append_set (P X : List Int) (i : Nat) (d : Int) : ((P ++ X).map (Value.int .i64)).set (P.length + i) (.int .i64 d) = ((P ++ X.set i d).map (.int .i64)) := by
  rw [map_set_int, List.set_append_right _ _ (by omega), Nat.add_sub_cancel_left]
theorem map_append_get (P X : List Int) (i : Nat) (h : i < X.length) : ((P ++ X).map (Value.int .i64))[P.length + i]? = some (.int .i64 X[i]) := by
  rw [List.getElem?_map, List.getElem?_append_right (by omega), Nat.add_sub_cancel_left, List.getElem?_eq_getElem h]; rfl

theorem tmod_floor (n : Int) : ((n.tmod 1000000000) + 1000000000).tmod 1000000000 = n % 1000000000 := by
  by_cases h : 0 ≤ n
  · rw [Int.tmod_eq_emod_of_nonneg h, Int.tmod_eq_emod_of_nonneg (by omega)]; omega
  · obtain ⟨k, rfl⟩ : ∃ k, n = -k := ⟨-n, by omega⟩
    rw [Int.neg_tmod, Int.tmod_eq_emod_of_nonneg (show 0 ≤ k by omega), Int.tmod_eq_emod_of_nonneg (by omega)]; omega
theorem tmod_bd (n : Int) : -1000000000 < n.tmod 1000000000 ∧ n.tmod 1000000000 < 1000000000 := by
  by_cases h : 0 ≤ n
  · rw [Int.tmod_eq_emod_of_nonneg h]; omega
  · obtain ⟨k, rfl⟩ : ∃ k, n = -k := ⟨-n, by omega⟩
    rw [Int.neg_tmod, Int.tmod_eq_emod_of_nonneg (show 0 ≤ k by omega)]; omega
theorem impl_floorMod (n : Int) (w : World) :
    Calls Tryz.prog 265 #[.int .i64 n, .int .i64 1000000000] w fun e w' => e = .returned (.int .i64 (n % 1000000000)) ∧ w = w' := by
  have hb := tmod_bd n
  go_enter Tryz.func265, Tryz.ntmps265
  go_wp2_with fail
  go_ret
  exact ⟨ret_int ((Int.tmod_eq_emod_of_nonneg (a := n.tmod 1000000000 + 1000000000) (by omega)).symm.trans (tmod_floor n)), rfl⟩

/-- What a product with one limb ends in: the whole list, in memory of its own. -/
def TimesEnd (t : Int) (L : Nat) (w w' : World) (e : Ending) : Prop := ∃ r g, e = .returned (.slice (some ⟨g, 0, none⟩) L L) ∧ g = w.heap.size ∧ r.length = L ∧ InR r ∧ val r = t ∧ w'.ownsRow w.heap.size 3 1 (.slice (some ⟨g, 0, none⟩) L L) L (r.map (.int .i64)) ∧ Below w.heap.size w w'
set_option maxHeartbeats 800000 in
theorem impl_timesLimb (A1 : Option Addr) (n1 c1 : Nat) (xs : List Int) (s : Int) (w : World) (hn : xs.length = n1) (hb1 : n1 ≤ 1048576) (hr : Reads w A1 (xs.map (.int .i64))) (k1 : InR xs) (s0 : 0 ≤ s) (s1 : s ≤ 999999999) :
    Calls Tryz.prog 247 #[.slice A1 n1 c1, .int .i64 s] w fun e w' => TimesEnd (val xs * s) (n1 + 1) w w' e := by
  obtain ⟨i0, hi, hz0, hz1, hz2⟩ := info_parts Tryz.infoI
  have Hn := Lib.hid hn
  have Hr := Lib.hid hr
  have K1 := Lib.hid k1
  clear hn hr k1
  go_enter Tryz.func247, Tryz.ntmps247
  go_wp2_with (refine wpList_make_full _ rfl _ _ 30 rfl w.heap.size 3 i0 (.int .i64 0) 1 Tryz.underlying30 hi hz0 hz1 _ _ _ _ (n1 + 1) rfl rfl (by omega) (by omega) (by rw [hz2]; omega) (by unfold maxLen; omega) (Nat.le_refl _) ?_)
  have hrep : (madeCells #[Value.int .i64 0] (n1 + 1)).toList = (List.replicate (n1 + 1) (0 : Int)).map (.int .i64) := by simp [toList_madeCells_one]
  intro w1 ho hg
  have O1 : Hid (w1.ownsRow w.heap.size 3 1 (.slice (some ⟨w.heap.size, 0, none⟩) (n1 + 1) (n1 + 1)) (n1 + 1) ((List.replicate (n1 + 1) (0 : Int)).map (.int .i64))) := by
    unfold Hid; rw [← hrep]; exact ho
  have B1 := Lib.hid ((Below.refl w.heap.size w).grown hg (Nat.le_refl _) (fun k hk => by cases hk))
  have M1 : Hid (TimesAt xs s 0 0 (List.replicate (n1 + 1) 0)) := by unfold Hid; rw [← Hn.out]; exact TimesAt.start xs s
  clear ho hg hrep
  go_wp2_with fail
  go_loopw [6, 14] (fun x y wr => ∃ (k : Nat) (cy : Int) (os : List Int), k ≤ n1 ∧ y = .int .i64 (k : Int) ∧ x = .int .i64 cy ∧ 0 ≤ cy ∧ cy ≤ 999999999 ∧ Hid (TimesAt xs s k cy os) ∧ Hid (wr.ownsRow w.heap.size 3 1 (.slice (some ⟨w.heap.size, 0, none⟩) (n1 + 1) (n1 + 1)) (n1 + 1) (os.map (.int .i64))) ∧ Hid (Below w.heap.size w wr)) (fun _ y _ => n1 - (intOf y).toNat)
  case atStart => exact ⟨0, 0, _, Nat.zero_le _, rfl, rfl, by omega, by omega, M1, O1, B1⟩
  case round =>
    obtain ⟨k, cy, os, hk, rfl, rfl, c0, c9, hs, ho, hb⟩ := hrel
    obtain ⟨wo, rfl⟩ : ∃ wo : World, wo = wr := ⟨_, rfl⟩
    have hk0 : (0 : Int) ≤ (k : Int) := by omega
    have hlen : os.length = n1 + 1 := by rw [hs.out.1, Hn.out]
    have Hlen := Lib.hid hlen
    by_cases hlt : k < n1
    · have hix : k < xs.length := by rw [Hn.out]; exact hlt
      obtain ⟨b1, o1, rfl, hbs1, hc1⟩ := (Hr.out.below hb.out).at_ (by simp; omega)
      obtain ⟨x, hx⟩ : ∃ x, x = xs[k] := ⟨_, rfl⟩
      have g1 : wo.cell? ⟨b1, o1 + k, none⟩ = some (.int .i64 x) := (hc1 k (by simpa using hix)).trans (by simp [hx])
      have hxr := K1.out _ (List.getElem_mem hix)
      rw [← hx] at hxr
      obtain ⟨x0, x1⟩ := hxr
      obtain ⟨p0, p1⟩ := prod_bd x0 x1 s0 s1
      have hnx := Lib.hid (hs.out.step hix hx (by omega) (by omega))
      have hS : 0 ≤ (cy + x * s) / 1000000000 ∧ (cy + x * s) / 1000000000 ≤ 999999999 := by omega
      have HS := Lib.hid hS
      have hio : k < os.length := by omega
      obtain ⟨o, hoo⟩ : ∃ o, o = os[k] := ⟨_, rfl⟩
      have g3 : wo.cell? ⟨w.heap.size, k, none⟩ = some (.int .i64 o) := by
        rw [ho.out.cellAt k (by omega)]; simp [hio, hoo]
      have hfr := ho.out.frozenAt k
      have hst := ho.out.stored k (.int .i64 ((cy + x * s) % 1000000000))
      rw [map_set_int] at hst
      have ho2 := Lib.hid hst.1
      have hb2 := Lib.hid (below_marked hb.out ho.out hst.2 (Nat.le_refl _) hb.out.size)
      have hkn : (k : Int) < (n1 : Int) := by omega
      clear hx hoo hst hS hc1 hlen
      go_wp2_with fail
      go_roundw
      case rel => exact ⟨k + 1, _, _, by omega, by go_num, rfl, HS.out.1, HS.out.2, hnx, ho2, hb2⟩
      case measure => simp [intOf]; omega
    · obtain rfl : k = n1 := by omega
      have hs2 := hs.out
      rw [← Hn.out] at hs2
      have hv := Lib.hid hs2.last
      rw [Hn.out] at hv
      have hio : k < os.length := by omega
      obtain ⟨o, hoo⟩ : ∃ o, o = os[k] := ⟨_, rfl⟩
      have g3 : wo.cell? ⟨w.heap.size, k, none⟩ = some (.int .i64 o) := by
        rw [ho.out.cellAt k (by omega)]; simp [hio, hoo]
      have hfr := ho.out.frozenAt k
      have hst := ho.out.stored k (.int .i64 cy)
      rw [map_set_int] at hst
      have ho2 := Lib.hid hst.1
      have hb2 := Lib.hid (below_marked hb.out ho.out hst.2 (Nat.le_refl _) hb.out.size)
      clear hoo hst hs2 hlen
      go_wp2_with fail
      go_ret
      exact ⟨os.set k cy, _, rfl, rfl, hv.out.2.2, hv.out.1, hv.out.2.1, ho2.out, hb2.out⟩

/-- What a quotient by one limb ends in. -/
def OverEnd (t d : Int) (B : Nat) (w w' : World) (e : Ending) : Prop := ∃ r A c rest, e = .returned (.slice A r.length c) ∧ Canon r ∧ val r * d + rest = t ∧ 0 ≤ rest ∧ rest < d ∧ r.length ≤ B ∧ w'.ownsRow w.heap.size 3 1 (.slice A r.length c) r.length (r.map (.int .i64)) ∧ Below w.heap.size w w'
set_option maxHeartbeats 800000 in
theorem impl_overLimb (A1 : Option Addr) (n1 c1 : Nat) (xs : List Int) (d : Int) (w : World) (hn : xs.length = n1) (hb1 : n1 ≤ 1048576) (hr : Reads w A1 (xs.map (.int .i64))) (k1 : InR xs) (d0 : 1 ≤ d) (d1 : d ≤ 999999999) :
    Calls Tryz.prog 250 #[.slice A1 n1 c1, .int .i64 d] w fun e w' => OverEnd (val xs) d n1 w w' e := by
  obtain ⟨i0, hi, hz0, hz1, hz2⟩ := info_parts Tryz.infoI
  have Hn := Lib.hid hn
  have Hr := Lib.hid hr
  have K1 := Lib.hid k1
  clear hn hr k1
  go_enter Tryz.func250, Tryz.ntmps250
  go_wp2_with (refine wpList_make_full _ rfl _ _ 30 rfl w.heap.size 3 i0 (.int .i64 0) 1 Tryz.underlying30 hi hz0 hz1 _ _ _ _ n1 rfl rfl rfl rfl (by rw [hz2]; omega) (by unfold maxLen; omega) (Nat.le_refl _) ?_)
  have hrep : (madeCells #[Value.int .i64 0] n1).toList = (List.replicate n1 (0 : Int)).map (.int .i64) := by simp [toList_madeCells_one]
  intro w1 ho hg
  have O1 : Hid (w1.ownsRow w.heap.size 3 1 (.slice (some ⟨w.heap.size, 0, none⟩) n1 n1) n1 ((List.replicate n1 (0 : Int)).map (.int .i64))) := by
    unfold Hid; rw [← hrep]; simpa using ho
  have B1 := Lib.hid ((Below.refl w.heap.size w).grown hg (Nat.le_refl _) (fun k hk => by cases hk))
  have M1 : Hid (SmallAt xs d (n1 - 0) 0 (List.replicate n1 0)) := by have := SmallAt.start xs d0; unfold Hid; rw [Hn.out] at this; exact this
  clear ho hg hrep
  go_wp2_with fail
  go_loopw [6, 14] (fun x y wr => ∃ (k : Nat) (rest : Int) (os : List Int), k ≤ n1 ∧ y = .int .i64 (k : Int) ∧ x = .int .i64 rest ∧ 0 ≤ rest ∧ rest < d ∧ Hid (SmallAt xs d (n1 - k) rest os) ∧ Hid (wr.ownsRow w.heap.size 3 1 (.slice (some ⟨w.heap.size, 0, none⟩) n1 n1) n1 (os.map (.int .i64))) ∧ Hid (Below w.heap.size w wr)) (fun _ y _ => n1 - (intOf y).toNat)
  case atStart => exact ⟨0, 0, _, Nat.zero_le _, rfl, rfl, by omega, by omega, M1, O1, B1⟩
  case round =>
    obtain ⟨k, rest, os, hk, rfl, rfl, r0, r1, hs, ho, hb⟩ := hrel
    by_cases h0 : k = n1
    · subst h0
      have hs2 := hs.out
      rw [Nat.sub_self] at hs2
      have hv : Hid (InR os ∧ val os * d + rest = val xs ∧ os.length = k) := ⟨hs2.2.1, by have := hs2.2.2.1; rwa [List.drop_zero, List.drop_zero] at this, hs2.1.trans Hn.out⟩
      clear hs2
      go_wp2_with fail
      refine (impl_trim w.heap.size _ k k os _ hv.out.2.2 (by omega) ho.out).mono ?_
      rintro e w' ⟨⟨m, rfl, ht⟩, rfl⟩
      obtain ⟨hcn, hvl⟩ := ht.canon hv.out.1
      have hmm : m ≤ k := by have := ht.1; rwa [hv.out.2.2] at this
      have hlm : (os.take m).length = m := by have := ht.1; simp; omega
      have hown := own_take ho.out hmm
      rw [← List.map_take] at hown
      have hend : Hid (OverEnd (val xs) d k w wr (.returned (.slice (some ⟨w.heap.size, 0, none⟩) m k))) :=
        ⟨os.take m, _, _, rest, by rw [hlm], hcn, by rw [hvl]; exact hv.out.2.1, r0, r1, by rw [hlm]; exact hmm, by rw [hlm]; exact hown, hb.out⟩
      clear ht hcn hvl hlm hown
      go_wp2_with fail
      go_ret
      exact hend.out
    · obtain ⟨i, hi9⟩ : ∃ i, n1 - k = i + 1 := ⟨n1 - k - 1, by omega⟩
      obtain ⟨wo, rfl⟩ : ∃ wo : World, wo = wr := ⟨_, rfl⟩
      have hix : i < xs.length := by rw [Hn.out]; omega
      obtain ⟨b1, o1, rfl, hbs1, hc1⟩ := (Hr.out.below hb.out).at_ (by simp; omega)
      obtain ⟨x, hx⟩ : ∃ x, x = xs[i] := ⟨_, rfl⟩
      have g1 : wo.cell? ⟨b1, o1 + i, none⟩ = some (.int .i64 x) := (hc1 i (by simpa using hix)).trans (by simp [hx])
      have hsi : (n1 : Int) - 1 - (k : Int) = (i : Int) := by omega
      have hxr := K1.out _ (List.getElem_mem hix)
      rw [← hx] at hxr
      obtain ⟨x0, x1⟩ := hxr
      have hs2 := hs.out
      rw [hi9] at hs2
      obtain ⟨hnx, m0, m1⟩ := hs2.step hix hx x0 x1 d0 d1
      rw [show i = n1 - (k + 1) by omega] at hnx
      rw [show n1 - (k + 1) = i by omega] at hnx
      have Hnx : Hid (SmallAt xs d (n1 - (k + 1)) ((rest * 1000000000 + x) % d) (os.set i ((rest * 1000000000 + x) / d))) := by
        unfold Hid; rw [show n1 - (k + 1) = i by omega]; exact hnx
      have hio : i < os.length := by rw [hs.out.1]; exact hix
      obtain ⟨o, hoo⟩ : ∃ o, o = os[i] := ⟨_, rfl⟩
      have g3 : wo.cell? ⟨w.heap.size, i, none⟩ = some (.int .i64 o) := by
        rw [ho.out.cellAt i (by omega)]; simp [hio, hoo]
      have hfr := ho.out.frozenAt i
      have hst := ho.out.stored i (.int .i64 ((rest * 1000000000 + x) / d))
      rw [map_set_int] at hst
      have ho2 := Lib.hid hst.1
      have hb2 := Lib.hid (below_marked hb.out ho.out hst.2 (Nat.le_refl _) hb.out.size)
      have hi0 : (0 : Int) ≤ (i : Int) := by omega
      have hi1 : (i : Int) < (n1 : Int) := by omega
      have hk1 : (k : Int) < (n1 : Int) := by omega
      clear hc1 hx hnx hoo hst h0 hs2 hi9
      go_wp2_with fail
      go_roundw
      case rel => exact ⟨k + 1, _, _, by omega, by go_num, rfl, m0, m1, Hnx, ho2, hb2⟩
      case measure => simp [intOf]; omega

/-- What a sum in place ends in. -/
def PlusEnd (g N c : Nat) (P X ds : List Int) (n base : Nat) (w w' : World) (e : Ending) : Prop :=
  ∃ cy X', e = .returned (.int .i64 cy) ∧ 0 ≤ cy ∧ cy ≤ 1 ∧ X'.length = X.length ∧ X'.drop n = X.drop n ∧ InR (X'.take n) ∧ val X' + pw n * cy = val X + val ds ∧ w'.ownsRow base 3 1 (.slice (some ⟨g, 0, none⟩) N c) N ((P ++ X').map (.int .i64)) ∧ w.grownBy w' (some g)
/-- A sum in place under way. -/
def PlusMem (g N c : Nat) (P X ds : List Int) (n base : Nat) (w wr : World) (i : Nat) (cy : Int) (X' : List Int) : Prop :=
  PlusAt (val X) ds n i cy X' ∧ X'.length = X.length ∧ X'.drop n = X.drop n ∧ wr.ownsRow base 3 1 (.slice (some ⟨g, 0, none⟩) N c) N ((P ++ X').map (.int .i64)) ∧ w.grownBy wr (some g)
set_option maxHeartbeats 800000 in
theorem impl_addTo (g N c base k n cw : Nat) (P X ds : List Int) (A2 : Option Addr) (c2 : Nat) (w : World) (ho : w.ownsRow base 3 1 (.slice (some ⟨g, 0, none⟩) N c) N ((P ++ X).map (.int .i64))) (hP : P.length = k) (hN : P.length + X.length = N) (hnX : n ≤ X.length) (hN60 : N ≤ 1048576)
    (hX : InR (X.take n)) (hd : ds.length = n) (hdr : InR ds) (hr : Reads w A2 (ds.map (.int .i64))) (hne : ∀ b o, A2 = some ⟨b, o, none⟩ → b ≠ g) :
    Calls Tryz.prog 266 #[.slice (some ⟨g, k, none⟩) n cw, .slice A2 n c2] w fun e w' => PlusEnd g N c P X ds n base w w' e := by
  subst hP
  have Hd := Lib.hid hd
  have Hdr := Lib.hid hdr
  have Hr := Lib.hid hr
  have Hne := Lib.hid hne
  have HN := Lib.hid hN
  have HnX := Lib.hid hnX
  have M1 : Hid (PlusMem g N c P X ds n base w w 0 0 X) := ⟨⟨hX, by simp [val], by omega, by omega⟩, rfl, rfl, ho, World.grownBy.refl _ _⟩
  have hn60 : n ≤ 1048576 := by omega
  clear hd hdr hr hne ho hX hN hnX
  go_enter Tryz.func266, Tryz.ntmps266
  go_wp2_with fail
  go_loopw [5, 9] (fun x y wr => ∃ (i : Nat) (cy : Int) (X' : List Int), i ≤ n ∧ y = .int .i64 (i : Int) ∧ x = .int .i64 cy ∧ 0 ≤ cy ∧ cy ≤ 1 ∧ Hid (PlusMem g N c P X ds n base w wr i cy X')) (fun _ y _ => n - (intOf y).toNat)
  case atStart => exact ⟨0, 0, X, Nat.zero_le _, rfl, rfl, by omega, by omega, M1⟩
  case round =>
    obtain ⟨i, cy, X', hi, rfl, rfl, c0, c9, hm⟩ := hrel
    obtain ⟨wo, rfl⟩ : ∃ wo : World, wo = wr := ⟨_, rfl⟩
    have hi0 : (0 : Int) ≤ (i : Int) := by omega
    by_cases hlt : i < n
    · obtain ⟨hp, hl, hdrop, ho, hg⟩ := hm.out
      have hid : i < ds.length := by rw [Hd.out]; exact hlt
      have hiX : i < X'.length := by rw [hl]; have := HnX.out; omega
      have hlN := HN.out
      obtain ⟨b2, o2, rfl, hbs2, hc2⟩ := (Hr.out.grown hg Hne.out).at_ (by simp; omega)
      obtain ⟨d, hdd⟩ : ∃ d, d = ds[i] := ⟨_, rfl⟩
      have g2 : wo.cell? ⟨b2, o2 + i, none⟩ = some (.int .i64 d) := (hc2 i (by simpa using hid)).trans (by simp [hdd])
      obtain ⟨o, hoo⟩ : ∃ o, o = X'[i] := ⟨_, rfl⟩
      have g3 : wo.cell? ⟨g, P.length + i, none⟩ = some (.int .i64 o) := by
        rw [ho.cellAt (P.length + i) (by omega), map_append_get _ _ _ hiX, hoo]
      obtain ⟨hnx, q0, q1, d0, d1⟩ := hp.step hlt hiX hoo hid hdd Hdr.out
      have hfr := ho.frozenAt (P.length + i)
      have hst := ho.stored (P.length + i) (.int .i64 ((cy + (o + d)) % 1000000000))
      rw [map_append_set] at hst
      have hS : 0 ≤ (cy + (o + d)) / 1000000000 ∧ (cy + (o + d)) / 1000000000 ≤ 1 := by omega
      have HS := Lib.hid hS
      have hfin : Hid (PlusMem g N c P X ds n base w (wo.setCell ⟨g, P.length + i, none⟩ (.int .i64 ((cy + (o + d)) % 1000000000))) (i + 1) ((cy + (o + d)) / 1000000000) (X'.set i ((cy + (o + d)) % 1000000000))) :=
        ⟨hnx, by simpa using hl, by rw [List.drop_set_of_lt hlt]; exact hdrop, hst.1, grownBy_trans hg hst.2⟩
      have hi1 : (i : Int) < (n : Int) := by omega
      clear hc2 hdd hoo hst hnx hp hl hdrop ho hg hS hlN hm
      go_wp2_with fail
      go_quiet (fail)
      go_wp2_with fail
      go_roundw
      case rel =>
        obtain ⟨f1, f2, f3, f4, f5⟩ := hfin.out
        exact ⟨i + 1, _, _, by omega, by go_num, rfl, HS.out.1, HS.out.2, ⟨f1, f2, f3, f4, ⟨f5.os, f5.tape, f5.output, f5.size, f5.block⟩⟩⟩
      case measure => simp [intOf]; omega
    · obtain rfl : i = n := by omega
      obtain ⟨⟨p1, p2, p3, p4⟩, hl, hdrop, ho, hg⟩ := hm.out
      rw [List.take_of_length_le (by rw [Hd.out]; exact Nat.le_refl _)] at p2
      have hfin : Hid (PlusEnd g N c P X ds i base w wo (.returned (.int .i64 cy))) := ⟨cy, X', rfl, p3, p4, hl, hdrop, p1, p2, ho, hg⟩
      clear p1 p2 hl hdrop ho hg hm
      go_wp2_with fail
      go_ret
      exact hfin.out
end Go.Proofs.YtegclofijaoajaaGreat
