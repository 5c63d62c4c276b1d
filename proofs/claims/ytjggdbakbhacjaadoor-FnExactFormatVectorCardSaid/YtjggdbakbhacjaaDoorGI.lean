/- Contracts of the program's natural numbers: what is one, the way from int, comparisons. -/
import Derived.Test.YtjggdbakbhacjaaDoorGN
import Derived.IntWalk
namespace Go.Proofs.YtjggdbakbhacjaaDoor
set_option maxRecDepth 100000
open Go.RowKit

set_option maxHeartbeats 800000 in
theorem impl_natOk' (A : Option Addr) (n c : Nat) (xs : List Int) (w : World) (h : InI w A n xs) :
    Calls Tryd.prog 38 #[.slice A n c] w fun e w' => OkEnd xs e ∧ w = w' := by
  obtain ⟨hlen, hn, hr, _⟩ := h
  have Hlen := Lib.hid hlen
  have Hr := Lib.hid hr
  clear hlen hr
  by_cases h60 : 60 < (n : Int)
  · have hfin := Lib.hid (okNo (xs := xs) (fun h => by have := h.2; rw [Hlen.out] at this; omega))
    go_enter Tryd.func38, Tryd.ntmps38
    go_wp2_with fail
    go_ret
    exact ⟨hfin.out, rfl⟩
  go_enter Tryd.func38, Tryd.ntmps38
  go_wp2_with fail
  go_loop [4, 10] (fun _ y => ∃ k : Nat, k ≤ n ∧ y = .int .i64 k ∧ Hid (InR (xs.take k))) (fun _ y => n - (intOf y).toNat)
  case atStart => exact ⟨0, Nat.zero_le _, rfl, by simpa using Lib.hid InR.nil⟩
  case round =>
    obtain ⟨k, hk, rfl, hin⟩ := hrel
    by_cases hlt : k < n
    · have hkx : k < xs.length := by rw [Hlen.out]; exact hlt
      obtain ⟨b, o, rfl, hb, hc⟩ := Hr.out.at_ (by simp; omega)
      obtain ⟨z, hz⟩ : ∃ z, z = xs[k] := ⟨_, rfl⟩
      have hcell : w.cell? ⟨b, o + k, none⟩ = some (.int .i64 z) := (hc k (by simpa using hkx)).trans (by simp [hz])
      have hi0 : (0 : Int) ≤ (k : Int) := by omega
      have hi1 : (k : Int) < (n : Int) := by omega
      have Hz := Lib.hid hz
      clear hc hz
      by_cases hneg : z < 0
      · have hfin := Lib.hid (okNo (xs := xs) (fun h => not_inR hkx (by rw [← Hz.out]; omega) h.1.1))
        go_wp2_with fail
        go_ret
        exact ⟨hfin.out, rfl⟩
      · by_cases hbig : 1000000000 ≤ z
        · have hfin := Lib.hid (okNo (xs := xs) (fun h => not_inR hkx (by rw [← Hz.out]; omega) h.1.1))
          go_wp2_with fail
          go_ret
          exact ⟨hfin.out, rfl⟩
        · have hnx : Hid (InR (xs.take (k + 1))) := hin.out.snoc_take hkx (by rw [← Hz.out]; omega) (by rw [← Hz.out]; omega)
          go_wp2_with fail
          go_round
          case rel => exact ⟨k + 1, by omega, by go_num, hnx⟩
          case measure => simp [intOf]; omega
    · obtain rfl : k = n := by omega
      have hall : Hid (InR xs) := by have := hin.out; rwa [List.take_of_length_le (by rw [Hlen.out]; exact Nat.le_refl _)] at this
      by_cases h0 : k = 0
      · have hfin := Lib.hid (okYes (xs := xs) ⟨⟨hall.out, by rw [List.eq_nil_of_length_eq_zero (Hlen.out.trans h0)]; simp⟩, by rw [Hlen.out]; omega⟩)
        subst h0
        go_wp2_with fail
        go_ret
        exact ⟨hfin.out, rfl⟩
      · obtain ⟨m, rfl⟩ : ∃ m, k = m + 1 := ⟨k - 1, by omega⟩
        have hmx : m < xs.length := by rw [Hlen.out]; omega
        obtain ⟨b, o, rfl, hb, hc⟩ := Hr.out.at_ (by simp; omega)
        obtain ⟨z, hz⟩ : ∃ z, z = xs[m] := ⟨_, rfl⟩
        have hcell : w.cell? ⟨b, o + m, none⟩ = some (.int .i64 z) := (hc m (by simpa using hmx)).trans (by simp [hz])
        have hla := last_at Hlen.out
        rw [← hz] at hla
        have hne : (((m + 1 : Nat) : Int) == 0) = false := by simp; omega
        have hne2 : ((m : Int) + 1 == 0) = false := by simp; omega
        clear hc hz h0
        by_cases hz0 : z = 0
        · have hfin := Lib.hid (okNo (xs := xs) (fun h => h.1.2 (by rw [hla, hz0])))
          subst hz0
          clear hla
          go_wp2_with fail
          go_ret
          exact ⟨hfin.out, rfl⟩
        · have hfin := Lib.hid (okYes (xs := xs) ⟨⟨hall.out, by rw [hla]; simpa using hz0⟩, by rw [Hlen.out]; omega⟩)
          have hz1 : (z == 0) = false := by simpa using hz0
          have hz2 : (z != 0) = true := by simpa using hz0
          clear hla hz0
          go_wp2_with fail
          go_ret
          exact ⟨hfin.out, rfl⟩
theorem impl_natOk (A : Option Addr) (n c : Nat) (xs : List Int) (w : World) (h : InI w A n xs) :
    Calls Tryd.prog 38 #[.slice A n c] w fun e w' => ∃ b, e = .returned (.bool b) ∧ NatOkIs xs b ∧ Below w.heap.size w w' :=
  (impl_natOk' A n c xs w h).mono fun _ _ ⟨⟨b, he, hi⟩, hw⟩ => ⟨b, he, hi, by subst hw; exact Below.refl _ _⟩

set_option maxHeartbeats 400000 in
theorem impl_natOf (n : Int) (w : World) (hn : -9223372036854775808 ≤ n ∧ n ≤ 9223372036854775807) :
    Calls Tryd.prog 48 #[.int .i64 n] w fun e w' => ∃ rs v, e = .returned v ∧ NatOfIs n rs ∧ ResI w w' v rs ∧ Below w.heap.size w w' := by
  obtain ⟨i0, hi, hz0, hz1, hz2⟩ := info_parts Tryd.infoI
  by_cases hneg : n < 0
  · have hfin : Hid (NatOfIs n []) := ⟨canon_nil, by rw [if_pos (by omega)]; rfl⟩
    have hnp : ¬ 0 < n := by omega
    go_enter Tryd.func48, Tryd.ntmps48
    go_wp2_with fail
    refine wp_loop_rounds 1 ?_
    rw [rounds_succ]
    go_wp2_with fail
    go_ret
    exact ⟨[], _, rfl, hfin.out, ⟨by simp, World.ownsRow_nil _ _ _ _⟩, Below.refl _ _⟩
  go_enter Tryd.func48, Tryd.ntmps48
  go_wp2_with fail
  go_loopw [0, 3] (fun x y wr => ∃ (k : Int) (r : List Int), 0 ≤ k ∧ k ≤ n ∧ x = .int .i64 k ∧ Hid (OfAt n k r) ∧ Hid (wr.ownsRow w.heap.size 3 1 y r.length (r.map (.int .i64))) ∧ Hid (Below w.heap.size w wr)) (fun x _ _ => (intOf x).toNat)
  case atStart => exact ⟨n, [], by omega, Int.le_refl _, rfl, ⟨InR.nil, by simp [val, pw], by omega, fun _ => by simp, by simp⟩, World.ownsRow_nil _ _ _ _, Below.refl _ _⟩
  case round =>
    obtain ⟨k, r, hk0, hkn, rfl, hat, ho, hb⟩ := hrel
    have hl3 := hat.out.2.2.2.2
    by_cases hlt : 0 < k
    · have hnx := Lib.hid (hat.out.step hlt hn.2)
      obtain ⟨N, hN⟩ : ∃ N, N = r.length := ⟨_, rfl⟩
      rw [← hN] at ho hl3
      have HN := Lib.hid hN
      clear hN
      go_wp2_with (at_builtin; refine wpList_append_own _ rfl _ _ 30 rfl w.heap.size 3 i0 (.int .i64 0) 1 8 Tryd.underlying30 hi hz0 hz1 hz2 rfl (by decide) _ _ _ rfl (ho.out.alloc _) ⟨wr.heap.size, 0, none⟩ 1 1 [.int .i64 (k % 1000000000)] rfl rfl ?c1 ?c2 ?c3 ?c4 ?c5 ?_)
      case c1 => exact cell_one_new _ _ _
      case c2 => simp [Value.oneCell']
      case c3 => unfold maxLen; omega
      case c4 => omega
      case c5 => have := hb.out.size; simp; omega
      intro v' w1 hown hg _
      have hb1 := Lib.hid ((hb.out.alloc hb.out.size _).grown hg (by have := hb.out.size; simp; omega) (fun j hj => (ho.out.lt j hj).1))
      have ho1 : Hid (w1.ownsRow w.heap.size 3 1 v' (r ++ [k % 1000000000]).length ((r ++ [k % 1000000000]).map (.int .i64))) := by
        unfold Hid; rw [List.length_append, ← HN.out]; simpa using hown
      clear hown hg
      go_wp2_with fail
      go_roundw
      case rel => exact ⟨k / 1000000000, r ++ [k % 1000000000], by omega, by omega, rfl, hnx, ho1, hb1⟩
      case measure => simp [intOf]; omega
    · obtain rfl : k = 0 := by omega
      have hfin := Lib.hid hat.out.done
      go_wp2_with fail
      go_ret
      exact ⟨r, _, rfl, hfin.out, ⟨by omega, ho.out⟩, hb.out⟩

theorem quiet_left {P : Program} {f : FuncId} {args : Array Value} {w : World} {n : Nat} {v : Value}
    (h : Calls P f args (w.drewN n) fun e w' => e = .returned v ∧ w.drewN n = w') : Calls P f args (w.drewN n) fun e w'' => e = .returned v ∧ ∃ m, w'' = w.drewN m :=
  h.mono fun _ _ ⟨he, hm⟩ => ⟨he, n, hm.symm⟩
theorem quiet_add_left {P : Program} {f : FuncId} {args : Array Value} {w : World} {a n : Nat} {v : Value}
    (h : Calls P f args (w.drewN (a + n)) fun e w' => e = .returned v ∧ w.drewN (a + n) = w') :
    Calls P f args (w.drewN (a + n)) fun e w'' => e = .returned v ∧ ∃ m, w'' = w.drewN (a + m) :=
  h.mono fun _ _ ⟨he, hm⟩ => ⟨he, n, hm.symm⟩


end Go.Proofs.YtjggdbakbhacjaaDoor
namespace Go.Proofs.YtjggdbakbhacjaaDoor
set_option maxRecDepth 100000
open Go.RowKit

set_option maxHeartbeats 800000 in
theorem impl_trim (base : Nat) (A : Option Addr) (n c : Nat) (xs : List Int) (w : World) (hn : xs.length = n) (hb : n ≤ 4194304) (ho : w.ownsRow base 3 1 (.slice A n c) n (xs.map (.int .i64))) :
    Calls Tryd.prog 67 #[.slice A n c] w fun e w' => (∃ m, e = .returned (.slice A m c) ∧ Trimmed xs m) ∧ w = w' := by
  have hcap := (own_cap ho).1
  have Hn := Lib.hid hn
  have Ho := Lib.hid ho
  by_cases h0 : n = 0
  · have hfin : Hid (Trimmed xs 0) := ⟨Nat.zero_le _, fun j hj _ => absurd hj (by rw [hn]; omega), by simp⟩
    have hA : (A = none ∧ c = 0) ∨ ∃ g, A = some ⟨g, 0, none⟩ := by
      rcases ho.2 with ⟨hv, _⟩ | ⟨g, _, _, hv, _⟩
      · cases hv; exact .inl ⟨rfl, rfl⟩
      · cases hv; exact .inr ⟨g, rfl⟩
    clear hn ho
    subst h0
    rcases hA with ⟨rfl, rfl⟩ | ⟨g, rfl⟩
    all_goals
      go_enter Tryd.func67, Tryd.ntmps67
      go_wp2_with fail
      refine wp_loop_rounds 1 ?_
      rw [rounds_succ]
      go_wp2_with fail
    · go_ret
      exact ⟨⟨0, rfl, hfin.out⟩, rfl⟩
    · go_ret
      exact ⟨⟨0, rfl, hfin.out⟩, rfl⟩
  obtain ⟨g, rfl, _, hgs⟩ := own_at ho (by omega)
  clear hn ho
  go_enter Tryd.func67, Tryd.ntmps67
  go_wp2_with fail
  go_loop [3] (fun x => ∃ m : Nat, m ≤ n ∧ x = .int .i64 m ∧ Hid (ZeroFrom xs m)) (fun x => (intOf x).toNat)
  case atStart => exact ⟨n, Nat.le_refl _, rfl, fun j hj hle => absurd hj (by rw [Hn.out]; omega)⟩
  case round =>
    obtain ⟨m, hm, rfl, hz⟩ := hrel
    by_cases hm0 : m = 0
    · have hfin : Hid (Trimmed xs 0) := ⟨Nat.zero_le _, by rw [← hm0]; exact hz.out, by simp⟩
      subst hm0
      go_wp2_with fail
      go_ret
      exact ⟨⟨0, rfl, hfin.out⟩, rfl⟩
    · obtain ⟨k, rfl⟩ : ∃ k, m = k + 1 := ⟨m - 1, by omega⟩
      have hkx : k < xs.length := by rw [Hn.out]; omega
      obtain ⟨z, hzk⟩ : ∃ z, z = xs[k] := ⟨_, rfl⟩
      have hcell : w.cell? ⟨g, k, none⟩ = some (.int .i64 z) := by
        rw [Ho.out.cellAt k (by omega)]; simp [hzk, hkx]
      by_cases hz0 : z = 0
      · have hnx : Hid (ZeroFrom xs k) := zeroFrom_pred hz.out hkx (by rw [← hzk]; exact hz0)
        subst hz0
        clear hzk hm0
        go_wp2_with fail
        go_round
        case rel => exact ⟨k, by omega, by go_num, hnx⟩
        case measure => simp [intOf]
      · have hfin : Hid (Trimmed xs (k + 1)) := ⟨by omega, hz.out, by rw [take_last hkx, ← hzk]; simpa using hz0⟩
        have hz1 : (z == 0) = false := by simpa using hz0
        clear hzk hm0 hz0
        go_wp2_with fail
        go_ret
        exact ⟨⟨k + 1, rfl, hfin.out⟩, rfl⟩



set_option maxHeartbeats 400000 in
theorem impl_valueOf (A1 : Option Addr) (n1 c1 : Nat) (xs : List Int) (w : World) (hn : xs.length = n1) (hb : n1 ≤ 1048576) (hr : Reads w A1 (xs.map (.int .i64))) (k1 : InR xs) (hle : val xs ≤ 9223372036854775807) :
    Calls Tryd.prog 50 #[.slice A1 n1 c1] w fun e w' => e = .returned (.int .i64 (val xs)) ∧ w = w' := by
  have Hn := Lib.hid hn
  have Hr := Lib.hid hr
  have K1 := Lib.hid k1
  have Hle := Lib.hid hle
  clear hn hr k1 hle
  go_enter Tryd.func50, Tryd.ntmps50
  go_wp2_with fail
  go_loop [3, 4, 7] (fun x _ y => ∃ k : Nat, k ≤ n1 ∧ y = .int .i64 (k : Int) ∧ x = .int .i64 (val (xs.drop (n1 - k)))) (fun _ _ y => n1 - (intOf y).toNat)
  case atStart => exact ⟨0, Nat.zero_le _, rfl, by rw [List.drop_eq_nil_of_le (by rw [Hn.out]; exact Nat.le_refl _)]; rfl⟩
  case round =>
    obtain ⟨k, hk, rfl, rfl⟩ := hrel
    by_cases h0 : k = n1
    · subst h0
      rw [Nat.sub_self, List.drop_zero]
      go_wp2_with fail
      go_ret
      exact ⟨rfl, rfl⟩
    · obtain ⟨i, hi⟩ : ∃ i, n1 - k = i + 1 := ⟨n1 - k - 1, by omega⟩
      rw [hi]
      have hix : i < xs.length := by rw [Hn.out]; omega
      obtain ⟨b1, o1, rfl, hbs1, hc1⟩ := Hr.out.at_ (by simp; omega)
      obtain ⟨x, hx⟩ : ∃ x, x = xs[i] := ⟨_, rfl⟩
      have g1 : w.cell? ⟨b1, o1 + i, none⟩ = some (.int .i64 x) := (hc1 i (by simpa using hix)).trans (by simp [hx])
      have hsi : (n1 : Int) - 1 - (k : Int) = (i : Int) := by omega
      have hv := val_drop_at hix
      rw [← hx] at hv
      have hle := val_drop_le K1.out i
      have hxr := K1.out _ (List.getElem_mem hix)
      rw [← hx] at hxr
      obtain ⟨x0, x1⟩ := hxr
      have hnn := val_nonneg (K1.out.drop (i + 1))
      have hle2 := Hle.out
      obtain ⟨V, hV⟩ : ∃ V, V = val (xs.drop (i + 1)) := ⟨_, rfl⟩
      rw [← hV] at hv hnn ⊢
      have hsum : V * 1000000000 + x ≤ 9223372036854775807 := by omega
      have hnx : Hid (V * 1000000000 + x = val (xs.drop (n1 - (k + 1)))) := by unfold Hid; rw [show n1 - (k + 1) = i by omega]; omega
      have hi0 : (0 : Int) ≤ (i : Int) := by omega
      have hi1 : (i : Int) < (n1 : Int) := by omega
      have hk1 : (k : Int) < (n1 : Int) := by omega
      clear hc1 hx hv hle hV h0 hi
      go_wp2_with fail
      go_round
      case rel => exact ⟨k + 1, by omega, by go_num, congrArg (Value.int .i64) hnx.out⟩
      case measure => simp [intOf]; omega

theorem maxOf_val {r : List Int} (h : NatOfIs 9223372036854775807 r) : Canon r ∧ val r = 9223372036854775807 := ⟨h.1, by rw [h.2]; rfl⟩
end Go.Proofs.YtjggdbakbhacjaaDoor
namespace Go.Proofs.YtjggdbakbhacjaaDoor
set_option maxRecDepth 100000
open Go.RowKit

/-- A sum after k places: the limbs, the carry. -/
def SumAt (xs ys : List Int) (L k : Nat) (cy : Int) (os : List Int) : Prop := os.length = L + 1 ∧ InR os ∧ val os + pw k * cy = val (xs.take k) + val (ys.take k) ∧ ZeroFrom os k ∧ 0 ≤ cy ∧ cy ≤ 1
theorem SumAt.start (xs ys : List Int) (L : Nat) : SumAt xs ys L 0 0 (List.replicate (L + 1) 0) :=
  ⟨by simp, zeros_inR _, by rw [zeros_val]; simp [val], zeros_from _ _, by omega, by omega⟩
theorem SumAt.step {xs ys os : List Int} {L k : Nat} {cy x y : Int} (h : SumAt xs ys L k cy os) (hx : lim xs k = x) (hy : lim ys k = y) (x0 : 0 ≤ x) (x1 : x ≤ 999999999) (y0 : 0 ≤ y) (y1 : y ≤ 999999999) (hk : k < L) :
    SumAt xs ys L (k + 1) ((cy + (x + y)) / 1000000000) (os.set k ((cy + (x + y)) % 1000000000)) := by
  obtain ⟨h1, h2, h3, h4, h5, h6⟩ := h
  have hio : k < os.length := by omega
  refine ⟨by simpa using h1, h2.set _ (by omega) (by omega), ?_, h4.set_last _, by omega, by omega⟩
  rw [val_set _ _ _ hio, h4 _ hio (Nat.le_refl _), val_take_succ, val_take_succ, hx, hy, pw]
  have e := Int.mul_ediv_add_emod (cy + (x + y)) 1000000000
  grind
theorem SumAt.last {xs ys os : List Int} {L : Nat} {cy : Int} (h : SumAt xs ys L L cy os) (hx : xs.length ≤ L) (hy : ys.length ≤ L) : InR (os.set L cy) ∧ val (os.set L cy) = val xs + val ys ∧ (os.set L cy).length = L + 1 := by
  obtain ⟨h1, h2, h3, h4, h5, h6⟩ := h
  rw [List.take_of_length_le hx, List.take_of_length_le hy] at h3
  refine ⟨h2.set _ h5 (by omega), ?_, by simpa using h1⟩
  rw [val_set _ _ _ (by omega), h4 _ (by omega) (Nat.le_refl _), Int.sub_zero]; exact h3
/-- A difference after k places: the limbs, what is still to be taken off. -/
def DiffAt (xs ys : List Int) (L k : Nat) (bo : Int) (os : List Int) : Prop := os.length = L ∧ InR os ∧ val os = val (xs.take k) - val (ys.take k) + pw k * bo ∧ ZeroFrom os k ∧ 0 ≤ bo ∧ bo ≤ 1
theorem DiffAt.start (xs ys : List Int) (L : Nat) : DiffAt xs ys L 0 0 (List.replicate L 0) :=
  ⟨by simp, zeros_inR _, by rw [zeros_val]; simp [val], zeros_from _ _, by omega, by omega⟩
theorem DiffAt.step0 {xs ys os : List Int} {L k : Nat} {bo x y d : Int} (h : DiffAt xs ys L k bo os) (hx : lim xs k = x) (hy : lim ys k = y) (x1 : x ≤ 999999999) (y0 : 0 ≤ y) (hk : k < L) (hd : d = x - y - bo) (d0 : 0 ≤ d) :
    DiffAt xs ys L (k + 1) 0 (os.set k d) := by
  obtain ⟨h1, h2, h3, h4, h5, h6⟩ := h
  have hio : k < os.length := by omega
  refine ⟨by simpa using h1, h2.set _ (by omega) (by omega), ?_, h4.set_last _, by omega, by omega⟩
  rw [val_set _ _ _ hio, h4 _ hio (Nat.le_refl _), val_take_succ, val_take_succ, hx, hy, hd]
  grind
theorem DiffAt.step1 {xs ys os : List Int} {L k : Nat} {bo x y d : Int} (h : DiffAt xs ys L k bo os) (hx : lim xs k = x) (hy : lim ys k = y) (x0 : 0 ≤ x) (y1 : y ≤ 999999999) (hk : k < L) (hd : d = x - y - bo) (d0 : d < 0) :
    DiffAt xs ys L (k + 1) 1 (os.set k (d + 1000000000)) := by
  obtain ⟨h1, h2, h3, h4, h5, h6⟩ := h
  have hio : k < os.length := by omega
  refine ⟨by simpa using h1, h2.set _ (by omega) (by omega), ?_, h4.set_last _, by omega, by omega⟩
  rw [val_set _ _ _ hio, h4 _ hio (Nat.le_refl _), val_take_succ, val_take_succ, hx, hy, hd, pw]
  grind
theorem DiffAt.done {xs ys os : List Int} {k : Nat} {bo : Int} (h : DiffAt xs ys k k bo os) (hx : xs.length ≤ k) (hy : ys.length ≤ k) (hle : val ys ≤ val xs) : InR os ∧ val os = val xs - val ys ∧ os.length = k := by
  obtain ⟨h1, h2, h3, h4, h5, h6⟩ := h
  rw [List.take_of_length_le hx, List.take_of_length_le hy] at h3
  have h7 := val_lt h2
  rw [h1] at h7
  have hb0 : bo = 0 := by
    by_cases e : bo = 0
    · exact e
    · have e1 : bo = 1 := by omega
      rw [e1, Int.mul_one] at h3; omega
  subst hb0
  exact ⟨h2, by rw [h3]; simp, h1⟩
/-- Trimmed and limited: what the cut list gives. -/
theorem capEnd_of {xs : List Int} {A : Option Addr} {c m : Nat} {e : Ending} (ht : Trimmed xs m) (h : (60 < m ∧ e = .returned (.slice none 0 0)) ∨ (m ≤ 60 ∧ e = .returned (.slice A m c))) : CapEnd xs A c e := ⟨m, ht, h⟩
/-- An ending with a list of its own: what it is, where it lies. -/
def BinEnd (Q : List Int → Prop) (w w' : World) (e : Ending) : Prop := ∃ rs v, e = .returned v ∧ Q rs ∧ ResI w w' v rs ∧ Below w.heap.size w w'

end Go.Proofs.YtjggdbakbhacjaaDoor
namespace Go.Proofs.YtjggdbakbhacjaaDoor
set_option maxRecDepth 100000
open Go.RowKit

theorem Reads.drewN {w : World} {A : Option Addr} {xs : List Value} (h : Reads w A xs) (n : Nat) : Reads (w.drewN n) A xs := h
theorem own_drewN {w : World} {base : Nat} {E : TypeId} {size n : Nat} {v : Value} {xs : List Value} (h : w.ownsRow base E size v n xs) (m : Nat) : (w.drewN m).ownsRow base E size v n xs := h

end Go.Proofs.YtjggdbakbhacjaaDoor
namespace Go.Proofs.YtjggdbakbhacjaaDoor
set_option maxRecDepth 100000
open Go.RowKit

end Go.Proofs.YtjggdbakbhacjaaDoor
namespace Go.Proofs.YtjggdbakbhacjaaDoor
set_option maxRecDepth 100000
open Go.RowKit

theorem Reads.grown {w w' : World} {A : Option Addr} {xs : List Value} {g : Nat} (h : Reads w A xs) (hg : w.grownBy w' (some g)) (hne : ∀ b o, A = some ⟨b, o, none⟩ → b ≠ g) : Reads w' A xs := by
  rcases h with rfl | ⟨b, o, rfl, hb, hc⟩
  · exact .inl rfl
  · exact .inr ⟨b, o, rfl, by have := hg.size; omega, fun j hj => (World.cell?_of_block (a := ⟨b, o + j, none⟩) (hg.block b hb (fun e => hne b o rfl (by simpa using e)))).trans (hc j hj)⟩
theorem map_append_set (P X : List Int) (i : Nat) (d : Int) : ((P ++ X).map (Value.int .i64)).set (P.length + i) (.int .i64 d) = ((P ++ X.set i d).map (.int .i64)) := by
  rw [map_set_int, List.set_append_right _ _ (by omega), Nat.add_sub_cancel_left]
theorem map_append_get (P X : List Int) (i : Nat) (h : i < X.length) : ((P ++ X).map (Value.int .i64))[P.length + i]? = some (.int .i64 X[i]) := by
  rw [List.getElem?_map, List.getElem?_append_right (by omega), Nat.add_sub_cancel_left, List.getElem?_eq_getElem h]; rfl

theorem tmod_floor (n : Int) : ((n.tmod 1000000000) + 1000000000).tmod 1000000000 = n % 1000000000 := by
  by_cases h : 0 ≤ n
  · rw [Int.tmod_eq_emod_of_nonneg h, Int.tmod_eq_emod_of_nonneg (by omega)]; omega
  · obtain ⟨k, rfl⟩ : ∃ k, n = -k := ⟨-n, by omega⟩
    rw [Int.neg_tmod, Int.tmod_eq_emod_of_nonneg (show 0 ≤ k by omega), Int.tmod_eq_emod_of_nonneg (by omega)]; omega
theorem tmod_bd (n : Int) : -1000000000 < n.tmod 1000000000 ∧ n.tmod 1000000000 < 1000000000 := by
  by_cases h : 0 ≤ n
  · rw [Int.tmod_eq_emod_of_nonneg h]; omega
  · obtain ⟨k, rfl⟩ : ∃ k, n = -k := ⟨-n, by omega⟩
    rw [Int.neg_tmod, Int.tmod_eq_emod_of_nonneg (show 0 ≤ k by omega)]; omega
theorem impl_floorMod (n : Int) (w : World) :
    Calls Tryd.prog 73 #[.int .i64 n, .int .i64 1000000000] w fun e w' => e = .returned (.int .i64 (n % 1000000000)) ∧ w = w' := by
  have hb := tmod_bd n
  go_enter Tryd.func73, Tryd.ntmps73
  go_wp2_with fail
  go_ret
  exact ⟨ret_int ((Int.tmod_eq_emod_of_nonneg (a := n.tmod 1000000000 + 1000000000) (by omega)).symm.trans (tmod_floor n)), rfl⟩

/-- What a product with one limb ends in: the whole list, in memory of its own. -/
def TimesEnd (t : Int) (L : Nat) (w w' : World) (e : Ending) : Prop := ∃ r g, e = .returned (.slice (some ⟨g, 0, none⟩) L L) ∧ g = w.heap.size ∧ r.length = L ∧ InR r ∧ val r = t ∧ w'.ownsRow w.heap.size 3 1 (.slice (some ⟨g, 0, none⟩) L L) L (r.map (.int .i64)) ∧ Below w.heap.size w w'
set_option maxHeartbeats 800000 in
theorem impl_timesLimb (A1 : Option Addr) (n1 c1 : Nat) (xs : List Int) (s : Int) (w : World) (hn : xs.length = n1) (hb1 : n1 ≤ 1048576) (hr : Reads w A1 (xs.map (.int .i64))) (k1 : InR xs) (s0 : 0 ≤ s) (s1 : s ≤ 999999999) :
    Calls Tryd.prog 65 #[.slice A1 n1 c1, .int .i64 s] w fun e w' => TimesEnd (val xs * s) (n1 + 1) w w' e := by
  obtain ⟨i0, hi, hz0, hz1, hz2⟩ := info_parts Tryd.infoI
  have Hn := Lib.hid hn
  have Hr := Lib.hid hr
  have K1 := Lib.hid k1
  clear hn hr k1
  go_enter Tryd.func65, Tryd.ntmps65
  go_wp2_with (refine wpList_make_full _ rfl _ _ 30 rfl w.heap.size 3 i0 (.int .i64 0) 1 Tryd.underlying30 hi hz0 hz1 _ _ _ _ (n1 + 1) rfl rfl (by omega) (by omega) (by rw [hz2]; omega) (by unfold maxLen; omega) (Nat.le_refl _) ?_)
  have hrep : (madeCells #[Value.int .i64 0] (n1 + 1)).toList = (List.replicate (n1 + 1) (0 : Int)).map (.int .i64) := by simp [toList_madeCells_one]
  intro w1 ho hg
  have O1 : Hid (w1.ownsRow w.heap.size 3 1 (.slice (some ⟨w.heap.size, 0, none⟩) (n1 + 1) (n1 + 1)) (n1 + 1) ((List.replicate (n1 + 1) (0 : Int)).map (.int .i64))) := by
    unfold Hid; rw [← hrep]; exact ho
  have B1 := Lib.hid ((Below.refl w.heap.size w).grown hg (Nat.le_refl _) (fun k hk => by cases hk))
  have M1 : Hid (TimesAt xs s 0 0 (List.replicate (n1 + 1) 0)) := by unfold Hid; rw [← Hn.out]; exact TimesAt.start xs s
  clear ho hg hrep
  go_wp2_with fail
  go_loopw [6, 14] (fun x y wr => ∃ (k : Nat) (cy : Int) (os : List Int), k ≤ n1 ∧ y = .int .i64 (k : Int) ∧ x = .int .i64 cy ∧ 0 ≤ cy ∧ cy ≤ 999999999 ∧ Hid (TimesAt xs s k cy os) ∧ Hid (wr.ownsRow w.heap.size 3 1 (.slice (some ⟨w.heap.size, 0, none⟩) (n1 + 1) (n1 + 1)) (n1 + 1) (os.map (.int .i64))) ∧ Hid (Below w.heap.size w wr)) (fun _ y _ => n1 - (intOf y).toNat)
  case atStart => exact ⟨0, 0, _, Nat.zero_le _, rfl, rfl, by omega, by omega, M1, O1, B1⟩
  case round =>
    obtain ⟨k, cy, os, hk, rfl, rfl, c0, c9, hs, ho, hb⟩ := hrel
    obtain ⟨wo, rfl⟩ : ∃ wo : World, wo = wr := ⟨_, rfl⟩
    have hk0 : (0 : Int) ≤ (k : Int) := by omega
    have hlen : os.length = n1 + 1 := by rw [hs.out.1, Hn.out]
    have Hlen := Lib.hid hlen
    by_cases hlt : k < n1
    · have hix : k < xs.length := by rw [Hn.out]; exact hlt
      obtain ⟨b1, o1, rfl, hbs1, hc1⟩ := (Hr.out.below hb.out).at_ (by simp; omega)
      obtain ⟨x, hx⟩ : ∃ x, x = xs[k] := ⟨_, rfl⟩
      have g1 : wo.cell? ⟨b1, o1 + k, none⟩ = some (.int .i64 x) := (hc1 k (by simpa using hix)).trans (by simp [hx])
      have hxr := K1.out _ (List.getElem_mem hix)
      rw [← hx] at hxr
      obtain ⟨x0, x1⟩ := hxr
      obtain ⟨p0, p1⟩ := prod_bd x0 x1 s0 s1
      have hnx := Lib.hid (hs.out.step hix hx (by omega) (by omega))
      have hS : 0 ≤ (cy + x * s) / 1000000000 ∧ (cy + x * s) / 1000000000 ≤ 999999999 := by omega
      have HS := Lib.hid hS
      have hio : k < os.length := by omega
      obtain ⟨o, hoo⟩ : ∃ o, o = os[k] := ⟨_, rfl⟩
      have g3 : wo.cell? ⟨w.heap.size, k, none⟩ = some (.int .i64 o) := by
        rw [ho.out.cellAt k (by omega)]; simp [hio, hoo]
      have hfr := ho.out.frozenAt k
      have hst := ho.out.stored k (.int .i64 ((cy + x * s) % 1000000000))
      rw [map_set_int] at hst
      have ho2 := Lib.hid hst.1
      have hb2 := Lib.hid (below_marked hb.out ho.out hst.2 (Nat.le_refl _) hb.out.size)
      have hkn : (k : Int) < (n1 : Int) := by omega
      clear hx hoo hst hS hc1 hlen
      go_wp2_with fail
      go_roundw
      case rel => exact ⟨k + 1, _, _, by omega, by go_num, rfl, HS.out.1, HS.out.2, hnx, ho2, hb2⟩
      case measure => simp [intOf]; omega
    · obtain rfl : k = n1 := by omega
      have hs2 := hs.out
      rw [← Hn.out] at hs2
      have hv := Lib.hid hs2.last
      rw [Hn.out] at hv
      have hio : k < os.length := by omega
      obtain ⟨o, hoo⟩ : ∃ o, o = os[k] := ⟨_, rfl⟩
      have g3 : wo.cell? ⟨w.heap.size, k, none⟩ = some (.int .i64 o) := by
        rw [ho.out.cellAt k (by omega)]; simp [hio, hoo]
      have hfr := ho.out.frozenAt k
      have hst := ho.out.stored k (.int .i64 cy)
      rw [map_set_int] at hst
      have ho2 := Lib.hid hst.1
      have hb2 := Lib.hid (below_marked hb.out ho.out hst.2 (Nat.le_refl _) hb.out.size)
      clear hoo hst hs2 hlen
      go_wp2_with fail
      go_ret
      exact ⟨os.set k cy, _, rfl, rfl, hv.out.2.2, hv.out.1, hv.out.2.1, ho2.out, hb2.out⟩

/-- What a quotient by one limb ends in. -/
def OverEnd (t d : Int) (B : Nat) (w w' : World) (e : Ending) : Prop := ∃ r A c rest, e = .returned (.slice A r.length c) ∧ Canon r ∧ val r * d + rest = t ∧ 0 ≤ rest ∧ rest < d ∧ r.length ≤ B ∧ w'.ownsRow w.heap.size 3 1 (.slice A r.length c) r.length (r.map (.int .i64)) ∧ Below w.heap.size w w'
set_option maxHeartbeats 800000 in
theorem impl_overLimb (A1 : Option Addr) (n1 c1 : Nat) (xs : List Int) (d : Int) (w : World) (hn : xs.length = n1) (hb1 : n1 ≤ 1048576) (hr : Reads w A1 (xs.map (.int .i64))) (k1 : InR xs) (d0 : 1 ≤ d) (d1 : d ≤ 999999999) :
    Calls Tryd.prog 68 #[.slice A1 n1 c1, .int .i64 d] w fun e w' => OverEnd (val xs) d n1 w w' e := by
  obtain ⟨i0, hi, hz0, hz1, hz2⟩ := info_parts Tryd.infoI
  have Hn := Lib.hid hn
  have Hr := Lib.hid hr
  have K1 := Lib.hid k1
  clear hn hr k1
  go_enter Tryd.func68, Tryd.ntmps68
  go_wp2_with (refine wpList_make_full _ rfl _ _ 30 rfl w.heap.size 3 i0 (.int .i64 0) 1 Tryd.underlying30 hi hz0 hz1 _ _ _ _ n1 rfl rfl rfl rfl (by rw [hz2]; omega) (by unfold maxLen; omega) (Nat.le_refl _) ?_)
  have hrep : (madeCells #[Value.int .i64 0] n1).toList = (List.replicate n1 (0 : Int)).map (.int .i64) := by simp [toList_madeCells_one]
  intro w1 ho hg
  have O1 : Hid (w1.ownsRow w.heap.size 3 1 (.slice (some ⟨w.heap.size, 0, none⟩) n1 n1) n1 ((List.replicate n1 (0 : Int)).map (.int .i64))) := by
    unfold Hid; rw [← hrep]; simpa using ho
  have B1 := Lib.hid ((Below.refl w.heap.size w).grown hg (Nat.le_refl _) (fun k hk => by cases hk))
  have M1 : Hid (SmallAt xs d (n1 - 0) 0 (List.replicate n1 0)) := by have := SmallAt.start xs d0; unfold Hid; rw [Hn.out] at this; exact this
  clear ho hg hrep
  go_wp2_with fail
  go_loopw [6, 14] (fun x y wr => ∃ (k : Nat) (rest : Int) (os : List Int), k ≤ n1 ∧ y = .int .i64 (k : Int) ∧ x = .int .i64 rest ∧ 0 ≤ rest ∧ rest < d ∧ Hid (SmallAt xs d (n1 - k) rest os) ∧ Hid (wr.ownsRow w.heap.size 3 1 (.slice (some ⟨w.heap.size, 0, none⟩) n1 n1) n1 (os.map (.int .i64))) ∧ Hid (Below w.heap.size w wr)) (fun _ y _ => n1 - (intOf y).toNat)
  case atStart => exact ⟨0, 0, _, Nat.zero_le _, rfl, rfl, by omega, by omega, M1, O1, B1⟩
  case round =>
    obtain ⟨k, rest, os, hk, rfl, rfl, r0, r1, hs, ho, hb⟩ := hrel
    by_cases h0 : k = n1
    · subst h0
      have hs2 := hs.out
      rw [Nat.sub_self] at hs2
      have hv : Hid (InR os ∧ val os * d + rest = val xs ∧ os.length = k) := ⟨hs2.2.1, by have := hs2.2.2.1; rwa [List.drop_zero, List.drop_zero] at this, hs2.1.trans Hn.out⟩
      clear hs2
      go_wp2_with fail
      refine (impl_trim w.heap.size _ k k os _ hv.out.2.2 (by omega) ho.out).mono ?_
      rintro e w' ⟨⟨m, rfl, ht⟩, rfl⟩
      obtain ⟨hcn, hvl⟩ := ht.canon hv.out.1
      have hmm : m ≤ k := by have := ht.1; rwa [hv.out.2.2] at this
      have hlm : (os.take m).length = m := by have := ht.1; simp; omega
      have hown := own_take ho.out hmm
      rw [← List.map_take] at hown
      have hend : Hid (OverEnd (val xs) d k w wr (.returned (.slice (some ⟨w.heap.size, 0, none⟩) m k))) :=
        ⟨os.take m, _, _, rest, by rw [hlm], hcn, by rw [hvl]; exact hv.out.2.1, r0, r1, by rw [hlm]; exact hmm, by rw [hlm]; exact hown, hb.out⟩
      clear ht hcn hvl hlm hown
      go_wp2_with fail
      go_ret
      exact hend.out
    · obtain ⟨i, hi9⟩ : ∃ i, n1 - k = i + 1 := ⟨n1 - k - 1, by omega⟩
      obtain ⟨wo, rfl⟩ : ∃ wo : World, wo = wr := ⟨_, rfl⟩
      have hix : i < xs.length := by rw [Hn.out]; omega
      obtain ⟨b1, o1, rfl, hbs1, hc1⟩ := (Hr.out.below hb.out).at_ (by simp; omega)
      obtain ⟨x, hx⟩ : ∃ x, x = xs[i] := ⟨_, rfl⟩
      have g1 : wo.cell? ⟨b1, o1 + i, none⟩ = some (.int .i64 x) := (hc1 i (by simpa using hix)).trans (by simp [hx])
      have hsi : (n1 : Int) - 1 - (k : Int) = (i : Int) := by omega
      have hxr := K1.out _ (List.getElem_mem hix)
      rw [← hx] at hxr
      obtain ⟨x0, x1⟩ := hxr
      have hs2 := hs.out
      rw [hi9] at hs2
      obtain ⟨hnx, m0, m1⟩ := hs2.step hix hx x0 x1 d0 d1
      rw [show i = n1 - (k + 1) by omega] at hnx
      rw [show n1 - (k + 1) = i by omega] at hnx
      have Hnx : Hid (SmallAt xs d (n1 - (k + 1)) ((rest * 1000000000 + x) % d) (os.set i ((rest * 1000000000 + x) / d))) := by
        unfold Hid; rw [show n1 - (k + 1) = i by omega]; exact hnx
      have hio : i < os.length := by rw [hs.out.1]; exact hix
      obtain ⟨o, hoo⟩ : ∃ o, o = os[i] := ⟨_, rfl⟩
      have g3 : wo.cell? ⟨w.heap.size, i, none⟩ = some (.int .i64 o) := by
        rw [ho.out.cellAt i (by omega)]; simp [hio, hoo]
      have hfr := ho.out.frozenAt i
      have hst := ho.out.stored i (.int .i64 ((rest * 1000000000 + x) / d))
      rw [map_set_int] at hst
      have ho2 := Lib.hid hst.1
      have hb2 := Lib.hid (below_marked hb.out ho.out hst.2 (Nat.le_refl _) hb.out.size)
      have hi0 : (0 : Int) ≤ (i : Int) := by omega
      have hi1 : (i : Int) < (n1 : Int) := by omega
      have hk1 : (k : Int) < (n1 : Int) := by omega
      clear hc1 hx hnx hoo hst h0 hs2 hi9
      go_wp2_with fail
      go_roundw
      case rel => exact ⟨k + 1, _, _, by omega, by go_num, rfl, m0, m1, Hnx, ho2, hb2⟩
      case measure => simp [intOf]; omega

/-- What a sum in place ends in. -/
def PlusEnd (g N c : Nat) (P X ds : List Int) (n base : Nat) (w w' : World) (e : Ending) : Prop :=
  ∃ cy X', e = .returned (.int .i64 cy) ∧ 0 ≤ cy ∧ cy ≤ 1 ∧ X'.length = X.length ∧ X'.drop n = X.drop n ∧ InR (X'.take n) ∧ val X' + pw n * cy = val X + val ds ∧ w'.ownsRow base 3 1 (.slice (some ⟨g, 0, none⟩) N c) N ((P ++ X').map (.int .i64)) ∧ w.grownBy w' (some g)
/-- A sum in place under way. -/
def PlusMem (g N c : Nat) (P X ds : List Int) (n base : Nat) (w wr : World) (i : Nat) (cy : Int) (X' : List Int) : Prop :=
  PlusAt (val X) ds n i cy X' ∧ X'.length = X.length ∧ X'.drop n = X.drop n ∧ wr.ownsRow base 3 1 (.slice (some ⟨g, 0, none⟩) N c) N ((P ++ X').map (.int .i64)) ∧ w.grownBy wr (some g)
set_option maxHeartbeats 800000 in
theorem impl_addTo (g N c base k n cw : Nat) (P X ds : List Int) (A2 : Option Addr) (c2 : Nat) (w : World) (ho : w.ownsRow base 3 1 (.slice (some ⟨g, 0, none⟩) N c) N ((P ++ X).map (.int .i64))) (hP : P.length = k) (hN : P.length + X.length = N) (hnX : n ≤ X.length) (hN60 : N ≤ 1048576)
    (hX : InR (X.take n)) (hd : ds.length = n) (hdr : InR ds) (hr : Reads w A2 (ds.map (.int .i64))) (hne : ∀ b o, A2 = some ⟨b, o, none⟩ → b ≠ g) :
    Calls Tryd.prog 74 #[.slice (some ⟨g, k, none⟩) n cw, .slice A2 n c2] w fun e w' => PlusEnd g N c P X ds n base w w' e := by
  subst hP
  have Hd := Lib.hid hd
  have Hdr := Lib.hid hdr
  have Hr := Lib.hid hr
  have Hne := Lib.hid hne
  have HN := Lib.hid hN
  have HnX := Lib.hid hnX
  have M1 : Hid (PlusMem g N c P X ds n base w w 0 0 X) := ⟨⟨hX, by simp [val], by omega, by omega⟩, rfl, rfl, ho, World.grownBy.refl _ _⟩
  have hn60 : n ≤ 1048576 := by omega
  clear hd hdr hr hne ho hX hN hnX
  go_enter Tryd.func74, Tryd.ntmps74
  go_wp2_with fail
  go_loopw [5, 9] (fun x y wr => ∃ (i : Nat) (cy : Int) (X' : List Int), i ≤ n ∧ y = .int .i64 (i : Int) ∧ x = .int .i64 cy ∧ 0 ≤ cy ∧ cy ≤ 1 ∧ Hid (PlusMem g N c P X ds n base w wr i cy X')) (fun _ y _ => n - (intOf y).toNat)
  case atStart => exact ⟨0, 0, X, Nat.zero_le _, rfl, rfl, by omega, by omega, M1⟩
  case round =>
    obtain ⟨i, cy, X', hi, rfl, rfl, c0, c9, hm⟩ := hrel
    obtain ⟨wo, rfl⟩ : ∃ wo : World, wo = wr := ⟨_, rfl⟩
    have hi0 : (0 : Int) ≤ (i : Int) := by omega
    by_cases hlt : i < n
    · obtain ⟨hp, hl, hdrop, ho, hg⟩ := hm.out
      have hid : i < ds.length := by rw [Hd.out]; exact hlt
      have hiX : i < X'.length := by rw [hl]; have := HnX.out; omega
      have hlN := HN.out
      obtain ⟨b2, o2, rfl, hbs2, hc2⟩ := (Hr.out.grown hg Hne.out).at_ (by simp; omega)
      obtain ⟨d, hdd⟩ : ∃ d, d = ds[i] := ⟨_, rfl⟩
      have g2 : wo.cell? ⟨b2, o2 + i, none⟩ = some (.int .i64 d) := (hc2 i (by simpa using hid)).trans (by simp [hdd])
      obtain ⟨o, hoo⟩ : ∃ o, o = X'[i] := ⟨_, rfl⟩
      have g3 : wo.cell? ⟨g, P.length + i, none⟩ = some (.int .i64 o) := by
        rw [ho.cellAt (P.length + i) (by omega), map_append_get _ _ _ hiX, hoo]
      obtain ⟨hnx, q0, q1, d0, d1⟩ := hp.step hlt hiX hoo hid hdd Hdr.out
      have hfr := ho.frozenAt (P.length + i)
      have hst := ho.stored (P.length + i) (.int .i64 ((cy + (o + d)) % 1000000000))
      rw [map_append_set] at hst
      have hS : 0 ≤ (cy + (o + d)) / 1000000000 ∧ (cy + (o + d)) / 1000000000 ≤ 1 := by omega
      have HS := Lib.hid hS
      have hfin : Hid (PlusMem g N c P X ds n base w (wo.setCell ⟨g, P.length + i, none⟩ (.int .i64 ((cy + (o + d)) % 1000000000))) (i + 1) ((cy + (o + d)) / 1000000000) (X'.set i ((cy + (o + d)) % 1000000000))) :=
        ⟨hnx, by simpa using hl, by rw [List.drop_set_of_lt hlt]; exact hdrop, hst.1, grownBy_trans hg hst.2⟩
      have hi1 : (i : Int) < (n : Int) := by omega
      clear hc2 hdd hoo hst hnx hp hl hdrop ho hg hS hlN hm
      go_wp2_with fail
      go_quiet (fail)
      go_wp2_with fail
      go_roundw
      case rel =>
        obtain ⟨f1, f2, f3, f4, f5⟩ := hfin.out
        exact ⟨i + 1, _, _, by omega, by go_num, rfl, HS.out.1, HS.out.2, ⟨f1, f2, f3, f4, ⟨f5.os, f5.tape, f5.output, f5.size, f5.block⟩⟩⟩
      case measure => simp [intOf]; omega
    · obtain rfl : i = n := by omega
      obtain ⟨⟨p1, p2, p3, p4⟩, hl, hdrop, ho, hg⟩ := hm.out
      rw [List.take_of_length_le (by rw [Hd.out]; exact Nat.le_refl _)] at p2
      have hfin : Hid (PlusEnd g N c P X ds i base w wo (.returned (.int .i64 cy))) := ⟨cy, X', rfl, p3, p4, hl, hdrop, p1, p2, ho, hg⟩
      clear p1 p2 hl hdrop ho hg hm
      go_wp2_with fail
      go_ret
      exact hfin.out
end Go.Proofs.YtjggdbakbhacjaaDoor
