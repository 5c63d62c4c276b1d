/- Lists of fractions as values: what the helpers of the laws do with them (counted, copied, equal, marked, held). -/
import Derived.Test.YtjggdbakbhacjaaVec
namespace Go.Proofs.Ytjggdbakbhacjaa
set_option maxRecDepth 100000
open Go.RowKit

theorem Try.infoR : (Try.prog.info? 26).map (fun i => (i.zero, i.size, i.bytes)) = some (some (.agg #[.bool false, .slice none 0 0, .slice none 0 0]), 3, 56) := by kernel_rfl
/-- A fraction that came in, at place o of block b. -/
def RatIs (w : World) (b o : Nat) (r : RD) : Prop :=
  ∃ A n c B m d, w.cell? ⟨b, o, none⟩ = some (.bool r.g) ∧ w.cell? ⟨b, o + 1, none⟩ = some (.slice A n c) ∧ w.cell? ⟨b, o + 2, none⟩ = some (.slice B m d) ∧ IsInts w A n r.xs ∧ IsInts w B m r.ds
/-- A list of fractions that came in. -/
def IsV (w : World) (A : Option Addr) (n : Nat) (rs : List RD) : Prop :=
  rs.length = n ∧ n ≤ maxLen ∧ (n = 0 ∨ ∃ b o, A = some ⟨b, o, none⟩ ∧ b < w.heap.size ∧ ∀ j (h : j < rs.length), RatIs w b (o + j * 3) rs[j])
theorem IsInts.below {w w' : World} {A : Option Addr} {n : Nat} {xs : List Int} (h : IsInts w A n xs) (hb : Below w.heap.size w w') : IsInts w' A n xs := ⟨h.1, h.2.1, h.2.2.1.below hb, h.2.2.2⟩
theorem RatIs.below {w w' : World} {b o : Nat} {r : RD} (h : RatIs w b o r) (hlt : b < w.heap.size) (hb : Below w.heap.size w w') : RatIs w' b o r := by
  obtain ⟨A, n, c, B, m, d, h0, h1, h2, h3, h4⟩ := h
  exact ⟨A, n, c, B, m, d, (hb.cell (p := ⟨b, o, none⟩) hlt).trans h0, (hb.cell (p := ⟨b, o + 1, none⟩) hlt).trans h1, (hb.cell (p := ⟨b, o + 2, none⟩) hlt).trans h2, h3.below hb, h4.below hb⟩
theorem IsV.below {w w' : World} {A : Option Addr} {n : Nat} {rs : List RD} (h : IsV w A n rs) (hb : Below w.heap.size w w') : IsV w' A n rs := by
  refine ⟨h.1, h.2.1, ?_⟩
  rcases h.2.2 with h0 | ⟨b, o, hA, hlt, hat⟩
  · exact .inl h0
  · exact .inr ⟨b, o, hA, Nat.lt_of_lt_of_le hlt hb.size, fun j hj => (hat j hj).below hlt hb⟩
theorem IsV.at_ {w : World} {A : Option Addr} {n : Nat} {rs : List RD} (h : IsV w A n rs) (j : Nat) (hj : j < n) : ∃ b o, A = some ⟨b, o, none⟩ ∧ b < w.heap.size ∧ ∃ r, rs[j]? = some r ∧ RatIs w b (o + j * 3) r := by
  rcases h.2.2 with h0 | ⟨b, o, hA, hlt, hat⟩
  · omega
  · exact ⟨b, o, hA, hlt, rs[j]'(by rw [h.1]; exact hj), List.getElem?_eq_getElem _, hat j (by rw [h.1]; exact hj)⟩
def SzEnd (left : Int) (t : Nat) (w w' : World) (e : Ending) : Prop := ∃ r : Int, e = .returned (.int .i64 r) ∧ (r = -1 ∨ (0 ≤ r ∧ r = left - t)) ∧ Below w.heap.size w w'
set_option maxHeartbeats 800000 in
theorem szRatS_any (A : Option Addr) (n c : Nat) (rs : List RD) (left : Int) (w : World) (h : IsV w A n rs) (h0 : 0 ≤ left) (hl : left ≤ 1048576) :
    Calls Try.prog 18 #[.slice A n c, .int .i64 left] w fun e w' => SzEnd left (n + tot rs) w w' e := by
  have hm := h.2.1
  have hlen := h.1
  unfold maxLen at hm
  have HV := Lib.hid h
  have HL := Lib.hid hlen
  clear h hlen
  by_cases hneg : left - n < 0
  · go_enter Try.func18, Try.ntmps18
    go_wp2_with fail
    go_ret
    exact ⟨-1, rfl, .inl rfl, Below.refl _ _⟩
  go_enter Try.func18, Try.ntmps18
  go_wp2_with fail
  go_loopw [1, 5] (fun x y wr => ∃ i : Nat, i ≤ n ∧ y = .int .i64 i ∧ (∃ z : Int, x = .int .i64 z ∧ 0 ≤ z ∧ z ≤ 1048576 ∧ Hid (z = left - n - tot (rs.take i))) ∧ Hid (Below w.heap.size w wr)) (fun _ y _ => n - (intOf y).toNat)
  case atStart => exact ⟨0, Nat.zero_le _, rfl, ⟨left - n, by first | rfl | go_num, by omega, by omega, by unfold Hid; simp [tot]⟩, Below.refl _ _⟩
  case round =>
    obtain ⟨i, hi, rfl, ⟨z, rfl, hz0, hz1, hz⟩, hb⟩ := hrel
    by_cases hlt : i < n
    · obtain ⟨b, o, rfl, hbs, r, hr, hat⟩ := (HV.out.below hb.out).at_ i hlt
      obtain ⟨A1, n1, c1, B1, m1, d1, e0, e1, e2, i1, i2⟩ := hat
      have hi0 : (0 : Int) ≤ (i : Int) := by omega
      have hi1 : (i : Int) < (n : Int) := by omega
      have l1 := i1.2.1
      have l2 := i2.2.1
      have HT : Hid (r.tot = n1 + m1) := by unfold Hid RD.tot; rw [i1.1, i2.1]
      have HR := Lib.hid hr
      clear hr i1 i2
      have B0 := Lib.hid hb
      go_wp2_with fail
      by_cases hs : z - n1 - m1 < 0
      · refine (szRat_neg r.g A1 n1 c1 B1 m1 d1 z _ hz0 hz1 l1 l2 hs).mono ?_
        rintro e w1 ⟨rfl, hb1⟩
        have HB := Lib.hid (hb.out.trans (hb1.mono hb.out.size))
        clear hb1
        go_wp2_with fail
        go_ret
        exact ⟨-1, rfl, .inl rfl, HB.out⟩
      · refine (szRat_pos r.g A1 n1 c1 B1 m1 d1 z _ hz0 hz1 hs).mono ?_
        rintro e w1 ⟨rfl, hb1⟩
        have HB := Lib.hid (hb.out.trans (hb1.mono hb.out.size))
        have HZ : Hid (z - n1 - m1 = left - n - tot (rs.take (i + 1))) := by
          have h1 := hz.out
          have h2 := HT.out
          have h3 := tot_take_succ HR.out
          unfold Hid; omega
        clear hb1
        go_wp2_with fail
        go_roundw
        case rel => exact ⟨i + 1, by omega, by go_num, ⟨z - n1 - m1, rfl, by omega, by omega, HZ⟩, HB⟩
        case measure => simp [intOf]; omega
    · obtain rfl : i = n := by omega
      have HZ : Hid (z = left - ((i + tot rs : Nat) : Int)) := by
        have h1 := hz.out
        rw [List.take_of_length_le (by rw [HL.out]; omega)] at h1
        unfold Hid; omega
      have HF : Hid (SzEnd left (i + tot rs) w wr (.returned (.int .i64 z))) := ⟨z, rfl, .inr ⟨hz0, HZ.out⟩, hb.out⟩
      go_wp2_with fail
      go_ret
      exact HF.out

/-- The first i are there, the others are zero values. -/
def upTo (rs : List RD) (i n : Nat) : List RD := rs.take i ++ List.replicate (n - i) ⟨false, [], []⟩
theorem upTo_zero (rs : List RD) (n : Nat) : upTo rs 0 n = List.replicate n ⟨false, [], []⟩ := by simp [upTo]
theorem upTo_all {rs : List RD} {n : Nat} (h : rs.length = n) : upTo rs n n = rs := by simp [upTo, ← h]
theorem upTo_succ {rs : List RD} {i n : Nat} {r : RD} (h : rs[i]? = some r) (hi : i < n) : (upTo rs i n).set i r = upTo rs (i + 1) n := by
  obtain ⟨hlt, rfl⟩ := List.getElem?_eq_some_iff.1 h
  have hl : (rs.take i).length = i := by rw [List.length_take]; omega
  unfold upTo
  rw [List.set_append_right _ _ (by omega), hl, Nat.sub_self, show n - i = (n - (i + 1)) + 1 by omega, List.replicate_succ, List.set_cons_zero, List.take_succ_eq_append_getElem hlt, List.append_assoc]
  rfl
theorem has_zeros : ∀ n, Has (List.replicate n El.zero) (List.replicate n ⟨false, [], []⟩)
  | 0 => trivial
  | n + 1 => by rw [List.replicate_succ, List.replicate_succ]; exact ⟨⟨rfl, rfl, rfl, rfl, rfl⟩, has_zeros n⟩
def ToVEnd (n : Nat) (rs : List RD) (w w' : World) (e : Ending) : Prop := ∃ V L, e = .returned V ∧ OwnV w' w.heap.size V n L ∧ Has L rs ∧ Below w.heap.size w w'
set_option maxHeartbeats 1600000 in
theorem toRatS_any (A : Option Addr) (n c : Nat) (rs : List RD) (w : World) (h : IsV w A n rs) (hm : n + tot rs ≤ 1048576) :
    Calls Try.prog 20 #[.slice A n c] w fun e w' => ToVEnd n rs w w' e := by
  obtain ⟨i0, hi, hz0, hz1, hz2⟩ := info_parts Try.infoR
  have hlen := h.1
  have HV := Lib.hid h
  have HL := Lib.hid hlen
  clear h hlen
  go_enter Try.func20, Try.ntmps20
  go_wp2_with (refine wpList_make_full _ rfl _ _ 35 rfl w.heap.size 26 i0 (.agg #[.bool false, .slice none 0 0, .slice none 0 0]) 3 Try.underlying35 hi hz0 hz1 _ _ _ _ n rfl rfl rfl rfl ?c1 ?c2 ?c3 ?_)
  case c1 => rw [hz2]; omega
  case c2 => unfold maxLen; omega
  case c3 => exact Nat.le_refl _
  intro w1 ho hg
  have B1 := Lib.hid ((Below.refl w.heap.size w).grown hg (Nat.le_refl _) (fun k hk => by cases hk))
  have O1 := Lib.hid (OwnV.made ho)
  clear ho hg
  go_wp2_with fail
  go_loopw [4] (fun y wr => ∃ (i : Nat) (L : List El), i ≤ n ∧ y = .int .i64 i ∧ Hid (OwnV wr w.heap.size (.slice (some ⟨w.heap.size, 0, none⟩) n n) n L) ∧ Hid (Has L (upTo rs i n)) ∧ Hid (Below w.heap.size w wr)) (fun y _ => n - (intOf y).toNat)
  case atStart => exact ⟨0, _, Nat.zero_le _, rfl, O1, by rw [upTo_zero]; exact has_zeros n, B1⟩
  case round =>
    obtain ⟨i, L, hle, rfl, ho, hh, hb⟩ := hrel
    by_cases hlt : i < n
    · obtain ⟨b, o, rfl, hbs, r, hr, hat⟩ := (HV.out.below hb.out).at_ i hlt
      obtain ⟨A1, n1, c1, B1, m1, d1, e0, e1, e2, i1, i2⟩ := hat
      have hi0 : (0 : Int) ≤ (i : Int) := by omega
      have hi1 : (i : Int) < (n : Int) := by omega
      have ht := tot_at hr
      unfold RD.tot at ht
      rw [i1.1, i2.1] at ht
      have l1 : n1 ≤ 1048576 := by omega
      have l2 : m1 ≤ 1048576 := by omega
      have HR := Lib.hid hr
      have I1 := Lib.hid i1
      have I2 := Lib.hid i2
      clear hr i1 i2 ht
      go_wp2_with fail
      refine (toRat_any r.g A1 n1 c1 r.xs B1 m1 d1 r.ds _ I1.out.1 l1 I1.out.2.2.1 I2.out.1 l2 I2.out.2.2.1).mono ?_
      rintro e w2 ⟨v, u, rfl, o1, o2, hap, hb2⟩
      obtain ⟨A2, c2, rfl⟩ := own_slice o1
      obtain ⟨B2, d2, rfl⟩ := own_slice o2
      have ho2 := ho.out.below hb2
      have he : (El.mk r.g (.slice A2 n1 c2) n1 (r.xs.map (.int .i64)) (.slice B2 m1 d2) m1 (r.ds.map (.int .i64))).own w2 w.heap.size := El.own.lower ⟨o1, o2, hap⟩ hb.out.size
      have hf := ho.out.far_new (e := El.mk r.g (.slice A2 n1 c2) n1 (r.xs.map (.int .i64)) (.slice B2 m1 d2) m1 (r.ds.map (.int .i64))) ⟨o1, o2, hap⟩ (Nat.le_refl _)
      have hst := ho2.store hlt he hf
      have HO := Lib.hid hst.1
      have HB := Lib.hid (Wrote.below (hb.out.trans (hb2.mono hb.out.size)) hst.2 (fun k hk => (ho2.2.1.lt k hk).1) (Nat.le_trans hb.out.size hb2.size))
      have HH : Hid (Has (L.set i (El.mk r.g (.slice A2 n1 c2) n1 (r.xs.map (.int .i64)) (.slice B2 m1 d2) m1 (r.ds.map (.int .i64)))) (upTo rs (i + 1) n)) := by
        rw [← upTo_succ HR.out hlt]
        exact hh.out.set i ⟨rfl, I1.out.1.symm, rfl, I2.out.1.symm, rfl⟩
      obtain ⟨x0, x1, x2, g0, g1, g2, f0, f1, f2⟩ := ho2.room hlt
      clear hst ho2 he hf o1 o2 hap hb2
      go_wp2_with fail
      go_roundw
      case rel => exact ⟨i + 1, _, by omega, by go_num, HO, HH, HB⟩
      case measure => simp [intOf]; omega
    · obtain rfl : i = n := by omega
      have HH : Hid (Has L rs) := by rw [← upTo_all HL.out]; exact hh
      go_wp2_with fail
      go_ret
      exact ⟨_, L, rfl, ho.out, HH.out, hb.out⟩

/-- Three cells from place o of block b on. -/
def At3 (w : World) (b o : Nat) (x y z : Value) : Prop := w.cell? ⟨b, o, none⟩ = some x ∧ w.cell? ⟨b, o + 1, none⟩ = some y ∧ w.cell? ⟨b, o + 2, none⟩ = some z
theorem At3.below {w w' : World} {b o : Nat} {x y z : Value} (h : At3 w b o x y z) (hlt : b < w.heap.size) (hb : Below w.heap.size w w') : At3 w' b o x y z :=
  ⟨(hb.cell (p := ⟨b, o, none⟩) hlt).trans h.1, (hb.cell (p := ⟨b, o + 1, none⟩) hlt).trans h.2.1, (hb.cell (p := ⟨b, o + 2, none⟩) hlt).trans h.2.2⟩
theorem At3.drew {w : World} {b o : Nat} {x y z : Value} (h : At3 w b o x y z) : At3 w.drew b o x y z := h
theorem at33 {w : World} {b o b' o' : Nat} {x y z x' y' z' : Value} (h : Hid (At3 w b o x y z)) (k : Hid (At3 w b' o' x' y' z')) :
    w.cell? ⟨b, o, none⟩ = some x ∧ w.cell? ⟨b, o + 1, none⟩ = some y ∧ w.cell? ⟨b, o + 2, none⟩ = some z ∧ w.cell? ⟨b', o', none⟩ = some x' ∧ w.cell? ⟨b', o' + 1, none⟩ = some y' ∧ w.cell? ⟨b', o' + 2, none⟩ = some z' :=
  ⟨h.out.1, h.out.2.1, h.out.2.2, k.out.1, k.out.2.1, k.out.2.2⟩
theorem InV.at_ {w : World} {A : Option Addr} {n : Nat} {rs : List RD} (h : InV w A n rs) (j : Nat) (hj : j < n) :
    ∃ b o, A = some ⟨b, o, none⟩ ∧ b < w.heap.size ∧ ∃ r, rs[j]? = some r ∧ ∃ A1 n1 c1 B1 m1 d1, At3 w b (o + j * 3) (.bool r.g) (.slice A1 n1 c1) (.slice B1 m1 d1) ∧ InI w A1 n1 r.xs ∧ Room A1 n1 c1 ∧ InI w B1 m1 r.ds ∧ Room B1 m1 d1 := by
  rcases h.2.2 with h0 | ⟨b, o, hA, hlt, hat⟩
  · omega
  · obtain ⟨A1, n1, c1, B1, m1, d1, h0, h1, h2, h3, h4, h5, h6⟩ := hat j (by rw [h.1]; exact hj)
    exact ⟨b, o, hA, hlt, rs[j]'(by rw [h.1]; exact hj), List.getElem?_eq_getElem _, A1, n1, c1, B1, m1, d1, ⟨h0, h1, h2⟩, h3, h4, h5, h6⟩
set_option maxHeartbeats 1600000 in
theorem eqRatS_same (A1 A2 : Option Addr) (n c1 c2 : Nat) (rs : List RD) (w : World) (h1 : InV w A1 n rs) (h2 : InV w A2 n rs) :
    Calls Try.prog 22 #[.slice A1 n c1, .slice A2 n c2] w fun e w' => e = .returned (.bool true) ∧ Below w.heap.size w w' := by
  have hm := h1.2.1
  have H1 := Lib.hid h1
  have H2 := Lib.hid h2
  clear h1 h2
  go_enter Try.func22, Try.ntmps22
  go_wp2_with fail
  go_loopw [5] (fun x wr => ∃ i : Nat, i ≤ n ∧ x = .int .i64 i ∧ Hid (Below w.heap.size w wr)) (fun x _ => n - (intOf x).toNat)
  case atStart => exact ⟨0, Nat.zero_le _, rfl, Below.refl _ _⟩
  case round =>
    obtain ⟨i, hle, rfl, hb⟩ := hrel
    by_cases hlt : i < n
    · obtain ⟨b1, o1, rfl, hb1, r, hr, A3, n3, c3, B3, m3, d3, at1, i1, _, j1, _⟩ := (H1.out.below hb.out).at_ i hlt
      obtain ⟨b2, o2, rfl, hb2, r', hr', A4, n4, c4, B4, m4, d4, at2, i2, _, j2, _⟩ := (H2.out.below hb.out).at_ i hlt
      obtain rfl : r = r' := by rw [hr] at hr'; exact Option.some.inj hr'
      obtain rfl : n3 = n4 := i1.1.symm.trans i2.1
      obtain rfl : m3 = m4 := j1.1.symm.trans j2.1
      have hi0 : (0 : Int) ≤ (i : Int) := by omega
      have hi1 : (i : Int) < (n : Int) := by omega
      have P1_0 := Lib.hid at1.drew
      have P2_0 := Lib.hid at2.drew
      have I1 := Lib.hid i1.drew
      have I2 := Lib.hid i2.drew
      have J1 := Lib.hid j1.drew
      have J2 := Lib.hid j2.drew
      have HLT1 := Lib.hid hb1
      have HLT2 := Lib.hid hb2
      clear at1 at2 i1 i2 j1 j2 hr hr'
      go_wp2_with fail
      go_region_held3 (fun w' => w'.cell? ⟨b1, o1 + i * 3, none⟩ = some (.bool r.g) ∧ w'.cell? ⟨b1, o1 + i * 3 + 1, none⟩ = some (.slice A3 n3 c3) ∧ w'.cell? ⟨b1, o1 + i * 3 + 2, none⟩ = some (.slice B3 m3 d3) ∧ w'.cell? ⟨b2, o2 + i * 3, none⟩ = some (.bool r.g) ∧ w'.cell? ⟨b2, o2 + i * 3 + 1, none⟩ = some (.slice A4 n3 c4) ∧ w'.cell? ⟨b2, o2 + i * 3 + 2, none⟩ = some (.slice B4 m3 d4)) (first | with_reducible exact at33 P1_1 P2_1 | with_reducible exact at33 P1_0 P2_0) (first | (go_at_call 15; (with_reducible refine (eqRat_same r.g A3 A4 n3 c3 c4 r.xs B3 B4 m3 d3 d4 r.ds _ I1.out.len (by have := I1.out.le; unfold maxLen; omega) I1.out.rd I2.out.rd J1.out.len (by have := J1.out.le; unfold maxLen; omega) J1.out.rd J2.out.rd).mono ?_); rintro e w1 ⟨rfl, hc1⟩; have P1_1 := Lib.hid (P1_0.out.below HLT1.out hc1); have P2_1 := Lib.hid (P2_0.out.below HLT2.out hc1); have HB := Lib.hid (hb.out.drew.trans (hc1.mono hb.out.size)); clear hc1))
      go_wp2_with fail
      go_roundw
      case rel => exact ⟨i + 1, by omega, by go_num, HB⟩
      case measure => simp [intOf]; omega
    · obtain rfl : i = n := by omega
      go_wp2_with fail
      go_ret
      exact ⟨rfl, hb.out⟩

/-! Marks: each value of a list turned into one that tells its place. -/
def El.marked (K : Nat) (e : El) : El := { e with g := ((K : Int) % 3 == 0), xs := marks markI (K + 1) e.n, ys := marks markI (K + 1 + e.n) e.m }
def mtot : List El → Nat
  | [] => 0
  | e :: L => 1 + e.n + e.m + mtot L
def markL (K : Nat) : List El → List El
  | [] => []
  | e :: L => e.marked K :: markL (K + (1 + e.n + e.m)) L
def markTo (K : Nat) (L : List El) (i : Nat) : List El := markL K (L.take i) ++ L.drop i
theorem markL_length : ∀ (K : Nat) (L : List El), (markL K L).length = L.length
  | _, [] => rfl
  | _, e :: L => by simp [markL, markL_length]
theorem markL_snoc : ∀ (K : Nat) (L : List El) (e : El), markL K (L ++ [e]) = markL K L ++ [e.marked (K + mtot L)]
  | K, [], e => by simp [markL, mtot]
  | K, x :: L, e => by simp [markL, mtot, markL_snoc, Nat.add_assoc]
theorem mtot_snoc : ∀ (L : List El) (e : El), mtot (L ++ [e]) = mtot L + (1 + e.n + e.m)
  | [], e => by simp [mtot]
  | x :: L, e => by simp only [List.cons_append, mtot, mtot_snoc L e]; omega
theorem mtot_take_le : ∀ (L : List El) (i : Nat), mtot (L.take i) ≤ mtot L
  | [], _ => by simp
  | x :: L, 0 => by simp [mtot]
  | x :: L, i + 1 => by have := mtot_take_le L i; simp only [List.take_succ_cons, mtot]; omega
theorem markTo_length (K : Nat) (L : List El) (i : Nat) : (markTo K L i).length = L.length := by
  simp only [markTo, List.length_append, markL_length, List.length_take, List.length_drop]; omega
theorem markTo_zero (K : Nat) (L : List El) : markTo K L 0 = L := by simp [markTo, markL]
theorem markTo_all {K : Nat} {L : List El} {n : Nat} (h : L.length = n) : markTo K L n = markL K L := by subst h; simp [markTo]
theorem markTo_at {K : Nat} {L : List El} {i : Nat} (h : i < L.length) : (markTo K L i)[i]? = some L[i] := by
  have hl : (markL K (L.take i)).length = i := by rw [markL_length, List.length_take]; omega
  unfold markTo
  rw [List.getElem?_append_right (by omega), hl, Nat.sub_self, List.drop_eq_getElem_cons h]
  rfl
theorem markTo_succ {K : Nat} {L : List El} {i : Nat} (h : i < L.length) : (markTo K L i).set i (L[i].marked (K + mtot (L.take i))) = markTo K L (i + 1) := by
  have hl : (markL K (L.take i)).length = i := by rw [markL_length, List.length_take]; omega
  unfold markTo
  rw [List.set_append_right _ _ (by omega), hl, Nat.sub_self, List.drop_eq_getElem_cons h, List.set_cons_zero, List.take_succ_eq_append_getElem h, markL_snoc, List.append_assoc]
  rfl
theorem mtot_succ {L : List El} {i : Nat} (h : i < L.length) : mtot (L.take (i + 1)) = mtot (L.take i) + (1 + L[i].n + L[i].m) := by
  rw [List.take_succ_eq_append_getElem h, mtot_snoc]
theorem foot_congr {V : Value} {L M : List El} (h : L.map (fun e => (e.v, e.u)) = M.map fun e => (e.v, e.u)) {k : Nat} (hk : footV V L k) : footV V M k := by
  rcases hk with hk | ⟨e, he, hk⟩
  · exact .inl hk
  · have : (e.v, e.u) ∈ M.map fun e => (e.v, e.u) := by rw [← h]; exact List.mem_map.2 ⟨e, he, rfl⟩
    obtain ⟨x, hx, hxe⟩ := List.mem_map.1 this
    simp only [Prod.mk.injEq] at hxe
    refine .inr ⟨x, hx, ?_⟩
    unfold El.foot at hk ⊢
    rw [hxe.1, hxe.2]; exact hk
theorem markL_vu : ∀ (K : Nat) (L : List El), (markL K L).map (fun e => (e.v, e.u)) = L.map fun e => (e.v, e.u)
  | _, [] => rfl
  | _, e :: L => by simp [markL, El.marked, markL_vu]
theorem markTo_vu (K : Nat) (L : List El) (i : Nat) : (markTo K L i).map (fun e => (e.v, e.u)) = L.map fun e => (e.v, e.u) := by
  unfold markTo
  rw [List.map_append, markL_vu, ← List.map_append, List.take_append_drop]
theorem flat_set_same {L : List El} {i : Nat} {e : El} (hi : i < L.length) (h : e.cells = L[i].cells) : flat (L.set i e) = flat L := by
  have : (L.set i e).map El.cells = L.map El.cells := by
    rw [List.map_set, h, ← List.getElem_map (f := El.cells) (h := by simpa using hi), List.set_getElem_self]
  unfold flat
  rw [List.flatMap_def, List.flatMap_def, this]
section
variable {w w' : World} {base : Nat} {V : Value} {n : Nat} {L : List El}
/-- An element is turned in its own blocks, or in its sign. -/
theorem OwnV.turn (h : OwnV w base V n L) {i : Nat} (hi : i < L.length) {e' : El} (hv : e'.v = L[i].v) (hu : e'.u = L[i].u) (hrow : w'.ownsRow base 26 3 V n (flat (L.set i e'))) (he : e'.own w' base)
    (hW : Wrote (fun k => V.ownBlock = some k ∨ L[i].foot k) w w') : OwnV w' base V n (L.set i e') := by
  have hfoot : ∀ k, e'.foot k ↔ L[i].foot k := fun k => by unfold El.foot; rw [hv, hu]
  refine ⟨by simp [h.1], hrow, fun x hx => ?_, ?_⟩
  · obtain ⟨j, hj, rfl⟩ := List.mem_iff_getElem.1 hx
    have hj' : j < L.length := by simpa using hj
    by_cases e : i = j
    · subst e; simpa using he
    · rw [List.getElem_set_ne e]
      have hx := h.2.2.1 L[j] (List.getElem_mem _)
      refine hx.dep fun k hk => hW.block k (hx.lt k hk).2 ?_
      rintro (hk' | hk')
      · exact el_other hx h.2.1 (by decide) k hk hk'
      · have hp := List.pairwise_iff_getElem.1 h.2.2.2
        rcases Nat.lt_or_gt_of_ne e with hlt | hlt
        · exact hp i j hi hj' hlt k hk' hk
        · exact hp j i hj' hi hlt k hk hk'
  · rw [List.pairwise_iff_getElem]
    have hp := List.pairwise_iff_getElem.1 h.2.2.2
    intro a b ha hb hab k ka kb
    rw [List.length_set] at ha hb
    refine hp a b ha hb hab k ?_ ?_
    · by_cases e : i = a
      · subst e; rw [List.getElem_set_self] at ka; exact (hfoot k).1 ka
      · rwa [List.getElem_set_ne e] at ka
    · by_cases e : i = b
      · subst e; rw [List.getElem_set_self] at kb; exact (hfoot k).1 kb
      · rwa [List.getElem_set_ne e] at kb
end
end Go.Proofs.Ytjggdbakbhacjaa
