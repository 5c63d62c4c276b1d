/- Contracts of symmetric matrices, by the program: Submatrix. -/
import Derived.Test.YthjbfdifeffilaaSymI
import Derived.Test.YthjbfdifeffilaaSymL
import Derived.Test.YthjbfdifeffilaaMatI1
namespace Go.Proofs.Ythjbfdifeffilaa
set_option maxRecDepth 100000
open Go.RowKit

theorem sub_no {p k : Int} {rs : List RD} {l : List Int} (h : ¬ ((MOk p k rs ∧ p = k) ∧ AscIs p l)) : SubmatrixIs p k rs l 0 0 [] false := .inr ⟨h, rfl, rfl, rfl, rfl⟩
theorem sub_goods {P : Nat} {rs : List RD} {l : List Int} (h : MOk P P rs) (ha : AscIs P l) : Goods (sub P rs l) := by
  refine ⟨?_, fun x hx => .inl (sub_ok h ha x hx)⟩
  have h1 := ha.len (by omega)
  have h2 := h.1
  rw [sub_length]
  have h3 := mul_le_576 (P := l.length) (K := l.length) (by omega) (by omega)
  omega
/-- What the walk asks ahead of a store into a list, and what it leaves. -/
theorem store_own {w : World} {base G n c i : Nat} {L : List El} {e : El} (h : OwnV w base (.slice (some ⟨G, 0, none⟩) n c) n L) (hi : i < n) (he : e.own w base) (hf : ∀ x ∈ L, Far x e) :
    (∃ x0 x1 x2, w.cell? ⟨G, i * 3, none⟩ = some x0 ∧ w.cell? ⟨G, i * 3 + 1, none⟩ = some x1 ∧ w.cell? ⟨G, i * 3 + 2, none⟩ = some x2 ∧ w.frozen? ⟨G, i * 3, none⟩ = false ∧ w.frozen? ⟨G, i * 3 + 1, none⟩ = false ∧ w.frozen? ⟨G, i * 3 + 2, none⟩ = false) ∧
    OwnV (((w.setCell ⟨G, i * 3, none⟩ (.bool e.g)).setCell ⟨G, i * 3 + 1, none⟩ e.v).setCell ⟨G, i * 3 + 2, none⟩ e.u) base (.slice (some ⟨G, 0, none⟩) n c) n (L.set i e) ∧
    Wrote (fun k => k = G) w (((w.setCell ⟨G, i * 3, none⟩ (.bool e.g)).setCell ⟨G, i * 3 + 1, none⟩ e.v).setCell ⟨G, i * 3 + 2, none⟩ e.u) := by
  have hst := h.store hi he hf
  exact ⟨h.room hi, hst.1, hst.2.mono fun k _ hk => by unfold blk at hk; simp [Value.ownBlock] at hk; exact hk.symm⟩
theorem El.own.below {w w' : World} {base : Nat} {e : El} (h : e.own w base) (hb : Below w.heap.size w w') : e.own w' base := h.dep fun k hk => hb.block k (h.lt k hk).2
theorem boxes_at {w : World} {b b' : Nat} {t t' : TypeId} {x y z x' y' z' : Value} {b2 o : Nat} {u0 u1 u2 : Value} (h : Hid (Box w b t #[x, y, z])) (k : Hid (Box w b' t' #[x', y', z'])) (l : Hid (At3 w b2 o u0 u1 u2)) :
    w.cell? ⟨b, 0, none⟩ = some x ∧ w.cell? ⟨b, 1, none⟩ = some y ∧ w.cell? ⟨b, 2, none⟩ = some z ∧ w.cell? ⟨b', 0, none⟩ = some x' ∧ w.cell? ⟨b', 1, none⟩ = some y' ∧ w.cell? ⟨b', 2, none⟩ = some z' ∧ w.cell? ⟨b2, o, none⟩ = some u0 ∧ w.cell? ⟨b2, o + 1, none⟩ = some u1 ∧ w.cell? ⟨b2, o + 2, none⟩ = some u2 :=
  ⟨h.out.cell 0, h.out.cell 1, h.out.cell 2, k.out.cell 0, k.out.cell 1, k.out.cell 2, l.out.1, l.out.2.1, l.out.2.2⟩
theorem At3.set3' {w : World} {b o G i : Nat} {x y z u0 u1 u2 : Value} (h : At3 w b o x y z) (hne : b ≠ G) : At3 (((w.setCell ⟨G, i, none⟩ u0).setCell ⟨G, i + 1, none⟩ u1).setCell ⟨G, i + 2, none⟩ u2) b o x y z := by
  have key : ∀ k, (((w.setCell ⟨G, i, none⟩ u0).setCell ⟨G, i + 1, none⟩ u1).setCell ⟨G, i + 2, none⟩ u2).cell? ⟨b, k, none⟩ = w.cell? ⟨b, k, none⟩ := fun k =>
    World.cell?_of_block (a := ⟨b, k, none⟩) ((Below.heap_setCell _ _ _ _ hne).trans ((Below.heap_setCell _ _ _ _ hne).trans (Below.heap_setCell _ _ _ _ hne)))
  exact ⟨(key _).trans h.1, (key _).trans h.2.1, (key _).trans h.2.2⟩
set_option maxHeartbeats 12800000 in
theorem impl_submatrix0 (p k : Int) (A : Option Addr) (n c : Nat) (rs : List RD) (B : Option Addr) (m d : Nat) (ls : List Int) (w : World) (h : InV w A n rs) (hp : -9223372036854775808 ≤ p ∧ p ≤ 9223372036854775807) (hk : -9223372036854775808 ≤ k ∧ k ≤ 9223372036854775807) (hc : n ≤ c) (h2 : InI w B m ls) :
    Calls Try.prog 30 #[.agg #[.int .i64 p, .int .i64 k, .slice A n c], .slice B m d] w fun e w' => MatOkEnd (SubmatrixIs p k rs ls) w w' e := by
  obtain ⟨W0, hW0⟩ : ∃ W, W = ((w.alloc (.cells #[.int .i64 p, .int .i64 k, .slice A n c] 25)).alloc (.cells #[.int .i64 0, .int .i64 0, .slice none 0 0] 25)) := ⟨_, rfl⟩
  have hm0_0 : Hid (Box W0 (w.heap.size) 25 #[.int .i64 p, .int .i64 k, .slice A n c]) := by rw [hW0]; exact ((Box.at' (by simp)).alloc _)
  have ht_0 : Hid (Box W0 (w.heap.size + 1) 25 #[.int .i64 0, .int .i64 0, .slice none 0 0]) := by rw [hW0]; exact (Box.at' (by simp))
  have BW_0 : Hid (Below w.heap.size w W0) := by rw [hW0]; exact (((Below.refl w.heap.size w).alloc (by simp) _).alloc (by simp) _)
  have hsz0 : w.heap.size + 1 + 1 ≤ W0.heap.size := by rw [hW0]; simp
  have hn := h.2.1
  have hm20 := h2.2.1
  have HV := Lib.hid (h.below BW_0.out)
  have HL := Lib.hid (h2.below BW_0.out)
  clear h h2
  go_enter Try.func30, Try.ntmps30
  go_wp2_with fail
  rw [← hW0]
  clear hW0
  refine (impl_isSquare p k A n c rs _ HV.out hp hk hc).mono ?_
  rintro e w1 ⟨b, rfl, hq, hb⟩
  have HL1 := Lib.hid (HL.out.below hb)
  have hm0_1 := Lib.hid (hm0_0.out.below hb hm0_0.out.lt)
  have ht_1 := Lib.hid (ht_0.out.below hb ht_0.out.lt)
  have BW_1 := Lib.hid (BW_0.out.trans (hb.mono BW_0.out.size))
  replace HV := Lib.hid (HV.out.below hb)
  clear hb
  have ehm00 := hm0_1.out.cell 0
  have ehm01 := hm0_1.out.cell 1
  have ehm02 := hm0_1.out.cell 2
  have eht0 := ht_1.out.cell 0
  have eht1 := ht_1.out.cell 1
  have eht2 := ht_1.out.cell 2
  have fht0 := ht_1.out.free 0
  have fht1 := ht_1.out.free 1
  have fht2 := ht_1.out.free 2
  simp at ehm00 ehm01 ehm02 eht0 eht1 eht2
  cases b
  case false =>
    have HZ : Hid (SubmatrixIs p k rs ls 0 0 [] false) := sub_no (fun h => (by have h1 := hq.2 h.1; cases h1))
    clear hq
    go_wp2_with fail
    refine bodyPost_ret (v := .tuple #[.agg #[.int .i64 0, .int .i64 0, .slice none 0 0], .bool false]) (by simp [results, Try.results30, eht0, eht1, eht2, go_sem]) rfl ?_
    exact matOkEnd_zero HZ.out BW_1.out (by omega) _ _ _
  obtain ⟨hM, hpk⟩ := hq.1 rfl
  clear hq
  subst hpk
  have HM := Lib.hid hM
  have hp2 := hM.1
  obtain ⟨P, rfl⟩ : ∃ P : Nat, p = P := ⟨p.toNat, by omega⟩
  have hP24 : P ≤ 24 := by omega
  clear hM
  go_wp2_with fail
  refine (impl_areIndices B m d ls P _ HL1.out).mono ?_
  rintro e w1' ⟨b, rfl, hq, rfl⟩
  cases b
  case false =>
    have HZ : Hid (SubmatrixIs P P rs ls 0 0 [] false) := sub_no (fun h => (by have h1 := hq.2 h.2; cases h1))
    clear hq
    go_wp2_with fail
    refine bodyPost_ret (v := .tuple #[.agg #[.int .i64 0, .int .i64 0, .slice none 0 0], .bool false]) (by simp [results, Try.results30, eht0, eht1, eht2, go_sem]) rfl ?_
    exact matOkEnd_zero HZ.out BW_1.out (by omega) _ _ _
  have hA := hq.1 rfl
  have HA := Lib.hid hA
  have hml : ls.length = m := HL1.out.1
  have HML := Lib.hid hml
  have hm24 : m ≤ 24 := by have h1 := hA.len (by omega); omega
  obtain ⟨zs, hzs⟩ : ∃ zs, zs = sub P rs ls := ⟨_, rfl⟩
  have HZ := Lib.hid hzs
  obtain ⟨N, hN⟩ : ∃ N, N = m * m := ⟨_, rfl⟩
  have HN := Lib.hid hN
  have HZL : Hid (zs.length = N) := by unfold Hid; rw [hzs, sub_length, hml, hN]
  have hN5 : N ≤ 576 := by rw [hN]; exact mul_le_576 hm24 hm24
  have hN20 : N ≤ 1048576 := by omega
  have HNP : Hid (n = P * P) := by have h1 := HM.out.plen; rw [HV.out.1] at h1; exact h1
  have hsz1 := BW_1.out.size
  have hlt0 := hm0_1.out.lt
  have hltt := ht_1.out.lt
  clear hq hA hml hzs
  go_wp2_with fail
  clear ehm00 ehm01 ehm02 eht0 fht0 eht1 fht1 eht2 fht2
  refine (impl_newMatrix m m _ hm24 hm24).mono ?_
  rintro e w2 ⟨G, rfl, ho, hb⟩
  rw [← hN] at ho ⊢
  clear hN
  have HB2 := Lib.hid hb
  obtain ⟨W3, hW3⟩ : ∃ W, W = w2.alloc (.cells #[.int .i64 m, .int .i64 m, .slice (some ⟨G, 0, none⟩) N N] 25) := ⟨_, rfl⟩
  have hbx : Below w2.heap.size w2 W3 := by rw [hW3]; exact (Below.refl _ _).alloc (Nat.le_refl _) _
  have X_3 : Hid (Box W3 w2.heap.size 25 #[.int .i64 m, .int .i64 m, .slice (some ⟨G, 0, none⟩) N N]) := by rw [hW3]; exact Box.new _ _ _
  have O3 := Lib.hid (ho.below hbx)
  have BZ : Hid (Below w1.heap.size w1 W3) := HB2.out.trans (hbx.mono HB2.out.size)
  have HG : Hid (0 < N → w1.heap.size ≤ G ∧ G < w2.heap.size) := fun h0 => by
    obtain ⟨g, hg, h1, h2⟩ := own_at' ho.2.1 h0
    cases hg; exact ⟨h1, h2⟩
  have hw12 := HB2.out.size
  clear ho hb hbx
  go_wp2_with fail
  rw [← hW3]
  clear hW3
  go_loopw [29] (fun y wr => ∃ (i u : Nat) (L : List El), i ≤ m ∧ y = .int .i64 i ∧ Hid (u = i * m) ∧ Hid (OwnV wr w1.heap.size (.slice (some ⟨G, 0, none⟩) N N) N L) ∧ Hid (Has L (upTo zs u N)) ∧ Hid (Box wr w2.heap.size 25 #[.int .i64 m, .int .i64 m, .slice (some ⟨G, 0, none⟩) N N]) ∧ Hid (Below w1.heap.size w1 wr)) (fun y _ => m - (intOf y).toNat)
  case atStart => exact ⟨0, 0, _, Nat.zero_le _, rfl, by simp [Hid], O3, by rw [upTo_zero]; exact has_zeros N, X_3, BZ⟩
  case round =>
    obtain ⟨i, u, L, hle, rfl, hu, ho, hh, hX, hb⟩ := hrel
    by_cases hlt : i < m
    · obtain ⟨wo, rfl⟩ : ∃ wo : World, wo = wr := ⟨_, rfl⟩
      have hi0 : (0 : Int) ≤ (i : Int) := by omega
      have hi1 : (i : Int) < (m : Int) := by omega
      have hil : i < ls.length := by rw [HML.out]; exact hlt
      obtain ⟨z, hz⟩ : ∃ z, ls[i] = z := ⟨_, rfl⟩
      have hz? : ls[i]? = some z := by rw [List.getElem?_eq_getElem hil, hz]
      have hzn := HA.out.nat hz?
      obtain ⟨R, rfl⟩ : ∃ R : Nat, z = R := ⟨z.toNat, by omega⟩
      have hRP : R < P := by omega
      have HZI := Lib.hid hz?
      obtain ⟨bl, ol, hB, hbl, hcl⟩ := (HL1.out.below hb.out).2.2.1.at_ (by simp; omega)
      have hcell : wo.cell? ⟨bl, ol + i, none⟩ = some (.int .i64 (R : Int)) := (hcl i (by simpa using hil)).trans (by simp [hz])
      subst hB
      have U0 : Hid (u = i * m + 0) := hu
      have hir : R * P + P ≤ n := by rw [HNP.out]; exact row_le hRP
      have HCL : Hid (CellsAt wo bl ol (ls.map (.int .i64))) := hcl
      have hRle : R ≤ 24 := by omega
      clear hz hz? hcl
      go_wp2_with fail
      clear hcell
      go_loopw [36] (fun y wr => ∃ (j t : Nat) (L : List El), j ≤ m ∧ y = .int .i64 j ∧ Hid (t = i * m + j) ∧ Hid (OwnV wr w1.heap.size (.slice (some ⟨G, 0, none⟩) N N) N L) ∧ Hid (Has L (upTo zs t N)) ∧ Hid (Box wr w2.heap.size 25 #[.int .i64 m, .int .i64 m, .slice (some ⟨G, 0, none⟩) N N]) ∧ Hid (Below w1.heap.size w1 wr)) (fun y _ => m - (intOf y).toNat)
      case atStart => exact ⟨0, u, L, Nat.zero_le _, rfl, U0, ho, hh, hX, hb⟩
      case round =>
        clear ho hh hX hb HCL
        obtain ⟨j, t, L, hlej, rfl, ht, ho, hh, hX, hb⟩ := hrel
        obtain ⟨wi, rfl⟩ : ∃ wi : World, wi = wr := ⟨_, rfl⟩
        by_cases hltj : j < m
        · have hj0 : (0 : Int) ≤ (j : Int) := by omega
          have hj1 : (j : Int) < (m : Int) := by omega
          have hjl : j < ls.length := by rw [HML.out]; exact hltj
          obtain ⟨z, hz⟩ : ∃ z, ls[j] = z := ⟨_, rfl⟩
          have hz? : ls[j]? = some z := by rw [List.getElem?_eq_getElem hjl, hz]
          have hzn := HA.out.nat hz?
          obtain ⟨C, rfl⟩ : ∃ R : Nat, z = R := ⟨z.toNat, by omega⟩
          have hCP : C < P := by omega
          have hC0 : (0 : Int) ≤ (C : Int) := by omega
          have hC1 : (C : Int) < (P : Int) := by omega
          obtain ⟨bl', ol', hB', hbl', hcl⟩ := (HL1.out.below hb.out).2.2.1.at_ (by simp; omega)
          obtain ⟨rfl, rfl⟩ : bl = bl' ∧ ol = ol' := by cases hB'; exact ⟨rfl, rfl⟩
          have hcell : wi.cell? ⟨bl, ol + j, none⟩ = some (.int .i64 (C : Int)) := (hcl j (by simpa using hjl)).trans (by simp [hz])
          obtain ⟨r2, hr2, hrk⟩ := HM.out.at_ hRP hCP
          have hx24 : r2.xs.length ≤ 24 := hrk.2.2.2.2.1
          have hd24 : r2.ds.length ≤ 24 := hrk.2.2.2.2.2
          have HZT : Hid (zs[t]? = some ⟨r2.g, r2.xs, r2.ds⟩) := by
            unfold Hid
            rw [ht.out, HZ.out]
            have h1 := sub_at (P := P) HZI.out hz? (by simpa using hr2)
            rw [HML.out] at h1
            exact h1
          obtain ⟨U, hU⟩ : ∃ U, U = R * P := ⟨_, rfl⟩
          have HU := Lib.hid hU
          obtain ⟨b2, o2, hAA, hb2, r2', hr2', A4, n4, c4, B4, m4, d4, at2, i2, ra2, j2, rb2⟩ := (HV.out.below hb.out).at_ (R * P + C) (by rw [HNP.out]; exact cell_lt hRP hCP)
          obtain rfl : r2' = r2 := by rw [hr2] at hr2'; exact (Option.some.inj hr2').symm
          have hn4 := i2.2.1
          have hm4 := j2.2.1
          rw [← hU, Nat.add_mul, ← Nat.add_assoc] at at2
          obtain ⟨v, hv⟩ : ∃ v, v = i * m := ⟨_, rfl⟩
          have HVV := Lib.hid hv
          have hvm : v + m ≤ N := by rw [hv, HN.out]; exact row_le hlt
          have htv : t = v + j := by rw [ht.out, hv]
          have e3 : (v + j) * 3 = v * 3 + j * 3 := Nat.add_mul _ _ _
          have hvj : v + j < N := by omega
          have hux : Hid (v + j + 1 = i * m + (j + 1)) := by unfold Hid; omega
          obtain ⟨hg0, hg1⟩ := HG.out (by omega)
          have hw0 : w1.heap.size ≤ wi.heap.size := hb.out.size
          have hb2w : b2 < w1.heap.size := by
            rcases HV.out.2.2 with h0 | ⟨b0, o0, h1, h2, _⟩
            · exfalso; omega
            · rw [hAA] at h1; cases h1; exact h2
          have hnb : b2 ≠ G := by omega
          have hXlt := hX.out.lt
          have hAs : Hid (0 < n → ∃ b o, A = some ⟨b, o, none⟩) := fun _ => ⟨b2, o2, hAA⟩
          have Mm : Hid (Box wi.drew w.heap.size 25 #[.int .i64 P, .int .i64 P, .slice A n c]) := (hm0_1.out.below hb.out hm0_1.out.lt).drew
          have Xx : Hid (Box wi.drew w2.heap.size 25 #[.int .i64 m, .int .i64 m, .slice (some ⟨G, 0, none⟩) N N]) := hX.out.drew
          have Ee : Hid (At3 wi.drew b2 (o2 + U * 3 + C * 3) (.bool r2'.g) (.slice A4 n4 c4) (.slice B4 m4 d4)) := at2.drew
          have Oo : Hid (OwnV wi.drew w1.heap.size (.slice (some ⟨G, 0, none⟩) N N) N L) := ho.out.drew
          have Bb : Hid (Below w1.heap.size w1 wi.drew) := hb.out.drew
          have hbd : Below wi.heap.size wi wi.drew := (Below.refl _ _).drew
          have Ii : Hid (InI wi.drew A4 n4 r2'.xs) := i2.below hbd
          have Jj : Hid (InI wi.drew B4 m4 r2'.ds) := j2.below hbd
          have RA2 := Lib.hid ra2
          have RB2 := Lib.hid rb2
          have hlw : b2 < wi.drew.heap.size := hb2
          have Hlw : Hid (b2 < wi.drew.heap.size) := hb2
          subst hAA
          subst htv
          have hne1 : w2.heap.size ≠ G := by omega
          have hne2 : w.heap.size ≠ G := by omega
          have hUP : U + P ≤ n := by rw [hU]; exact hir
          clear i2 j2 ra2 rb2 hz hz? hr2 hr2' hrk hcl hbd at2 hU hv
          go_wp2_with fail
          clear hcell
          go_region_held3 (fun w' => w'.cell? ⟨w2.heap.size, 0, none⟩ = some (.int .i64 m) ∧ w'.cell? ⟨w2.heap.size, 1, none⟩ = some (.int .i64 m) ∧ w'.cell? ⟨w2.heap.size, 2, none⟩ = some (.slice (some ⟨G, 0, none⟩) N N) ∧ w'.cell? ⟨w.heap.size, 0, none⟩ = some (.int .i64 P) ∧ w'.cell? ⟨w.heap.size, 1, none⟩ = some (.int .i64 P) ∧ w'.cell? ⟨w.heap.size, 2, none⟩ = some (.slice (some ⟨b2, o2, none⟩) n c) ∧ w'.cell? ⟨b2, o2 + U * 3 + C * 3, none⟩ = some (.bool r2'.g) ∧ w'.cell? ⟨b2, o2 + U * 3 + C * 3 + 1, none⟩ = some (.slice A4 n4 c4) ∧ w'.cell? ⟨b2, o2 + U * 3 + C * 3 + 2, none⟩ = some (.slice B4 m4 d4)) (first | with_reducible exact boxes_at X5 M5 E5 | with_reducible exact boxes_at Xx Mm Ee) (first | (go_at_call 43; (with_reducible refine (impl_copyOfRat r2'.g A4 n4 c4 r2'.xs B4 m4 d4 r2'.ds _ Ii.out RA2.out Jj.out RB2.out hx24 hd24).mono ?_); rintro e w5 ⟨g, r, vv, dd, q, rfl, hq, q1, q2, hap, hb5⟩; obtain ⟨k1, k2, k3⟩ := hq; obtain ⟨A6, c6, rfl⟩ := own_slice q1.2; obtain ⟨B6, d6, rfl⟩ := own_slice q2.2; have he0 : (El.mk g (.slice A6 r.length c6) r.length (r.map (.int .i64)) (.slice B6 dd.length d6) dd.length (dd.map (.int .i64))).own w5 _ := ⟨q1.2, q2.2, hap⟩; have Ff := Lib.hid (Oo.out.far_new he0 (Nat.le_refl _)); have Nn := Lib.hid (he0.lower Bb.out.size); have HH : Hid (Has _ (upTo zs (v + j + 1) N)) := Lib.hid (has_store (g := g) (r := r) (d := dd) (v := .slice A6 r.length c6) (u := .slice B6 dd.length d6) hh.out (by rw [k1, k2, k3]; exact HZT.out) hvj); replace Xx := Lib.hid (Xx.out.below hb5 Xx.out.lt); replace Mm := Lib.hid (Mm.out.below hb5 Mm.out.lt); replace Ee := Lib.hid (Ee.out.below Hlw.out hb5); replace Oo := Lib.hid (Oo.out.below hb5); replace Bb := Lib.hid (Bb.out.trans (hb5.mono Bb.out.size)); replace Hlw := Lib.hid (Nat.lt_of_lt_of_le Hlw.out hb5.size); clear k1 k2 k3 q1 q2 hap hb5 he0; (try (obtain ⟨⟨x0, x1, x2, p0, p1, p2, f0, f1, f2⟩, s1, s2⟩ := store_own Oo.out hvj Nn.out Ff.out; rw [e3] at p0 p1 p2 f0 f1 f2 s1 s2; have HO := Lib.hid s1; have HW := Lib.hid s2; have X5 := Lib.hid (Xx.out.set3 (G := G) hne1 (v * 3 + j * 3) (v * 3 + j * 3 + 1) (v * 3 + j * 3 + 2) (.bool g) (.slice A6 r.length c6) (.slice B6 dd.length d6)); have M5 := Lib.hid (Mm.out.set3 (G := G) hne2 (v * 3 + j * 3) (v * 3 + j * 3 + 1) (v * 3 + j * 3 + 2) (.bool g) (.slice A6 r.length c6) (.slice B6 dd.length d6)); have E5 := Lib.hid (Ee.out.set3' (G := G) (i := v * 3 + j * 3) (u0 := .bool g) (u1 := .slice A6 r.length c6) (u2 := .slice B6 dd.length d6) hnb); clear s1 s2))) | (go_at_call 44; first | ((with_reducible refine (impl_rowAt m m i (some ⟨G, 0, none⟩) N N _ (by rw [← HVV.out]; exact hvm) hN20 (Nat.le_refl _) (fun _ => ⟨G, 0, rfl⟩) (by omega) hm24).mono ?_); rintro e w4 ⟨A7, c7, rfl, hc7, hat7, hb7⟩; rw [← HVV.out] at hat7; obtain rfl : A7 = some ⟨G, v * 3, none⟩ := (by rcases hat7 with h0 | ⟨bb, oo, hA, hA'⟩; (exfalso; omega); (cases hA; rw [hA', Nat.zero_add])); replace Xx := Lib.hid (Xx.out.below hb7 Xx.out.lt); replace Mm := Lib.hid (Mm.out.below hb7 Mm.out.lt); replace Ee := Lib.hid (Ee.out.below Hlw.out hb7); replace Oo := Lib.hid (Oo.out.below hb7); replace Bb := Lib.hid (Bb.out.trans (hb7.mono Bb.out.size)); replace Hlw := Lib.hid (Nat.lt_of_lt_of_le Hlw.out hb7.size); replace Ii := Lib.hid (Ii.out.below hb7); replace Jj := Lib.hid (Jj.out.below hb7); (try (replace Nn := Lib.hid (Nn.out.below hb7); obtain ⟨⟨x0, x1, x2, p0, p1, p2, f0, f1, f2⟩, s1, s2⟩ := store_own Oo.out hvj Nn.out Ff.out; rw [e3] at p0 p1 p2 f0 f1 f2 s1 s2; have HO := Lib.hid s1; have HW := Lib.hid s2; have X5 := Lib.hid (Xx.out.set3 (G := G) hne1 (v * 3 + j * 3) (v * 3 + j * 3 + 1) (v * 3 + j * 3 + 2) (.bool g) (.slice A6 r.length c6) (.slice B6 dd.length d6)); have M5 := Lib.hid (Mm.out.set3 (G := G) hne2 (v * 3 + j * 3) (v * 3 + j * 3 + 1) (v * 3 + j * 3 + 2) (.bool g) (.slice A6 r.length c6) (.slice B6 dd.length d6)); have E5 := Lib.hid (Ee.out.set3' (G := G) (i := v * 3 + j * 3) (u0 := .bool g) (u1 := .slice A6 r.length c6) (u2 := .slice B6 dd.length d6) hnb); clear s1 s2)); clear hat7 hb7) | ((with_reducible refine (impl_rowAt P P R (some ⟨b2, o2, none⟩) n c _ hir hn hc hAs.out hRle hP24).mono ?_); rintro e w6 ⟨A8, c8, rfl, hc8, hat8, hb8⟩; rw [← HU.out] at hat8; obtain rfl : A8 = some ⟨b2, o2 + U * 3, none⟩ := (by rcases hat8 with h0 | ⟨bb, oo, hA, hA'⟩; (exfalso; omega); (cases hA; exact hA')); replace Xx := Lib.hid (Xx.out.below hb8 Xx.out.lt); replace Mm := Lib.hid (Mm.out.below hb8 Mm.out.lt); replace Ee := Lib.hid (Ee.out.below Hlw.out hb8); replace Oo := Lib.hid (Oo.out.below hb8); replace Bb := Lib.hid (Bb.out.trans (hb8.mono Bb.out.size)); replace Hlw := Lib.hid (Nat.lt_of_lt_of_le Hlw.out hb8.size); replace Ii := Lib.hid (Ii.out.below hb8); replace Jj := Lib.hid (Jj.out.below hb8); clear hat8 hb8)))
          all_goals
            have HBB := Lib.hid (Wrote.below Bb.out HW.out (fun k hk => by omega) Bb.out.size)
            go_wp2_with fail
            go_roundw
            case rel => exact ⟨j + 1, v + j + 1, _, by omega, by go_num, hux, HO, HH, X5, HBB⟩
            case measure => simp [intOf]; omega
        · obtain rfl : j = m := by omega
          have hu2 : Hid (t = (i + 1) * j) := by have := ht.out; unfold Hid; rw [Nat.add_mul, Nat.one_mul]; exact this
          go_wp2_with fail
          go_roundw
          case rel => exact ⟨i + 1, t, L, by omega, by go_num, hu2, ho, hh, hX, hb⟩
          case measure => simp [intOf]; omega
    · obtain rfl : i = m := by omega
      have HH : Hid (Has L zs) := by have h1 := hh.out; rw [hu.out, ← HN.out, upTo_all HZL.out] at h1; exact h1
      have ht_3 := Lib.hid (ht_1.out.below hb.out ht_1.out.lt)
      have BW_3 := Lib.hid (BW_1.out.trans (hb.out.mono BW_1.out.size))
      have HGD : Hid (Goods zs) := by rw [HZ.out]; exact sub_goods HM.out HA.out
      have HQ : Hid (SubmatrixIs P P rs ls i i zs true) := .inl ⟨⟨⟨HM.out, rfl⟩, HA.out⟩, by rw [HML.out], by rw [HML.out], by rw [HZ.out]; rfl, rfl⟩
      have eht0 := ht_3.out.cell 0
      have eht1 := ht_3.out.cell 1
      have eht2 := ht_3.out.cell 2
      have fht0 := ht_3.out.free 0
      have fht1 := ht_3.out.free 1
      have fht2 := ht_3.out.free 2
      simp at eht0 eht1 eht2
      have ex0 := hX.out.cell 0
      have ex1 := hX.out.cell 1
      have ex2 := hX.out.cell 2
      simp at ex0 ex1 ex2
      go_wp2_with fail
      refine bodyPost_ret (v := .tuple #[.agg #[.int .i64 i, .int .i64 i, .slice (some ⟨G, 0, none⟩) N N], .bool true]) (by simp [results, Try.results30, eht0, eht1, eht2, go_sem]) rfl ?_
      exact matOkEnd_store ht_3.out (by omega) BW_3.out HQ.out HGD.out HZL.out ho.out hsz1 HH.out
theorem impl_submatrix (p k : Int) (A : Option Addr) (n c : Nat) (rs : List RD) (B : Option Addr) (m d : Nat) (ls : List Int) (w : World) (h : InV w A n rs) (hp : -9223372036854775808 ≤ p ∧ p ≤ 9223372036854775807) (hk : -9223372036854775808 ≤ k ∧ k ≤ 9223372036854775807) (hc : n ≤ c) (h2 : InI w B m ls) :
    Calls Try.prog 30 #[.agg #[.int .i64 p, .int .i64 k, .slice A n c], .slice B m d] w fun e w' => ∃ q j r V b, e = .returned (.tuple #[.agg #[.int .i64 q, .int .i64 j, V], .bool b]) ∧ SubmatrixIs p k rs ls q j r b ∧ ResV w w' V r ∧ Below w.heap.size w w' := (impl_submatrix0 p k A n c rs B m d ls w h hp hk hc h2).mono fun _ _ h => h
end Go.Proofs.Ythjbfdifeffilaa
