/- Contracts of the model's natural numbers: long division. -/
import Derived.Test.YtjggdbakbhacjaaNat5
import Derived.Test.YtjggdbakbhacjaaIm9
namespace Go.Proofs.Ytjggdbakbhacjaa
set_option maxRecDepth 100000
open Go.RowKit

/-- The model's long division down to place k: q the limbs of the quotient, r what is left. -/
def LongS (xs ys : List Int) (k : Nat) (q r : List Int) : Prop :=
  q.length = xs.length ∧ InR q ∧ (∀ j (h : j < q.length), j < k → q[j] = 0) ∧ val (q.drop k) * val ys + val r = val (xs.drop k) ∧ Canon r ∧ val r < val ys
theorem LongS.bring {xs ys q r : List Int} {i : Nat} {x : Int} (h : LongS xs ys (i + 1) q r) (hi : i < xs.length) (hx : x = xs[i]) (hxr : InR xs) : 0 ≤ x + 1000000000 * val r ∧ x + 1000000000 * val r < 1000000000 * val ys := by
  have h1 := hxr _ (List.getElem_mem hi)
  rw [← hx] at h1
  have h2 := val_nonneg h.2.2.2.2.1.1
  have h3 := h.2.2.2.2.2
  omega
theorem LongS.skip {xs ys q r r' : List Int} {i : Nat} {x : Int} (h : LongS xs ys (i + 1) q r) (hi : i < xs.length) (hx : x = xs[i]) (hr : Canon r') (hv : val r' = x + 1000000000 * val r) (hlt : val r' < val ys) : LongS xs ys i q r' := by
  obtain ⟨h1, h2, h3, h4, h5, h6⟩ := h
  refine ⟨h1, h2, fun j hj hk => h3 j hj (by omega), ?_, hr, hlt⟩
  rw [val_drop_at (show i < q.length by omega), val_drop_at hi, h3 i (by omega) (by omega), ← hx, hv, ← h4]
  grind
theorem LongS.take {xs ys q r r' : List Int} {i : Nat} {x d : Int} (h : LongS xs ys (i + 1) q r) (hi : i < xs.length) (hx : x = xs[i]) (hr : Canon r') (hv : val r' = x + 1000000000 * val r - val ys * d) (hlt : x + 1000000000 * val r < (d + 1) * val ys) (d0 : 0 ≤ d) (d1 : d ≤ 999999999) : LongS xs ys i (q.set i d) r' := by
  obtain ⟨h1, h2, h3, h4, h5, h6⟩ := h
  refine ⟨by simpa using h1, h2.set i d0 d1, fun j hj hk => by rw [List.getElem_set_ne (by omega)]; exact h3 j (by simpa using hj) (by omega), ?_, hr, ?_⟩
  · rw [val_drop_at (by simp; omega), List.getElem_set_self, List.drop_set_of_lt (by omega), val_drop_at hi, ← hx, hv, ← h4]
    grind
  · rw [hv, Int.mul_comm (val ys) d]; rw [Int.add_mul, Int.one_mul] at hlt; omega
theorem cons_val (x : Int) (r : List Int) : val (x :: r) = x + 1000000000 * val r := rfl

theorem own_over {w w' : World} {g : Nat} {E : TypeId} {size n : Nat} {v : Value} {xs : List Value} (h : w.ownsRow (g + 1) E size v n xs) (hg : w.grownBy w' (some g)) : w'.ownsRow (g + 1) E size v n xs := by
  refine h.kept hg ?_
  cases hv : v.ownBlock with
  | none => exact .inl rfl
  | some k => exact .inr (fun e => by cases e; have := (h.lt g hv).1; omega)
set_option maxHeartbeats 3200000 in
theorem spec_div (A1 : Option Addr) (n1 c1 : Nat) (xs : List Int) (A2 : Option Addr) (n2 c2 : Nat) (ys : List Int) (w : World) (h1 : xs.length = n1 ∧ n1 ≤ 500000 ∧ Reads w A1 (xs.map (.int .i64))) (h2 : ys.length = n2 ∧ n2 ≤ 500000 ∧ Reads w A2 (ys.map (.int .i64))) (k1 : Canon xs) (k2 : Canon ys) (hpos : 0 < val ys) :
    Calls Try.prog 142 #[.slice A1 n1 c1, .slice A2 n2 c2] w fun e w' => DivEnd (val xs) (val ys) n1 w w' e := by
  obtain ⟨i0, hi, hz0, hz1, hz2⟩ := info_parts Try.infoI
  obtain ⟨hn1, hb1, hr1⟩ := h1
  obtain ⟨hn2, hb2, hr2⟩ := h2
  have Hn1 := Lib.hid hn1
  have Hn2 := Lib.hid hn2
  have Hr1 := Lib.hid hr1
  have Hr2 := Lib.hid hr2
  have K1 := Lib.hid k1
  have K2 := Lib.hid k2
  have Hp := Lib.hid hpos
  have hx1 := val_lt k1.1
  rw [hn1] at hx1
  have Hx1 := Lib.hid hx1
  by_cases hone : n2 = 1
  · subst hone
    have hy0 : 0 < ys.length := by omega
    obtain ⟨b2, o2, rfl, hbs2, hc2⟩ := hr2.at_ (by simp; omega)
    obtain ⟨d, hd⟩ : ∃ d, d = ys[0] := ⟨_, rfl⟩
    have g4 : w.cell? ⟨b2, o2, none⟩ = some (.int .i64 d) := by have := hc2 0 (by simpa using hy0); simpa [hd] using this
    have hyv : val ys = d := by
      have h := val_drop_at hy0
      rw [List.drop_zero, List.drop_eq_nil_of_le (show ys.length ≤ 0 + 1 by omega), ← hd] at h
      rw [h]; simp [val]
    have hd2 := (k2.1 _ (List.getElem_mem hy0)).2
    rw [← hd] at hd2
    have d1 : 1 ≤ d := by omega
    have Hyv := Lib.hid hyv
    clear hn1 hn2 hr1 hr2 k1 k2 hpos hx1 hc2 hd hyv hy0
    go_enter Try.func142, Try.ntmps142
    go_wp2_with fail
    refine (spec_small A1 n1 c1 xs d _ ⟨Hn1.out, by omega, Hr1.out⟩ K1.out.1 d1 hd2).mono ?_
    rintro e w1 ⟨q, A, c, rest, rfl, hqc, hqv, r0, r1, hql, hqo, hqb⟩
    have HQ := Lib.hid (And.intro hqc (And.intro hqv (And.intro hql hqo)))
    have HB := Lib.hid hqb
    obtain ⟨N, hN⟩ : ∃ N, N = q.length := ⟨_, rfl⟩
    rw [← hN] at HQ ⊢
    have HN := Lib.hid hN
    clear hqc hqv hql hqo hqb hN
    go_wp2_with fail
    refine (spec_natOf rest _ (by omega)).mono ?_
    rintro e w2 ⟨r, v, rfl, hof, ⟨_, hro⟩, hrb⟩
    have hfin : Hid (DivEnd (val xs) (val ys) n1 w w2 (.returned (.tuple #[.slice A N c, v]))) := by
      obtain ⟨e1, e2, e3, e4⟩ := HQ.out
      have hrv : val r = rest := by rw [hof.2]; split <;> omega
      refine ⟨q, _, r, v, rfl, ⟨e1, hof.1, by rw [Hyv.out, hrv]; omega, by rw [Hyv.out, hrv]; exact r1⟩, by rw [← HN.out]; exact e3, ?_, by rw [← HN.out]; exact own_below e4 hrb, own_lower hro HB.out.size, fun k hk h => ?_, HB.out.trans (hrb.mono HB.out.size)⟩
      · refine short_of hof.1 ?_
        have h9 : 0 ≤ val q * d := Int.mul_nonneg (val_nonneg e1.1) (by omega)
        have := Hx1.out
        omega
      · have h1 := (hro.lt k hk).1
        have h2 := (e4.lt k h).2
        omega
    clear hof hro hrb
    go_wp2_with fail
    go_ret2
    exact hfin.out
  have hnone : ((n2 : Int) == 1) = false := by simp; omega
  have M0 : Hid (LongS xs ys n1 (List.replicate n1 0) []) :=
    ⟨by simp [hn1], zeros_inR _, fun j hj _ => by simp, by rw [List.drop_eq_nil_of_le (by simp), List.drop_eq_nil_of_le (by omega)]; simp [val], canon_nil, by simpa [val] using hpos⟩
  have hylt := val_lt k2.1
  rw [hn2] at hylt
  have Hylt := Lib.hid hylt
  clear hn1 hn2 hr1 hr2 k1 k2 hpos hx1 hylt hone
  go_enter Try.func142, Try.ntmps142
  go_wp2_with (refine wpList_make_full _ rfl _ _ 22 rfl w.heap.size 3 i0 (.int .i64 0) 1 Try.underlying22 hi hz0 hz1 _ _ _ _ n1 rfl rfl rfl rfl (by rw [hz2]; omega) (by unfold maxLen; omega) (Nat.le_refl _) ?_)
  have hrep : (madeCells #[Value.int .i64 0] n1).toList = (List.replicate n1 (0 : Int)).map (.int .i64) := by simp [toList_madeCells_one]
  intro w1 ho hg
  obtain ⟨g, hgE⟩ : ∃ g, g = w.heap.size := ⟨_, rfl⟩
  rw [← hgE] at ho ⊢
  have hgl : g < w1.heap.size := (ho.lt g rfl).2
  have O1 : Hid ((w1.alloc (.cells #[] 3)).ownsRow g 3 1 (.slice (some ⟨g, 0, none⟩) n1 n1) n1 ((List.replicate n1 (0 : Int)).map (.int .i64))) := by
    unfold Hid; rw [← hrep]
    have := ho.alloc (.cells #[] 3)
    simpa using this
  have B1 : Hid (Below g w (w1.alloc (.cells #[] 3))) := by
    have := (Below.refl w.heap.size w).grown hg (Nat.le_refl _) (fun k hk => by cases hk)
    rw [← hgE] at this
    exact this.alloc (Nat.le_of_lt hgl) _
  have R1 : Hid ((w1.alloc (.cells #[] 3)).ownsRow (g + 1) 3 1 (.slice (some ⟨w1.heap.size, 0, none⟩) 0 0) 0 (([] : List Int).map (.int .i64))) := World.ownsRow_lit w1 #[] 0 (by omega) (by simp) (by simp)
  have hgl2 : g < (w1.alloc (.cells #[] 3)).heap.size := by simp; omega
  have HgE := Lib.hid hgE
  have hbw : ∀ {wx : World}, Below g w wx → Below w.heap.size w wx := fun h => by rw [← HgE.out]; exact h
  clear ho hg hrep hgE hgl
  go_wp2_with fail
  go_loopw [9, 10] (fun x y wr => ∃ (k nr c9 : Nat) (A9 : Option Addr) (q r : List Int), k ≤ n1 ∧ y = .int .i64 ((k : Int) - 1) ∧ x = .slice A9 nr c9 ∧ nr ≤ 500000 ∧ Hid (LongS xs ys k q r ∧ r.length = nr) ∧ Hid (wr.ownsRow g 3 1 (.slice (some ⟨g, 0, none⟩) n1 n1) n1 (q.map (.int .i64))) ∧ Hid (wr.ownsRow (g + 1) 3 1 (.slice A9 nr c9) nr (r.map (.int .i64))) ∧ Hid (Below g w wr) ∧ g < wr.heap.size) (fun _ y _ => (intOf y + 1).toNat)
  case atStart => exact ⟨n1, 0, 0, _, _, [], Nat.le_refl _, rfl, rfl, by omega, ⟨M0.out, rfl⟩, O1, R1, B1, hgl2⟩
  case round =>
    obtain ⟨k, nr, c9, A9, q, r, hk, rfl, rfl, hnr, hm, hoQ, hoR, hb, hgw⟩ := hrel
    obtain ⟨wo, rfl⟩ : ∃ wo : World, wo = wr := ⟨_, rfl⟩
    by_cases h0 : k = 0
    · subst h0
      obtain ⟨⟨e1, e2, e3, e4, e5, e6⟩, e7⟩ := hm.out
      rw [List.drop_zero, List.drop_zero] at e4
      have HE := Lib.hid (And.intro e1 (And.intro e2 (And.intro e4 (And.intro e5 (And.intro e6 e7)))))
      have hl9 : q.length = n1 := e1.trans Hn1.out
      clear e1 e2 e3 e4 e5 e6 e7 hm
      go_wp2_with fail
      refine (spec_trim g (some ⟨g, 0, none⟩) n1 n1 q _ hl9 (by omega) hoQ.out).mono ?_
      rintro e w' ⟨⟨m, rfl, ht⟩, rfl⟩
      have hfin : Hid (DivEnd (val xs) (val ys) n1 w wo (.returned (.tuple #[.slice (some ⟨g, 0, none⟩) m n1, .slice A9 nr c9]))) := by
        obtain ⟨e1, e2, e4, e5, e6, e7⟩ := HE.out
        obtain ⟨hcn, hvq⟩ := ht.canon e2
        have hmm : m ≤ n1 := by have := ht.1; rwa [hl9] at this
        have hlm : (q.take m).length = m := by rw [List.length_take]; omega
        have hown := own_take hoQ.out hmm
        rw [← List.map_take] at hown
        have hrn : r.length ≤ n1 := short_of e5 (by
          have h9 : 0 ≤ val q * val ys := Int.mul_nonneg (val_nonneg e2) (by have := Hp.out; omega)
          have := Hx1.out
          omega)
        refine ⟨q.take m, _, r, _, rfl, ⟨hcn, e5, by rw [hvq]; exact e4.symm, e6⟩, by rw [hlm]; exact hmm, hrn, by rw [hlm]; exact own_lower hown (by rw [HgE.out]; exact Nat.le_refl _), ?_, fun j hj h => ?_, hbw hb.out⟩
        · rw [e7]; exact own_lower hoR.out (by have := HgE.out; omega)
        · have h1 := (hoR.out.lt j hj).1
          simp [Value.ownBlock] at h
          omega
      clear ht
      go_wp2_with fail
      go_ret2
      exact hfin.out
    · obtain ⟨i, rfl⟩ : ∃ i, k = i + 1 := ⟨k - 1, by omega⟩
      have hix : i < xs.length := by rw [Hn1.out]; omega
      obtain ⟨b1, o1, rfl, hbs1, hc1⟩ := (Hr1.out.below (hbw hb.out)).at_ (by simp; omega)
      obtain ⟨x, hx⟩ : ∃ x, x = xs[i] := ⟨_, rfl⟩
      have g1 : wo.cell? ⟨b1, o1 + i, none⟩ = some (.int .i64 x) := (hc1 i (by simpa using hix)).trans (by simp [hx])
      have hsi : (((i + 1 : Nat) : Int) - 1) = (i : Int) := by omega
      rw [hsi]
      have hbr := hm.out.1.bring hix hx K1.out.1
      have HX := Lib.hid hx
      have HBR := Lib.hid hbr
      have hxr := K1.out.1 _ (List.getElem_mem hix)
      rw [← hx] at hxr
      have HXR := Lib.hid hxr
      have hi0 : (0 : Int) ≤ (i : Int) := by omega
      have hi1 : (i : Int) < (n1 : Int) := by omega
      have hrd : Hid (Reads (wo.alloc (.cells #[.int .i64 x] 3)) A9 (r.map (.int .i64))) := (Reads.of_own hoR.out).below ((Below.refl _ _).alloc (Nat.le_refl _) _)
      have hrl : Hid ((r.map (Value.int .i64)).length = nr) := by unfold Hid; rw [List.length_map, hm.out.2]
      have hlit : Hid ((wo.alloc (.cells #[.int .i64 x] 3)).ownsRow (g + 1) 3 1 (.slice (some ⟨wo.heap.size, 0, none⟩) 1 1) 1 [.int .i64 x]) := World.ownsRow_lit wo #[.int .i64 x] 1 hgw (by unfold maxLen; omega) (by simp)
      have h63 : 1 + nr ≤ maxLen := by unfold maxLen; omega
      have hby : (1 + nr) * 8 ≤ 140737488355328 := by omega
      have hbs : g + 1 ≤ (wo.alloc (.cells #[.int .i64 x] 3)).heap.size := by simp; omega
      clear hc1 hx hsi hbr hxr h0
      go_wp2_with (at_builtin; refine wpList_append_reads rfl _ _ 22 rfl (g + 1) 3 i0 (.int .i64 0) 8 Try.underlying22 hi hz0 hz1 hz2 rfl _ 1 [.int .i64 x] rfl hlit.out A9 nr c9 (r.map (.int .i64)) rfl hrl.out hrd.out (by simp [Value.oneCell']) h63 hby hbs ?_)
      intro v1 w2 hown hg
      have hbb : Below wo.heap.size wo w2 := ((Below.refl _ _).alloc (Nat.le_refl _) _).grown hg (by simp) (fun k hk => by simp [Value.ownBlock] at hk; omega)
      obtain ⟨A8, c8, rfl⟩ := own_slice hown
      have hown1 : w2.ownsRow (g + 1) 3 1 (.slice A8 (1 + nr) c8) (1 + nr) ((x :: r).map (.int .i64)) := by simpa using hown
      have HO1 := Lib.hid hown1
      have OQ2 := Lib.hid (own_below hoQ.out hbb)
      have B2 := Lib.hid (hb.out.trans (hbb.mono (Nat.le_of_lt hgw)))
      have hgw2 : g < w2.heap.size := Nat.lt_of_lt_of_le hgw hbb.size
      have hxl : Hid ((x :: r).length = 1 + nr) := by unfold Hid; rw [List.length_cons, hm.out.2]; omega
      have hxR : Hid (InR (x :: r)) := fun d hd => by
        rcases List.mem_cons.1 hd with rfl | hd
        · exact HXR.out
        · exact hm.out.1.2.2.2.2.1.1 d hd
      clear hown hown1 hg hbb g1 hrd hrl hlit h63 hby hbs
      go_wp2_with fail
      refine (spec_trim (g + 1) A8 (1 + nr) c8 (x :: r) _ hxl.out (by omega) HO1.out).mono ?_
      rintro e w' ⟨⟨mt, rfl, ht⟩, rfl⟩
      obtain ⟨hcn, hv2⟩ := ht.canon hxR.out
      rw [cons_val] at hv2
      have hmt : mt ≤ 1 + nr := by have := ht.1; rwa [hxl.out] at this
      have hlt2 : ((x :: r).take mt).length = mt := by rw [List.length_take, hxl.out]; omega
      have hown2 := own_take HO1.out hmt
      rw [← List.map_take] at hown2
      obtain ⟨r2, hr2⟩ : ∃ r2, r2 = (x :: r).take mt := ⟨_, rfl⟩
      rw [← hr2] at hcn hv2 hlt2 hown2
      have HR2 : Hid (Canon r2 ∧ val r2 = x + 1000000000 * val r ∧ r2.length = mt) := ⟨hcn, hv2, hlt2⟩
      have OR2 := Lib.hid hown2
      clear ht hcn hv2 hlt2 hown2 hr2 HO1 hxl hxR
      go_wp2_with fail
      refine (spec_cmp A8 mt c8 r2 A2 n2 c2 ys _ ⟨HR2.out.2.2, by omega, Reads.of_own OR2.out⟩ ⟨Hn2.out, by omega, Hr2.out.below (hbw B2.out)⟩ HR2.out.1 K2.out).mono ?_
      rintro e w3 ⟨rfl, hb3⟩
      have OQ3 := Lib.hid (own_below OQ2.out hb3)
      have OR3 := Lib.hid (own_below OR2.out hb3)
      have B3 := Lib.hid (B2.out.trans (hb3.mono (Nat.le_of_lt hgw2)))
      have hgw3 : g < w3.heap.size := Nat.lt_of_lt_of_le hgw2 hb3.size
      clear hb3 OQ2 OR2 B2
      have hmn2 : ∀ {l : List Int}, Canon l → val l < val ys → l.length ≤ n2 := fun h hlt => short_of h (by have := Hylt.out; omega)
      by_cases hlt : val r2 < val ys
      · have hnx : Hid (LongS xs ys i q r2 ∧ r2.length = mt) := ⟨hm.out.1.skip hix HX.out HR2.out.1 HR2.out.2.1 hlt, HR2.out.2.2⟩
        have hmt5 : mt ≤ 500000 := by have h := hmn2 HR2.out.1 hlt; rw [HR2.out.2.2] at h; omega
        rw [cmpV_lt hlt]
        clear hlt hm hoQ hoR hb
        go_wp2_with fail
        go_roundw
        case rel => exact ⟨i, mt, c8, A8, q, r2, by omega, rfl, rfl, hmt5, hnx, OQ3, OR3, B3, hgw3⟩
        case measure => simp [intOf]
      · have hcm : 0 ≤ cmpV (val r2) (val ys) := by
          by_cases e : val r2 = val ys
          · rw [cmpV_eq e]; omega
          · rw [cmpV_gt (by omega)]; omega
        obtain ⟨cm, hcm2⟩ : ∃ cm, cm = cmpV (val r2) (val ys) := ⟨_, rfl⟩
        rw [← hcm2] at hcm ⊢
        have Hge := Lib.hid (show val ys ≤ val r2 by omega)
        clear hlt hcm2 hoQ hoR hb
        go_wp2_with fail
        refine (spec_digit A8 mt c8 r2 A2 n2 c2 ys _ ⟨HR2.out.2.2, by omega, Reads.of_own OR3.out⟩ ⟨Hn2.out, by omega, Hr2.out.below (hbw B3.out)⟩ HR2.out.1 K2.out Hp.out Hge.out (by rw [HR2.out.2.1]; exact HBR.out.2)).mono ?_
        rintro e w4 ⟨⟨d, rfl, d2, d3, d0, d1⟩, hb4⟩
        have OQ4 := own_below OQ3.out hb4
        have OR4 := own_below OR3.out hb4
        have B4 := B3.out.trans (hb4.mono (Nat.le_of_lt hgw3))
        have hgw4 : g < w4.heap.size := Nat.lt_of_lt_of_le hgw3 hb4.size
        have HD := Lib.hid (And.intro d2 d3)
        have hqi : i < q.length := by rw [hm.out.1.1]; exact hix
        obtain ⟨o, hoo⟩ : ∃ o, o = q[i] := ⟨_, rfl⟩
        have g5 : w4.cell? ⟨g, i, none⟩ = some (.int .i64 o) := by rw [OQ4.cellAt i (by omega)]; simp [hqi, hoo]
        have hfr := OQ4.frozenAt i
        have hst := OQ4.stored i (.int .i64 d)
        rw [map_set_int] at hst
        obtain ⟨w5, hw5⟩ : ∃ w5, w5 = w4.setCell ⟨g, i, none⟩ (.int .i64 d) := ⟨_, rfl⟩
        rw [← hw5] at hst
        have OQ5 := Lib.hid hst.1
        have OR5 := Lib.hid (own_over OR4 hst.2)
        have B5 := Lib.hid (below_marked B4 OQ4 hst.2 (Nat.le_refl _) (Nat.le_of_lt hgw4))
        have hgw5 : g < w5.heap.size := by have := hst.2.size; omega
        have HW5 := Lib.hid hw5
        clear hb4 OQ3 OR3 B3 OQ4 OR4 B4 hoo hst d2 d3 hw5
        go_wp2_with fail
        rw [← HW5.out]
        refine (spec_natOf d _ (by omega)).mono ?_
        rintro e w6 ⟨qs, v, rfl, hof, ⟨_, ho⟩, hb6⟩
        obtain ⟨A3, c3, rfl⟩ := own_slice ho
        have hqv : val qs = d := by rw [hof.2]; split <;> omega
        have hql := short_of (k := 1) hof.1 (by rw [hqv]; simp only [pw]; omega)
        have HQ : Hid (InR qs ∧ val qs = d) := ⟨hof.1.1, hqv⟩
        obtain ⟨N, hN⟩ : ∃ N, N = qs.length := ⟨_, rfl⟩
        rw [← hN] at ho hql ⊢
        have HN := Lib.hid hN.symm
        have HO := Lib.hid (Reads.of_own ho)
        have OQ6 := Lib.hid (own_below OQ5.out hb6)
        have OR6 := Lib.hid (own_below OR5.out hb6)
        have B6 := Lib.hid (B5.out.trans (hb6.mono (Nat.le_of_lt hgw5)))
        have hgw6 : g < w6.heap.size := Nat.lt_of_lt_of_le hgw5 hb6.size
        clear hof ho hqv hN hb6 OQ5 OR5 B5 HW5 g5 hfr
        go_wp2_with fail
        refine (spec_mul A2 n2 c2 ys A3 N c3 qs _ ⟨Hn2.out, by omega, Hr2.out.below (hbw B6.out)⟩ ⟨HN.out, by omega, HO.out⟩ K2.out.1 HQ.out.1).mono ?_
        rintro e w7 ⟨pr, A4, c4, rfl, hpc, hpv, hpl, hpo, hb7⟩
        have HPC : Hid (Canon pr ∧ val pr = val ys * d) := ⟨hpc, by rw [hpv, HQ.out.2]⟩
        obtain ⟨N2, hN2⟩ : ∃ N2, N2 = pr.length := ⟨_, rfl⟩
        rw [← hN2] at hpo hpl ⊢
        have HN2 := Lib.hid hN2.symm
        have HO2 := Lib.hid (Reads.of_own hpo)
        have OQ7 := Lib.hid (own_below OQ6.out hb7)
        have OR7 := Lib.hid (own_below OR6.out hb7)
        have B7 := Lib.hid (B6.out.trans (hb7.mono (Nat.le_of_lt hgw6)))
        have hgw7 : g < w7.heap.size := Nat.lt_of_lt_of_le hgw6 hb7.size
        clear hpc hpv hpo hN2 hb7 OQ6 OR6 B6
        go_wp2_with fail
        refine (spec_sub A8 mt c8 r2 A4 N2 c4 pr _ ⟨HR2.out.2.2, by omega, Reads.of_own OR7.out⟩ ⟨HN2.out, by omega, HO2.out⟩ HR2.out.1 HPC.out.1 (by rw [HPC.out.2, Int.mul_comm]; exact HD.out.1)).mono ?_
        rintro e w8 ⟨r3, A5, c5, rfl, hrc, hrv, hrl, hro, hb8⟩
        have hlong := hm.out.1.take hix HX.out hrc (by rw [hrv, HPC.out.2, HR2.out.2.1]) (by rw [← HR2.out.2.1]; exact HD.out.2) d0 d1
        obtain ⟨N3, hN3⟩ : ∃ N3, N3 = r3.length := ⟨_, rfl⟩
        rw [← hN3] at hro hrl ⊢
        have hnx : Hid (LongS xs ys i (q.set i d) r3 ∧ r3.length = N3) := ⟨hlong, hN3.symm⟩
        have hN5 : N3 ≤ 500000 := by have h := hmn2 hrc hlong.2.2.2.2.2; rw [← hN3] at h; omega
        have OQ8 := Lib.hid (own_below OQ7.out hb8)
        have OR8 := Lib.hid (own_lower hro (show g + 1 ≤ w7.heap.size by omega))
        have B8 := Lib.hid (B7.out.trans (hb8.mono (Nat.le_of_lt hgw7)))
        have hgw8 : g < w8.heap.size := Nat.lt_of_lt_of_le hgw7 hb8.size
        clear hrc hrv hrl hro hb8 hlong hN3 OQ7 OR7 B7 hm
        go_wp2_with fail
        go_roundw
        case rel => exact ⟨i, N3, c5, A5, _, r3, by omega, rfl, rfl, hN5, hnx, OQ8, OR8, B8, hgw8⟩
        case measure => simp [intOf]
end Go.Proofs.Ytjggdbakbhacjaa
