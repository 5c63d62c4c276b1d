/- Contracts of vectors: equality, by the program. -/
import Derived.Test.YtdehcddjkcpnfaaGreatGW
namespace Go.Proofs.YtdehcddjkcpnfaaGreat
set_option maxRecDepth 100000
open Go.RowKit

theorem Tryz.infoB : (Tryz.prog.info? 4).map (fun i => (i.zero, i.size, i.bytes)) = some (some (.bool false), 1, 1) := by kernel_rfl
noncomputable def reqb (r s : RD) : Bool := open Classical in decide (r = s)
theorem reqb_of {r s : RD} {q : Bool} (h : RatEqualIs r.g r.xs r.ds s.g s.xs s.ds q) : q = reqb r s := by
  classical
  rw [Bool.eq_iff_iff, rd_eq h]
  unfold reqb
  rw [decide_eq_true_iff]
theorem zipB_at {a b : List RD} {i : Nat} {r s : RD} (h : a[i]? = some r) (k : b[i]? = some s) : (List.zipWith reqb a b)[i]? = some (reqb r s) := by
  rw [List.getElem?_zipWith, h, k]
theorem zipB_all : ∀ {a b : List RD}, a.length = b.length → (false ∉ List.zipWith reqb a b ↔ a = b)
  | [], [], _ => by simp
  | r :: a, s :: b, h => by
    have ih := zipB_all (a := a) (b := b) (by simpa using h)
    rw [List.zipWith_cons_cons, List.mem_cons, not_or, ih, List.cons.injEq]
    have e : ¬ false = reqb r s ↔ r = s := by
      classical
      unfold reqb
      rw [eq_comm, Bool.not_eq_false, decide_eq_true_iff]
    rw [e]
theorem At3.set1 {w : World} {b o G : Nat} {x y z : Value} (h : At3 w b o x y z) (hne : b ≠ G) (i : Nat) (u : Value) : At3 (w.setCell ⟨G, i, none⟩ u) b o x y z := by
  have key : ∀ k, (w.setCell ⟨G, i, none⟩ u).cell? ⟨b, k, none⟩ = w.cell? ⟨b, k, none⟩ := fun k => World.cell?_of_block (a := ⟨b, k, none⟩) (Below.heap_setCell _ _ _ _ hne)
  exact ⟨(key _).trans h.1, (key _).trans h.2.1, (key _).trans h.2.2⟩
def BoolsEnd (zs : List Bool) (w w' : World) (e : Ending) : Prop := ∃ A c, e = .returned (.slice A zs.length c) ∧ w'.ownsRow w.heap.size 4 1 (.slice A zs.length c) zs.length (zs.map .bool) ∧ Below w.heap.size w w'
set_option maxHeartbeats 3200000 in
theorem impl_combined_eq (A : Option Addr) (n c : Nat) (rs1 : List RD) (B : Option Addr) (c' : Nat) (rs2 : List RD) (w : World) (h1 : InV w A n rs1) (h2 : InV w B n rs2) :
    Calls Tryz.prog 104 #[.slice A n c, .slice B n c', .func (.func 105) #[] #[]] w fun e w' => BoolsEnd (List.zipWith reqb rs1 rs2) w w' e := by
  obtain ⟨i0, hi, hz0, hz1, hz2⟩ := info_parts Tryz.infoB
  have H1 := Lib.hid h1
  have H2 := Lib.hid h2
  have hm := h1.2.1
  obtain ⟨zs, hzs⟩ : ∃ zs, zs = List.zipWith reqb rs1 rs2 := ⟨_, rfl⟩
  have hzl : zs.length = n := by rw [hzs, List.length_zipWith, h1.1, h2.1, Nat.min_self]
  have HZ := Lib.hid hzs
  have HZL := Lib.hid hzl
  clear h1 h2 hzs hzl
  go_enter Tryz.func104, Tryz.ntmps104
  go_wp2_with (refine wpList_make_full _ rfl _ _ 128 rfl w.heap.size 4 i0 (.bool false) 1 Tryz.underlying128 hi hz0 hz1 _ _ _ _ n rfl rfl rfl rfl ?c1 ?c2 ?c3 ?_)
  case c1 => rw [hz2]; omega
  case c2 => unfold maxLen; omega
  case c3 => exact Nat.le_refl _
  intro w1 ho hg
  obtain ⟨ys, ho⟩ : ∃ ys, w1.ownsRow w.heap.size 4 1 (.slice (some ⟨w.heap.size, 0, none⟩) n n) n ys := ⟨_, ho⟩
  have HYL : Hid (ys.length = n) := Lib.hid (by simpa using ho.1)
  have B1 := Lib.hid ((Below.refl w.heap.size w).grown hg (Nat.le_refl _) (fun k hk => by cases hk))
  have O1 := Lib.hid ho
  clear ho hg
  go_wp2_with fail
  go_loopw [14] (fun y wr => ∃ i : Nat, i ≤ n ∧ y = .int .i64 i ∧ Hid (wr.ownsRow w.heap.size 4 1 (.slice (some ⟨w.heap.size, 0, none⟩) n n) n ((zs.map Value.bool).take i ++ ys.drop i)) ∧ Hid (Below w.heap.size w wr)) (fun y _ => n - (intOf y).toNat)
  case atStart => exact ⟨0, Nat.zero_le _, rfl, by simpa using O1, B1⟩
  case round =>
    obtain ⟨i, hle, rfl, ho, hb⟩ := hrel
    by_cases hlt : i < n
    · obtain ⟨b1, o1, rfl, hb1, r1, hr1, A3, n3, c3, B3, m3, d3, at1, i1, ra1, j1, rb1⟩ := H1.out.atB hb.out i hlt
      obtain ⟨b2, o2, rfl, hb2, r2, hr2, A4, n4, c4, B4, m4, d4, at2, i2, ra2, j2, rb2⟩ := H2.out.atB hb.out i hlt
      have hi0 : (0 : Int) ≤ (i : Int) := by omega
      have hi1 : (i : Int) < (n : Int) := by omega
      have P1_0 := Lib.hid at1.drew
      have P2_0 := Lib.hid at2.drew
      have I1 := Lib.hid i1.drew
      have I2 := Lib.hid i2.drew
      have J1 := Lib.hid j1.drew
      have J2 := Lib.hid j2.drew
      have RA1 := Lib.hid ra1
      have RA2 := Lib.hid ra2
      have RB1 := Lib.hid rb1
      have RB2 := Lib.hid rb2
      have HLT1 := Lib.hid hb1
      have HLT2 := Lib.hid hb2
      have HZI : Hid (zs[i]? = some (reqb r1 r2)) := by rw [HZ.out]; exact zipB_at hr1 hr2
      have OD : Hid (wr.drew.ownsRow w.heap.size 4 1 (.slice (some ⟨w.heap.size, 0, none⟩) n n) n ((zs.map Value.bool).take i ++ ys.drop i)) := ho
      have BD := Lib.hid hb.out.drew
      clear at1 at2 i1 i2 j1 j2 hr1 hr2 ra1 ra2 rb1 rb2
      go_wp2_with fail
      go_region_held3 (fun w' => w'.cell? ⟨b1, o1 + i * 3, none⟩ = some (.bool r1.g) ∧ w'.cell? ⟨b1, o1 + i * 3 + 1, none⟩ = some (.slice A3 n3 c3) ∧ w'.cell? ⟨b1, o1 + i * 3 + 2, none⟩ = some (.slice B3 m3 d3) ∧ w'.cell? ⟨b2, o2 + i * 3, none⟩ = some (.bool r2.g) ∧ w'.cell? ⟨b2, o2 + i * 3 + 1, none⟩ = some (.slice A4 n4 c4) ∧ w'.cell? ⟨b2, o2 + i * 3 + 2, none⟩ = some (.slice B4 m4 d4)) (first | with_reducible exact at33 P1_3 P2_3 | with_reducible exact at33 P1_1 P2_1 | with_reducible exact at33 P1_0 P2_0) (first | (go_at_call 105; (with_reducible refine (impl_ratEqual r1.g A3 n3 c3 r1.xs B3 m3 d3 r1.ds r2.g A4 n4 c4 r2.xs B4 m4 d4 r2.ds _ I1.out RA1.out J1.out RB1.out I2.out RA2.out J2.out RB2.out).mono ?_); rintro e w2 ⟨q, rfl, hq, hb2⟩; obtain ⟨⟨x0, q0, f0⟩, s1, s2⟩ := store_one (u := .bool q) OD.out BD.out hb2 hlt (by rw [List.getElem?_map, HZI.out, reqb_of hq]; rfl) HYL.out; have HO := Lib.hid s1; have HB := Lib.hid s2; have P1_1 := Lib.hid (P1_0.out.below (Nat.lt_of_lt_of_le HLT1.out BD.out.size) hb2); have P2_1 := Lib.hid (P2_0.out.below (Nat.lt_of_lt_of_le HLT2.out BD.out.size) hb2); have P1_3 := Lib.hid (P1_1.out.set1 (G := w.heap.size) (by have := HLT1.out; omega) i (.bool q)); have P2_3 := Lib.hid (P2_1.out.set1 (G := w.heap.size) (by have := HLT2.out; omega) i (.bool q)); clear s1 s2 hq hb2))
      go_wp2_with fail
      go_roundw
      case rel => exact ⟨i + 1, by omega, by go_num, HO, HB⟩
      case measure => simp [intOf]; omega
    · obtain rfl : i = n := by omega
      have HF : Hid (BoolsEnd (List.zipWith reqb rs1 rs2) w wr (.returned (.slice (some ⟨w.heap.size, 0, none⟩) i i))) := by
        rw [← HZ.out]
        have ho2 := ho.out
        rw [List.take_of_length_le (by rw [List.length_map, HZL.out]; omega), List.drop_eq_nil_of_le (by rw [HYL.out]; omega), List.append_nil] at ho2
        unfold BoolsEnd
        rw [HZL.out]
        exact ⟨_, _, rfl, ho2, hb.out⟩
      go_wp2_with fail
      go_ret
      exact HF.out
def IndexEnd (zs : List Bool) (x : Bool) (w w' : World) (e : Ending) : Prop := ∃ k : Int, e = .returned (.int .i64 k) ∧ (-1 ≤ k ∧ k ≤ zs.length) ∧ (0 ≤ k ↔ x ∈ zs) ∧ w = w'
set_option maxHeartbeats 800000 in
theorem index_bool (A : Option Addr) (n c : Nat) (zs : List Bool) (x : Bool) (w : World) (hn : zs.length = n) (hm : n ≤ 1048576) (hr : Reads w A (zs.map .bool)) :
    Calls Tryz.prog 170 #[.slice A n c, .bool x] w fun e w' => IndexEnd zs x w w' e := by
  have Hn := Lib.hid hn
  have Hr := Lib.hid hr
  clear hn hr
  go_enter Tryz.func170, Tryz.ntmps170
  go_wp2
  go_loop [8] (fun y => ∃ i : Nat, i ≤ n ∧ y = .int .i64 i ∧ Hid (x ∉ zs.take i)) (fun y => n - (intOf y).toNat)
  case atStart => exact ⟨0, Nat.zero_le _, rfl, by simp [Hid]⟩
  case round =>
    obtain ⟨i, hle, rfl, hno⟩ := hrel
    by_cases hlt : i < n
    · have hix : i < zs.length := by rw [Hn.out]; exact hlt
      obtain ⟨b, o, rfl, hb, hc⟩ := Hr.out.at_ (by simp; omega)
      obtain ⟨z, hz⟩ : ∃ z, z = zs[i] := ⟨_, rfl⟩
      have hcell : w.cell? ⟨b, o + i, none⟩ = some (.bool z) := (hc i (by simpa using hix)).trans (by simp [hz])
      have hi0 : (0 : Int) ≤ (i : Int) := by omega
      have hi1 : (i : Int) < (n : Int) := by omega
      by_cases hxz : x = z
      · have HF : Hid (IndexEnd zs x w w (.returned (.int .i64 i))) := ⟨i, rfl, ⟨by omega, by rw [Hn.out]; omega⟩, ⟨fun _ => by rw [hxz, hz]; exact List.getElem_mem _, fun _ => by omega⟩, rfl⟩
        have ht : (x == z) = true := by simpa using hxz
        clear hc hz hxz
        go_wp2
        go_ret
        exact HF.out
      · have HK : Hid (x ∉ zs.take (i + 1)) := by
          intro h
          rw [List.take_succ_eq_append_getElem hix] at h
          rcases List.mem_append.1 h with h | h
          · exact hno.out h
          · exact hxz (by rw [hz]; simpa using h)
        have ht : (x == z) = false := by simpa using hxz
        clear hc hz hxz
        go_wp2
        go_round
        case rel => exact ⟨i + 1, by omega, by go_num, HK⟩
        case measure => simp [intOf]; omega
    · obtain rfl : i = n := by omega
      have HF : Hid (IndexEnd zs x w w (.returned (.int .i64 (-1)))) := ⟨-1, rfl, ⟨by omega, by omega⟩, ⟨fun h => by omega, fun h => absurd (by rwa [List.take_of_length_le (by rw [Hn.out]; omega)]) hno.out⟩, rfl⟩
      go_wp2
      go_ret
      exact HF.out
def ContainsEnd (zs : List Bool) (x : Bool) (w w' : World) (e : Ending) : Prop := ∃ b, e = .returned (.bool b) ∧ (b = true ↔ x ∈ zs) ∧ w = w'
theorem contains_bool (A : Option Addr) (n c : Nat) (zs : List Bool) (x : Bool) (w : World) (hn : zs.length = n) (hm : n ≤ 1048576) (hr : Reads w A (zs.map .bool)) :
    Calls Tryz.prog 103 #[.slice A n c, .bool x] w fun e w' => ContainsEnd zs x w w' e := by
  have Hn := Lib.hid hn
  have Hr := Lib.hid hr
  clear hn hr
  go_enter Tryz.func103, Tryz.ntmps103
  go_wp2_with fail
  refine (index_bool A n c zs x _ Hn.out hm Hr.out).mono ?_
  rintro e w1 ⟨k, rfl, _, hk, rfl⟩
  have HF : Hid (ContainsEnd zs x w w (.returned (.bool (decide (0 ≤ k))))) := ⟨_, rfl, by rw [decide_eq_true_iff]; exact hk, rfl⟩
  clear hk
  go_wp2_with fail
  go_ret
  exact HF.out
set_option maxHeartbeats 800000 in
theorem impl_equalVectors0 (A : Option Addr) (n c : Nat) (rs1 : List RD) (B : Option Addr) (m d : Nat) (rs2 : List RD) (w : World) (h1 : InV w A n rs1) (h2 : InV w B m rs2) :
    Calls Tryz.prog 46 #[.slice A n c, .slice B m d] w fun e w' => EqVEnd rs1 rs2 w w' e := by
  have hn := h1.2.1
  have H1 := Lib.hid h1
  have H2 := Lib.hid h2
  clear h1 h2
  by_cases hne : ((n : Int) == (m : Int)) = false
  · have HF : Hid (EqVEnd rs1 rs2 w w (.returned (.bool false))) := ⟨false, rfl, eqv_no (fun h => by have e1 := H1.out.1; have e2 := H2.out.1; rw [h] at e1; simp at hne; omega), Below.refl _ _⟩
    go_enter Tryz.func46, Tryz.ntmps46
    go_wp2_with fail
    go_ret
    exact HF.out
  obtain rfl : n = m := by simp at hne; omega
  clear hne
  go_enter Tryz.func46, Tryz.ntmps46
  go_wp2_with fail
  refine (impl_combined_eq A n c rs1 B d rs2 _ H1.out H2.out).mono ?_
  rintro e w1 ⟨A1, c1, rfl, ho, hb⟩
  have hzl : (List.zipWith reqb rs1 rs2).length = n := by rw [List.length_zipWith, H1.out.1, H2.out.1, Nat.min_self]
  have HZA := Lib.hid (zipB_all (a := rs1) (b := rs2) (by rw [H1.out.1, H2.out.1]))
  obtain ⟨zs, hzs⟩ : ∃ zs, zs = List.zipWith reqb rs1 rs2 := ⟨_, rfl⟩
  rw [← hzs] at hzl ho HZA ⊢
  rw [hzl] at ho ⊢
  have HZL := Lib.hid hzl
  have HO := Lib.hid ho
  have HB := Lib.hid hb
  clear ho hb hzl hzs
  go_wp2_with fail
  refine (contains_bool A1 n c1 zs false _ HZL.out hn (Reads.of_own HO.out)).mono ?_
  rintro e w2 ⟨b, rfl, hq, rfl⟩
  have HF : Hid (EqVEnd rs1 rs2 w w1 (.returned (.bool (!b)))) := ⟨_, rfl, by unfold EqualVectorsIs; rw [← HZA.out, ← hq]; cases b <;> simp, HB.out⟩
  clear hq
  go_wp2_with fail
  go_ret
  exact HF.out
end Go.Proofs.YtdehcddjkcpnfaaGreat
