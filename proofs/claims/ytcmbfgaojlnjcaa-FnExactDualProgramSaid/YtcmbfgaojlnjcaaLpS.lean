/- Contracts of linear programs, by the model: valid or not, a column. -/
import Derived.Test.YtcmbfgaojlnjcaaLpM
import Derived.Test.YtcmbfgaojlnjcaaGN
import Derived.Test.YtcmbfgaojlnjcaaGA
namespace Go.Proofs.Ytcmbfgaojlnjcaa
set_option maxRecDepth 100000
open Go.RowKit

def LpOkEnd (Q : Prop) (w w' : World) (e : Ending) : Prop := ∃ b, e = .returned (.bool b) ∧ (b = true ↔ Q) ∧ Below w.heap.size w w'
theorem lpOk_no {Q : Prop} {w w' : World} (h : ¬ Q) (hb : Below w.heap.size w w') : LpOkEnd Q w w' (.returned (.bool false)) := ⟨false, rfl, ⟨fun e => (by cases e), fun q => absurd q h⟩, hb⟩
theorem lpOk_yes {Q : Prop} {w w' : World} (h : Q) (hb : Below w.heap.size w w') : LpOkEnd Q w w' (.returned (.bool true)) := ⟨true, rfl, ⟨fun _ => h, fun _ => rfl⟩, hb⟩
/-- What a test of entries ends in. -/
def EntEnd (la : List Int) (e : Ending) : Prop := ∃ b, e = .returned (.bool b) ∧ (b = true ↔ Ent la)
theorem ent_no {la : List Int} (h : ¬ Ent la) : EntEnd la (.returned (.bool false)) := ⟨false, rfl, ⟨fun e => (by cases e), fun q => absurd q h⟩⟩
theorem ent_yes {la : List Int} (h : Ent la) : EntEnd la (.returned (.bool true)) := ⟨true, rfl, ⟨fun _ => h, fun _ => rfl⟩⟩
theorem Ent.nil : Ent [] := fun z hz => by cases hz
theorem Ent.snoc {la : List Int} {k : Nat} {z : Int} (h : Ent (la.take k)) (hk : la[k]? = some z) (hz : -100 ≤ z ∧ z ≤ 100) : Ent (la.take (k + 1)) := by
  rw [List.take_add_one, hk]
  intro y hy
  rcases List.mem_append.1 hy with hy | hy
  · exact h y hy
  · obtain rfl : y = z := by simpa using hy
    exact hz
theorem ent_bad {la : List Int} {k : Nat} {z : Int} (hk : la[k]? = some z) (hz : ¬ (-100 ≤ z ∧ z ≤ 100)) : ¬ Ent la := fun h => hz (h z (List.mem_of_getElem? hk))
theorem cells_get {w : World} {b o k : Nat} {la : List Int} {z : Int} (hc : CellsAt w b o (la.map (.int .i64))) (hk : la[k]? = some z) : w.cell? ⟨b, o + k, none⟩ = some (.int .i64 z) := by
  obtain ⟨hlt, rfl⟩ := List.getElem?_eq_some_iff.1 hk
  exact (hc k (by simpa using hlt)).trans (by simp)
/-- An element of a list that was handed in. -/
theorem InI.get {w : World} {A : Option Addr} {n : Nat} {xs : List Int} (h : InI w A n xs) {k : Nat} (hk : k < n) : ∃ b o z, A = some ⟨b, o, none⟩ ∧ xs[k]? = some z ∧ w.cell? ⟨b, o + k, none⟩ = some (.int .i64 z) ∧ b < w.heap.size ∧ -9223372036854775808 ≤ z ∧ z ≤ 9223372036854775807 := by
  have hkx : k < xs.length := by rw [h.1]; exact hk
  obtain ⟨b, o, hA, hb, hc⟩ := h.2.2.1.at_ (by simp; omega)
  exact ⟨b, o, xs[k], hA, List.getElem?_eq_getElem hkx, cells_get hc (List.getElem?_eq_getElem hkx), hb, h.2.2.2 _ (List.getElem_mem _)⟩
set_option maxHeartbeats 1600000 in
theorem spec_l09In (A : Option Addr) (n c : Nat) (la : List Int) (w : World) (h : InI w A n la) :
    Calls Try.prog 90 #[.slice A n c] w fun e w' => EntEnd la e ∧ w = w' := by
  have hn := h.2.1
  have HI := Lib.hid h
  clear h
  go_enter Try.func90, Try.ntmps90
  go_wp2_with fail
  go_loop [4, 7] (fun _ y => ∃ k : Nat, k ≤ n ∧ y = .int .i64 k ∧ Hid (Ent (la.take k))) (fun _ y => n - (intOf y).toNat)
  case atStart => exact ⟨0, Nat.zero_le _, rfl, by simpa using Lib.hid Ent.nil⟩
  case round =>
    obtain ⟨k, hk, rfl, hin⟩ := hrel
    by_cases hlt : k < n
    · obtain ⟨b, o, z, rfl, hz, hcell, hb, hz0, hz1⟩ := HI.out.get hlt
      have hi0 : (0 : Int) ≤ (k : Int) := by omega
      have hi1 : (k : Int) < (n : Int) := by omega
      have HZ := Lib.hid hz
      clear hz
      by_cases hok : -100 ≤ z ∧ z ≤ 100
      · have hnx : Hid (Ent (la.take (k + 1))) := hin.out.snoc HZ.out hok
        have hbool : Hid ((decide (-100 ≤ z) && decide (z ≤ 100)) = true) := by unfold Hid; simp [hok.1, hok.2]
        clear hok
        go_wp2_with (go_at_call 57; refine (spec_in _ _ _ true hbool.out _).mono ?_; rintro e w' ⟨rfl, rfl⟩)
        go_round
        case rel => exact ⟨k + 1, by omega, by go_num, hnx⟩
        case measure => simp [intOf]; omega
      · have hfin := Lib.hid (ent_no (ent_bad HZ.out hok))
        have hbool : Hid ((decide (-100 ≤ z) && decide (z ≤ 100)) = false) := by unfold Hid; rw [← Bool.decide_and, decide_eq_false hok]
        clear hok
        go_wp2_with (go_at_call 57; refine (spec_in _ _ _ false hbool.out _).mono ?_; rintro e w' ⟨rfl, rfl⟩)
        go_ret
        exact ⟨hfin.out, rfl⟩
    · obtain rfl : k = n := by omega
      have hfin : Hid (EntEnd la (.returned (.bool true))) := ent_yes (by have := hin.out; rwa [List.take_of_length_le (by rw [HI.out.1]; exact Nat.le_refl _)] at this)
      go_wp2_with fail
      go_ret
      exact ⟨hfin.out, rfl⟩
theorem in_no' {n lo hi : Int} (h : (decide (lo ≤ n) && decide (n ≤ hi)) = false) : ¬ (lo ≤ n ∧ n ≤ hi) := by
  rw [← Bool.decide_and] at h
  exact of_decide_eq_false h
theorem in_yes' {n lo hi : Int} (h : (decide (lo ≤ n) && decide (n ≤ hi)) = true) : lo ≤ n ∧ n ≤ hi := by simpa using h
set_option maxHeartbeats 3200000 in
theorem spec_programOk0 (p k : Int) (A : Option Addr) (n c : Nat) (la : List Int) (B : Option Addr) (m d : Nat) (lb : List Int) (C : Option Addr) (l f : Nat) (lc : List Int) (w : World) (h : InP w A n la B m lb C l lc) :
    Calls Try.prog 80 #[.agg #[.int .i64 p, .int .i64 k, .slice A n c, .slice B m d, .slice C l f]] w fun e w' => LpOkEnd (LP.ok ⟨p, k, la, lb, lc⟩) w w' e := by
  obtain ⟨W0, hW0⟩ : ∃ W, W = (w.alloc (.cells #[.int .i64 p, .int .i64 k, .slice A n c, .slice B m d, .slice C l f] 26)) := ⟨_, rfl⟩
  have hp0_0 : Hid (Box W0 (w.heap.size) 26 #[.int .i64 p, .int .i64 k, .slice A n c, .slice B m d, .slice C l f]) := by rw [hW0]; exact (Box.at' (by simp))
  have BW_0 : Hid (Below w.heap.size w W0) := by rw [hW0]; exact ((Below.refl w.heap.size w).alloc (by simp) _)
  have hsz0 : w.heap.size + 1 ≤ W0.heap.size := by rw [hW0]; simp
  have hn := h.1.2.1
  have hm := h.2.1.2.1
  have hl := h.2.2.2.1
  have HI := Lib.hid (h.below BW_0.out)
  clear h
  have HNO : Hid (¬ LP.ok ⟨p, k, la, lb, lc⟩ → LpOkEnd (LP.ok ⟨p, k, la, lb, lc⟩) w W0 (.returned (.bool false))) := fun q => lpOk_no q BW_0.out
  obtain ⟨b1, hb1⟩ : ∃ b, (decide (0 ≤ p) && decide (p ≤ 20)) = b := ⟨_, rfl⟩
  have H1 := Lib.hid hb1
  clear hb1
  go_enter Try.func80, Try.ntmps80
  go_wp2_with fail
  rw [← hW0]
  clear hW0
  refine (spec_in p 0 20 b1 H1.out _).mono ?_
  rintro e w1 ⟨rfl, rfl⟩
  have ehp00 := hp0_0.out.cell 0
  have ehp01 := hp0_0.out.cell 1
  have ehp02 := hp0_0.out.cell 2
  have ehp03 := hp0_0.out.cell 3
  have ehp04 := hp0_0.out.cell 4
  simp at ehp00 ehp01 ehp02 ehp03 ehp04
  cases b1
  case false =>
    have HF := Lib.hid (HNO.out fun q => in_no' H1.out q.1.1)
    go_wp2_with fail
    go_ret
    exact HF.out
  have hp2 := in_yes' H1.out
  obtain ⟨b2, hb2⟩ : ∃ b, (decide (0 ≤ k) && decide (k ≤ 40)) = b := ⟨_, rfl⟩
  have H2 := Lib.hid hb2
  clear hb2
  go_wp2_with fail
  refine (spec_in k 0 40 b2 H2.out _).mono ?_
  rintro e w1 ⟨rfl, rfl⟩
  cases b2
  case false =>
    have HF := Lib.hid (HNO.out fun q => in_no' H2.out q.1.2.1)
    go_wp2_with fail
    go_ret
    exact HF.out
  have hk2 := in_yes' H2.out
  have hpk := prod800 hp2 hk2
  have hpk0 := hpk.1
  have hpk1 := hpk.2
  obtain ⟨u, hu⟩ : ∃ u, u = p * k := ⟨_, rfl⟩
  have HU := Lib.hid hu
  rw [← hu] at hpk0 hpk1
  have hu2 : p * k = u := hu.symm
  clear hpk hu
  by_cases he1 : ((n : Int) == u) = true
  case neg =>
    have HF := Lib.hid (HNO.out fun q => he1 (by rw [HU.out, ← HI.out.1.1]; exact beq_iff_eq.2 q.1.2.2.1))
    have he1' : ((n : Int) == u) = false := by simpa using he1
    clear he1
    go_wp2_with fail
    go_ret
    exact HF.out
  by_cases he2 : ((m : Int) == p) = true
  case neg =>
    have HF := Lib.hid (HNO.out fun q => he2 (by rw [← HI.out.2.1.1]; exact beq_iff_eq.2 q.2.1.1))
    have he2' : ((m : Int) == p) = false := by simpa using he2
    clear he2
    go_wp2_with fail
    go_ret
    exact HF.out
  by_cases he3 : ((l : Int) == k) = true
  case neg =>
    have HF := Lib.hid (HNO.out fun q => he3 (by rw [← HI.out.2.2.1]; exact beq_iff_eq.2 q.2.2.1))
    have he3' : ((l : Int) == k) = false := by simpa using he3
    clear he3
    go_wp2_with fail
    go_ret
    exact HF.out
  have HE1 := Lib.hid he1
  have HE2 := Lib.hid he2
  have HE3 := Lib.hid he3
  go_wp2_with fail
  refine (spec_l09In A n c la _ HI.out.1).mono ?_
  rintro e w1 ⟨⟨b4, rfl, h4⟩, rfl⟩
  have H4 := Lib.hid h4
  clear h4
  cases b4
  case false =>
    have HF := Lib.hid (HNO.out fun q => (by have := H4.out.2 q.1.2.2.2; cases this))
    go_wp2_with fail
    go_ret
    exact HF.out
  go_wp2_with fail
  refine (spec_l09In B m d lb _ HI.out.2.1).mono ?_
  rintro e w1 ⟨⟨b5, rfl, h5⟩, rfl⟩
  have H5 := Lib.hid h5
  clear h5
  cases b5
  case false =>
    have HF := Lib.hid (HNO.out fun q => (by have := H5.out.2 q.2.1.2; cases this))
    go_wp2_with fail
    go_ret
    exact HF.out
  go_wp2_with fail
  refine (spec_l09In C l f lc _ HI.out.2.2).mono ?_
  rintro e w1 ⟨⟨b6, rfl, h6⟩, rfl⟩
  have HF : Hid (LpOkEnd (LP.ok ⟨p, k, la, lb, lc⟩) w W0 (.returned (.bool b6))) := ⟨b6, rfl, ⟨fun hb => ⟨⟨hp2, hk2, by have := beq_iff_eq.1 HE1.out; rw [HI.out.1.1, ← HU.out]; exact this, (by simpa using H4.out)⟩, ⟨by rw [HI.out.2.1.1]; exact beq_iff_eq.1 HE2.out, (by simpa using H5.out)⟩, ⟨by rw [HI.out.2.2.1]; exact beq_iff_eq.1 HE3.out, h6.1 hb⟩⟩, fun q => h6.2 q.2.2.2⟩, BW_0.out⟩
  clear h6
  go_wp2_with fail
  go_ret
  exact HF.out
theorem spec_programOk (p k : Int) (A : Option Addr) (n c : Nat) (la : List Int) (B : Option Addr) (m d : Nat) (lb : List Int) (C : Option Addr) (l f : Nat) (lc : List Int) (w : World) (h : InP w A n la B m lb C l lc) (_hp : -9223372036854775808 ≤ p ∧ p ≤ 9223372036854775807) (_hk : -9223372036854775808 ≤ k ∧ k ≤ 9223372036854775807) (_hc : n ≤ c) :
    Calls Try.prog 80 #[.agg #[.int .i64 p, .int .i64 k, .slice A n c, .slice B m d, .slice C l f]] w fun e w' => ∃ b, e = .returned (.bool b) ∧ ProgramOkIs p k la lb lc b ∧ Below w.heap.size w w' := (spec_programOk0 p k A n c la B m d lb C l f lc w h).mono fun _ _ h => h
/-- A list of integers, handed back. -/
def IntsEnd (r : List Int) (w w' : World) (e : Ending) : Prop := ∃ v, e = .returned v ∧ ResI w w' v r ∧ Below w.heap.size w w'
theorem intsEnd_mk {r : List Int} {w w' : World} {v : Value} {n : Nat} (hn : r.length = n) (hm : n ≤ 4194304) (ho : w'.ownsRow w.heap.size 3 1 v n (r.map (.int .i64))) (hb : Below w.heap.size w w') : IntsEnd r w w' (.returned v) :=
  ⟨v, rfl, ⟨by omega, by rw [hn]; exact ho⟩, hb⟩
theorem place_nat {K p i j : Nat} (hi : i < p) (hj : j < K) : i * K + j < p * K := by
  have : (i + 1) * K ≤ p * K := Nat.mul_le_mul_right _ hi
  rw [Nat.succ_mul] at this
  omega
set_option maxHeartbeats 3200000 in
theorem spec_l09Column (P K J : Nat) (A : Option Addr) (n c : Nat) (la : List Int) (B : Option Addr) (m d : Nat) (C : Option Addr) (l f : Nat) (w : World) (h : InI w A n la) (hl : n = P * K) (hJ : J < K) (hP : P ≤ 20) :
    Calls Try.prog 81 #[.agg #[.int .i64 P, .int .i64 K, .slice A n c, .slice B m d, .slice C l f], .int .i64 J] w fun e w' => IntsEnd (lcol K la P J) w w' e := by
  obtain ⟨i0, hi, hz0, hz1, hz2⟩ := info_parts Try.infoI
  obtain ⟨W0, hW0⟩ : ∃ W, W = (w.alloc (.cells #[.int .i64 P, .int .i64 K, .slice A n c, .slice B m d, .slice C l f] 26)) := ⟨_, rfl⟩
  have hp0_0 : Hid (Box W0 (w.heap.size) 26 #[.int .i64 P, .int .i64 K, .slice A n c, .slice B m d, .slice C l f]) := by rw [hW0]; exact (Box.at' (by simp))
  have BW_0 : Hid (Below w.heap.size w W0) := by rw [hW0]; exact ((Below.refl w.heap.size w).alloc (by simp) _)
  have hsz0 : w.heap.size + 1 ≤ W0.heap.size := by rw [hW0]; simp
  have hn := h.2.1
  have HI := Lib.hid (h.below BW_0.out)
  have hWs : Hid (W0.heap.size = w.heap.size + 1) := by unfold Hid; rw [hW0]; simp
  have HL := Lib.hid hl
  obtain ⟨zs, hzs⟩ : ∃ zs, zs = lcol K la P J := ⟨_, rfl⟩
  have HZ := Lib.hid hzs
  have HZL : Hid (zs.length = P) := by rw [hzs]; exact lcol_length _ _ _ _
  rw [← hzs]
  clear h hl hzs
  go_enter Try.func81, Try.ntmps81
  go_wp2_with fail
  rw [← hW0]
  clear hW0
  go_loopw [5, 6] (fun x y wr => ∃ i : Nat, i ≤ P ∧ y = .int .i64 i ∧ Hid (wr.ownsRow W0.heap.size 3 1 x i ((zs.take i).map (.int .i64))) ∧ Hid (Below W0.heap.size W0 wr) ∧ Hid (Below w.heap.size w wr)) (fun _ y _ => P - (intOf y).toNat)
  case atStart => exact ⟨0, Nat.zero_le _, rfl, by have h0 := World.ownsRow_lit W0 (e := 3) (size := 1) #[] 0 (Nat.le_refl _) (by simp) (by simp); rw [hWs.out] at h0; rw [hWs.out]; simpa using Lib.hid h0, (Below.refl _ _).alloc (Nat.le_refl _) _, BW_0.out.alloc BW_0.out.size _⟩
  case round =>
    obtain ⟨i, hle, rfl, ho, hb, hbw⟩ := hrel
    have hp0_1 := Lib.hid (hp0_0.out.below hb.out hp0_0.out.lt)
    have ehp00 := hp0_1.out.cell 0
    have ehp01 := hp0_1.out.cell 1
    have ehp02 := hp0_1.out.cell 2
    have ehp03 := hp0_1.out.cell 3
    have ehp04 := hp0_1.out.cell 4
    simp at ehp00 ehp01 ehp02 ehp03 ehp04
    by_cases hlt : i < P
    · obtain ⟨t, ht⟩ : ∃ t, t = i * K + J := ⟨_, rfl⟩
      have htn : t < n := by rw [ht, HL.out]; exact place_nat hlt hJ
      obtain ⟨b, o, z, rfl, hz, hcell, _, _, _⟩ := (HI.out.below hb.out).get htn
      have hzi : zs[i]? = some z := by rw [HZ.out]; exact lcol_at hlt (by rw [← ht]; exact hz)
      obtain ⟨u, hu⟩ : ∃ u, u = i * K := ⟨_, rfl⟩
      have hik : (i : Int) * (K : Int) = u := by rw [hu]; exact (Int.natCast_mul _ _).symm
      have huj : (u : Int) + (J : Int) = (t : Int) := by omega
      have ht0 : (0 : Int) ≤ (t : Int) := by omega
      have ht1 : (t : Int) < (n : Int) := by omega
      have hii : (i : Int) < (P : Int) := by omega
      have HN : Hid ((zs.take (i + 1)).map (Value.int .i64) = (zs.take i).map (.int .i64) ++ [.int .i64 z]) := by unfold Hid; rw [List.take_add_one, hzi]; simp
      clear hz hzi hu ht
      go_wp2_with (at_builtin; refine wpList_append_own _ rfl _ _ 22 rfl W0.heap.size 3 i0 (.int .i64 0) 1 8 Try.underlying22 hi hz0 hz1 hz2 rfl (by decide) _ _ _ rfl (ho.out.alloc _) ⟨wr.heap.size, 0, none⟩ 1 1 [.int .i64 z] rfl rfl ?c1 ?c2 ?c3 ?c4 ?c5 ?_)
      case c1 => exact cell_one_new _ _ _
      case c2 => simp [Value.oneCell']
      case c3 => unfold maxLen; omega
      case c4 => omega
      case c5 => have := hb.out.size; simp; omega
      intro v' w1 hown hg _
      have hb1 := Lib.hid ((hb.out.alloc hb.out.size _).grown hg (by have := hb.out.size; simp; omega) (fun j hj => (ho.out.lt j hj).1))
      have hb2 := Lib.hid ((hbw.out.alloc hbw.out.size _).grown hg (by have := hbw.out.size; simp; omega) (fun j hj => Nat.le_trans BW_0.out.size (ho.out.lt j hj).1))
      have ho1 : Hid (w1.ownsRow W0.heap.size 3 1 v' (i + 1) ((zs.take (i + 1)).map (.int .i64))) := by rw [HN.out]; unfold Hid; simpa using hown
      clear hown hg
      go_wp2_with fail
      go_roundw
      case rel => exact ⟨i + 1, by omega, by go_num, ho1, hb1, hb2⟩
      case measure => simp [intOf]; omega
    · obtain rfl : i = P := by omega
      have HF : Hid (∀ v, wr.ownsRow W0.heap.size 3 1 v i (zs.map (.int .i64)) → IntsEnd zs w wr (.returned v)) := fun v hv => intsEnd_mk HZL.out (by omega) (own_base hv BW_0.out.size) hbw.out
      have HO := Lib.hid ho.out
      rw [List.take_of_length_le (by rw [HZL.out]; exact Nat.le_refl _)] at HO
      go_wp2_with fail
      go_ret
      exact HF.out _ HO.out
def ColEnd (p k : Int) (la lb lc : List Int) (j : Int) (w w' : World) (e : Ending) : Prop := ∃ r v, e = .returned v ∧ ColumnOfIs p k la lb lc j r ∧ ResI w w' v r ∧ Below w.heap.size w w'
theorem col_no {p k : Int} {la lb lc : List Int} {j : Int} {w w' : World} (h : ¬ ((LP.mk p k la lb lc).ok ∧ 0 ≤ j ∧ j < k)) (hb : Below w.heap.size w w') : ColEnd p k la lb lc j w w' (.returned (.slice none 0 0)) :=
  ⟨[], _, rfl, .inr ⟨h, rfl⟩, ⟨by simp, World.ownsRow_nil _ _ _ _⟩, hb⟩
theorem resI_lower {w w1 w' : World} {v : Value} {r : List Int} (h : ResI w1 w' v r) (hs : w.heap.size ≤ w1.heap.size) : ResI w w' v r := ⟨h.1, own_base h.2 hs⟩
end Go.Proofs.Ytcmbfgaojlnjcaa
