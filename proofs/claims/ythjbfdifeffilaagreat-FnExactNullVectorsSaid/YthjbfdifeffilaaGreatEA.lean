/- Contracts of the elimination: which columns the pivots are in (data; the program's areFirstColumns and slices.Contains, the model's l07Has). -/
import Derived.Test.YthjbfdifeffilaaGreatElimR
import Derived.Test.YthjbfdifeffilaaGreatElimM
import Derived.Test.YthjbfdifeffilaaGreatMatK
import Derived.Deep.DeepCutAuto
import Derived.Test.YthjbfdifeffilaaGreatMatI
import Derived.Deep.RegionLaw
namespace Go.Proofs.YthjbfdifeffilaaGreat
set_option maxRecDepth 100000
open Go.RowKit

theorem est_asc {P K : Nat} (rs : List RD) : ∀ k, (est P K rs k).pv.Pairwise (· < ·) ∧ ∀ x ∈ (est P K rs k).pv, x < k
  | 0 => ⟨List.Pairwise.nil, fun x hx => by simp [est_zero] at hx⟩
  | k + 1 => by
    obtain ⟨h1, h2⟩ := est_asc (P := P) (K := K) rs k
    have h3 : ∀ x ∈ (est P K rs k).pv, x < k + 1 := fun x hx => Nat.lt_succ_of_lt (h2 x hx)
    rw [est_succ]
    by_cases hc : (est P K rs k).pv.length < P ∧ AllOk (est P K rs k).rs
    · cases hf : firstRow P K (est P K rs k).rs (est P K rs k).pv.length k with
      | none => rw [estep_none hf]; exact ⟨h1, h3⟩
      | some i =>
        rw [estep_some hc.1 hc.2 hf]
        refine ⟨List.pairwise_append.2 ⟨h1, List.pairwise_singleton _ _, fun a ha b hb => ?_⟩, fun x hx => ?_⟩
        · rw [List.mem_singleton.1 hb]; exact h2 a ha
        · rcases List.mem_append.1 hx with hx | hx
          · exact h3 x hx
          · rw [List.mem_singleton.1 hx]; omega
    · rw [estep_done hc]; exact ⟨h1, h3⟩
section
variable {pv : List Nat}
theorem asc_ge (h : pv.Pairwise (· < ·)) : ∀ i (hi : i < pv.length), i ≤ pv[i]
  | 0, _ => Nat.zero_le _
  | i + 1, hi => by
    have h1 := asc_ge h i (by omega)
    have h2 := List.pairwise_iff_getElem.1 h i (i + 1) (by omega) hi (by omega)
    omega
theorem asc_le (h : pv.Pairwise (· < ·)) (i : Nat) : ∀ d (hi : i + d < pv.length), pv[i] + d ≤ pv[i + d]
  | 0, _ => Nat.le_refl _
  | d + 1, hi => by
    have h1 := asc_le h i d (by omega)
    have h2 := List.pairwise_iff_getElem.1 h (i + d) (i + (d + 1)) (by omega) hi (by omega)
    omega
/-- n ascending pivots, the last of them in column n - 1, are in the first n columns. -/
theorem firsts (h : pv.Pairwise (· < ·)) {n : Nat} (hn : pv.length = n) : pv = List.range n ↔ (0 < n → pv[n - 1]? = some (n - 1)) := by
  constructor
  · rintro rfl h0
    rw [List.getElem?_range (by omega)]
  · intro hl
    apply List.ext_getElem
    · simp [hn]
    · intro i h1 h2
      have h0 : 0 < n := by omega
      have hk := hl h0
      obtain ⟨hlt, hk⟩ := List.getElem?_eq_some_iff.1 hk
      have h3 := asc_ge h i h1
      have h4 := asc_le h i (n - 1 - i) (by omega)
      have e : i + (n - 1 - i) = n - 1 := by omega
      simp only [e] at h4
      rw [hk] at h4
      simp
      omega
theorem firsts_of (hk : ∀ j, j < pv.length → pv[j]? = some j) : pv = List.range pv.length := by
  apply List.ext_getElem?
  intro i
  by_cases hi : i < pv.length
  · rw [hk i hi, List.getElem?_range hi]
  · rw [List.getElem?_eq_none (by omega), List.getElem?_eq_none (by simp; omega)]
end
def HasEnd (zs : List Nat) (x : Nat) (w w' : World) (e : Ending) : Prop := ∃ b, e = .returned (.bool b) ∧ (b = true ↔ x ∈ zs) ∧ w = w'
def IndexNEnd (zs : List Nat) (x : Nat) (w w' : World) (e : Ending) : Prop := ∃ k : Int, e = .returned (.int .i64 k) ∧ (-1 ≤ k ∧ k ≤ zs.length) ∧ (0 ≤ k ↔ x ∈ zs) ∧ w = w'
set_option maxHeartbeats 800000 in
theorem index_int (A : Option Addr) (n c : Nat) (zs : List Nat) (x : Nat) (w : World) (hn : zs.length = n) (hm : n ≤ 1048576) (hr : Reads w A (ivals zs)) :
    Calls Tryz.prog 157 #[.slice A n c, .int .i64 x] w fun e w' => IndexNEnd zs x w w' e := by
  have Hn := Lib.hid hn
  have Hr := Lib.hid hr
  clear hn hr
  go_enter Tryz.func157, Tryz.ntmps157
  go_wp2
  go_loop [8] (fun y => ∃ i : Nat, i ≤ n ∧ y = .int .i64 i ∧ Hid (x ∉ zs.take i)) (fun y => n - (intOf y).toNat)
  case atStart => exact ⟨0, Nat.zero_le _, rfl, by simp [Hid]⟩
  case round =>
    obtain ⟨i, hle, rfl, hno⟩ := hrel
    by_cases hlt : i < n
    · have hix : i < zs.length := by rw [Hn.out]; exact hlt
      obtain ⟨b, o, rfl, hb, hc⟩ := Hr.out.at_ (by rw [ivals_length]; omega)
      obtain ⟨z, hz⟩ : ∃ z, z = zs[i] := ⟨_, rfl⟩
      have hcell : w.cell? ⟨b, o + i, none⟩ = some (.int .i64 (z : Int)) := (hc i (by rw [ivals_length]; exact hix)).trans (by simp [ivals, hz])
      have hi0 : (0 : Int) ≤ (i : Int) := by omega
      have hi1 : (i : Int) < (n : Int) := by omega
      by_cases hxz : x = z
      · have HF : Hid (IndexNEnd zs x w w (.returned (.int .i64 i))) := ⟨i, rfl, ⟨by omega, by rw [Hn.out]; omega⟩, ⟨fun _ => by rw [hxz, hz]; exact List.getElem_mem _, fun _ => by omega⟩, rfl⟩
        have ht : ((x : Int) == (z : Int)) = true := by simp; omega
        clear hc hz hxz
        go_wp2
        go_ret
        exact HF.out
      · have HK : Hid (x ∉ zs.take (i + 1)) := by
          intro h
          rw [List.take_succ_eq_append_getElem hix] at h
          rcases List.mem_append.1 h with h | h
          · exact hno.out h
          · exact hxz (by rw [hz]; simpa using h)
        have ht : ((x : Int) == (z : Int)) = false := by simp; omega
        clear hc hz hxz
        go_wp2
        go_round
        case rel => exact ⟨i + 1, by omega, by go_num, HK⟩
        case measure => simp [intOf]; omega
    · obtain rfl : i = n := by omega
      have HF : Hid (IndexNEnd zs x w w (.returned (.int .i64 (-1)))) := ⟨-1, rfl, ⟨by omega, by omega⟩, ⟨fun h => by omega, fun h => absurd (by rwa [List.take_of_length_le (by rw [Hn.out]; omega)]) hno.out⟩, rfl⟩
      go_wp2
      go_ret
      exact HF.out
theorem contains_int (A : Option Addr) (n c : Nat) (zs : List Nat) (x : Nat) (w : World) (hn : zs.length = n) (hm : n ≤ 1048576) (hr : Reads w A (ivals zs)) :
    Calls Tryz.prog 106 #[.slice A n c, .int .i64 x] w fun e w' => HasEnd zs x w w' e := by
  have Hn := Lib.hid hn
  have Hr := Lib.hid hr
  clear hn hr
  go_enter Tryz.func106, Tryz.ntmps106
  go_wp2_with fail
  refine (index_int A n c zs x _ Hn.out hm Hr.out).mono ?_
  rintro e w1 ⟨k, rfl, _, hk, rfl⟩
  have HF : Hid (HasEnd zs x w w (.returned (.bool (decide (0 ≤ k))))) := ⟨_, rfl, by rw [decide_eq_true_iff]; exact hk, rfl⟩
  clear hk
  go_wp2_with fail
  go_ret
  exact HF.out
set_option maxHeartbeats 800000 in
theorem spec_l07Has (A : Option Addr) (n c : Nat) (zs : List Nat) (x : Nat) (w : World) (hn : zs.length = n) (hm : n ≤ 1048576) (hr : Reads w A (ivals zs)) :
    Calls Tryz.prog 101 #[.slice A n c, .int .i64 x] w fun e w' => HasEnd zs x w w' e := by
  have Hn := Lib.hid hn
  have Hr := Lib.hid hr
  clear hn hr
  go_enter Tryz.func101, Tryz.ntmps101
  go_wp2
  go_loop [9] (fun y => ∃ i : Nat, i ≤ n ∧ y = .int .i64 i ∧ Hid (x ∉ zs.take i)) (fun y => n - (intOf y).toNat)
  case atStart => exact ⟨0, Nat.zero_le _, rfl, by simp [Hid]⟩
  case round =>
    obtain ⟨i, hle, rfl, hno⟩ := hrel
    by_cases hlt : i < n
    · have hix : i < zs.length := by rw [Hn.out]; exact hlt
      obtain ⟨b, o, rfl, hb, hc⟩ := Hr.out.at_ (by rw [ivals_length]; omega)
      obtain ⟨z, hz⟩ : ∃ z, z = zs[i] := ⟨_, rfl⟩
      have hcell : w.cell? ⟨b, o + i, none⟩ = some (.int .i64 (z : Int)) := (hc i (by rw [ivals_length]; exact hix)).trans (by simp [ivals, hz])
      have hi0 : (0 : Int) ≤ (i : Int) := by omega
      have hi1 : (i : Int) < (n : Int) := by omega
      by_cases hxz : x = z
      · have HF : Hid (HasEnd zs x w w (.returned (.bool true))) := ⟨true, rfl, ⟨fun _ => by rw [hxz, hz]; exact List.getElem_mem _, fun _ => rfl⟩, rfl⟩
        have ht : ((z : Int) == (x : Int)) = true := by simp; omega
        clear hc hz hxz
        go_wp2
        go_ret
        exact HF.out
      · have HK : Hid (x ∉ zs.take (i + 1)) := by
          intro h
          rw [List.take_succ_eq_append_getElem hix] at h
          rcases List.mem_append.1 h with h | h
          · exact hno.out h
          · exact hxz (by rw [hz]; simpa using h)
        have ht : ((z : Int) == (x : Int)) = false := by simp; omega
        clear hc hz hxz
        go_wp2
        go_round
        case rel => exact ⟨i + 1, by omega, by go_num, HK⟩
        case measure => simp [intOf]; omega
    · obtain rfl : i = n := by omega
      have HF : Hid (HasEnd zs x w w (.returned (.bool false))) := ⟨false, rfl, ⟨fun h => (by cases h), fun h => absurd (by rwa [List.take_of_length_le (by rw [Hn.out]; omega)]) hno.out⟩, rfl⟩
      go_wp2
      go_ret
      exact HF.out
def FirstEnd (zs : List Nat) (k : Nat) (w w' : World) (e : Ending) : Prop := ∃ b, e = .returned (.bool b) ∧ (b = true ↔ zs = List.range k) ∧ w = w'
set_option maxHeartbeats 800000 in
theorem impl_areFirstColumns (A : Option Addr) (n c : Nat) (zs : List Nat) (k : Nat) (w : World) (hn : zs.length = n) (hm : n ≤ 1048576) (hk : k ≤ 1048576) (hr : Reads w A (ivals zs)) :
    Calls Tryz.prog 155 #[.slice A n c, .int .i64 k] w fun e w' => FirstEnd zs k w w' e := by
  have Hn := Lib.hid hn
  have Hr := Lib.hid hr
  clear hn hr
  by_cases hnk : n = k
  case neg =>
    have HF : Hid (FirstEnd zs k w w (.returned (.bool false))) := ⟨false, rfl, ⟨fun h => (by cases h), fun h => absurd (by rw [← Hn.out, h, List.length_range]) hnk⟩, rfl⟩
    have ht : ((n : Int) != (k : Int)) = true := by simp; omega
    go_enter Tryz.func155, Tryz.ntmps155
    go_wp2
    go_ret
    exact HF.out
  subst hnk
  have ht : ((n : Int) != (n : Int)) = false := by simp
  go_enter Tryz.func155, Tryz.ntmps155
  go_wp2
  go_loop [13] (fun y => ∃ i : Nat, i ≤ n ∧ y = .int .i64 i ∧ Hid (∀ j, j < i → zs[j]? = some j)) (fun y => n - (intOf y).toNat)
  case atStart => exact ⟨0, Nat.zero_le _, rfl, fun j hj => by omega⟩
  case round =>
    obtain ⟨i, hle, rfl, hno⟩ := hrel
    by_cases hlt : i < n
    · have hix : i < zs.length := by rw [Hn.out]; exact hlt
      obtain ⟨b, o, rfl, hb, hc⟩ := Hr.out.at_ (by rw [ivals_length]; omega)
      obtain ⟨z, hz⟩ : ∃ z, zs[i] = z := ⟨_, rfl⟩
      have hz? : zs[i]? = some z := by rw [List.getElem?_eq_getElem hix, hz]
      have HZ := Lib.hid hz?
      have hcell : w.cell? ⟨b, o + i, none⟩ = some (.int .i64 (z : Int)) := (hc i (by rw [ivals_length]; exact hix)).trans (by simp [ivals, hz])
      have hi0 : (0 : Int) ≤ (i : Int) := by omega
      have hi1 : (i : Int) < (n : Int) := by omega
      by_cases hxz : z = i
      · subst hxz
        have HK : Hid (∀ j, j < z + 1 → zs[j]? = some j) := fun j hj => by
          by_cases hjz : j = z
          · rw [hjz]; exact HZ.out
          · exact hno.out j (by omega)
        have ht2 : ((z : Int) != (z : Int)) = false := by simp
        clear hc hz hz?
        go_wp2
        go_round
        case rel => exact ⟨z + 1, by omega, by go_num, HK⟩
        case measure => simp [intOf]; omega
      · have HF : Hid (FirstEnd zs n w w (.returned (.bool false))) := ⟨false, rfl, ⟨fun h => (by cases h), fun h => by
          have h1 := HZ.out
          rw [h, List.getElem?_range hlt] at h1
          injection h1 with h1
          exact absurd h1.symm hxz⟩, rfl⟩
        have ht2 : ((z : Int) != (i : Int)) = true := by simp; omega
        clear hc hz hz? hxz
        go_wp2
        go_ret
        exact HF.out
    · obtain rfl : i = n := by omega
      have HF : Hid (FirstEnd zs i w w (.returned (.bool true))) := ⟨true, rfl, ⟨fun _ => by have h1 := firsts_of (pv := zs) (by rw [Hn.out]; exact hno.out); rwa [Hn.out] at h1, fun _ => rfl⟩, rfl⟩
      go_wp2
      go_ret
      exact HF.out
end Go.Proofs.YthjbfdifeffilaaGreat
namespace Go.Proofs.YthjbfdifeffilaaGreat
set_option maxRecDepth 100000
open Go.RowKit Go.Deep

theorem els_one_cell {w : World} {base : Nat} {M : List El} (h : ∀ y ∈ M, y.own w base) : ∀ v ∈ flat M, v.oneCell' = true := by
  intro v hv
  obtain ⟨e, he, hv⟩ := List.mem_flatMap.1 hv
  obtain ⟨A, c, hA⟩ := own_slice (h e he).1
  obtain ⟨B, d, hB⟩ := own_slice (h e he).2.1
  simp only [El.cells, List.mem_cons, List.not_mem_nil, or_false] at hv
  rcases hv with rfl | rfl | rfl
  · rfl
  · rw [hA]; rfl
  · rw [hB]; rfl
theorem OwnV.appends {w w' : World} {base n m : Nat} {V V' : Value} {L M : List El} (h : OwnV w base V n L) (hm : M.length = m) (ho : w'.ownsRow base 35 3 V' (n + m) (flat L ++ flat M)) (hg : w.grownBy w' V.ownBlock) (he : ∀ y ∈ M, y.own w base) (hp : M.Pairwise Far) (hf : ∀ x ∈ L, ∀ y ∈ M, Far x y) : OwnV w' base V' (n + m) (L ++ M) := by
  refine ⟨by rw [List.length_append, h.1, hm], by rw [flat_append]; exact ho, fun x hx => ?_, List.pairwise_append.2 ⟨h.2.2.2, hp, hf⟩⟩
  have key : x.own w base := by
    rcases List.mem_append.1 hx with hx | hx
    · exact h.2.2.1 x hx
    · exact he x hx
  exact key.dep fun k hk => hg.block k (key.lt k hk).2 fun e => el_other key h.2.1 (by decide) k hk e.symm
section
variable {P : Program} {w : World} {ops : Array Oper} {o : Oper} {a : Act}
theorem run_append_els (base : Nat) (t ty : TypeId) (i : TypeInfo) (z : Value) (bytes : Nat) (ht : P.underlying t = some (.slice 35)) (hi : P.info? 35 = some i) (hz : i.zero = some z) (hsize : i.size = 3) (hby : i.bytes = bytes) (hzs : z.cells.size = 3)
    (V : Value) (n : Nat) (L : List El) (hown : OwnV w base V n L) (ad : Addr) (m c : Nat) (M : List El) (hm : M.length = m) (hc : ∀ j u, (flat M)[j]? = some u → w.cell? (ad.add j) = some u) (he : ∀ y ∈ M, y.own w base) (hp : M.Pairwise Far) (hf : ∀ x ∈ L, ∀ y ∈ M, Far x y)
    (h63 : n + m ≤ maxLen) (hbytes : (n + m) * bytes ≤ 140737488355328) (hbase : base ≤ w.heap.size) :
    ∃ V' w', (Builtin.append_ #[t, t] ty #[V, .slice (some ad) m c]).run P w = .ok V' w' ∧ OwnV w' base V' (n + m) (L ++ M) ∧ w.grownBy w' V.ownBlock := by
  obtain ⟨V', w', hrun, h2, h3, _⟩ := run_append_own (P := P) w base t ty 35 i z 3 bytes ht hi hz hsize hby hzs (by decide) V n (flat L) hown.2.1 ad m c (flat M) (by rw [flat_length, hm]) hc (els_one_cell he) h63 hbytes hbase
  exact ⟨V', w', hrun, hown.appends hm h2 h3 he hp hf, h3⟩
theorem step_append_els {K : Act → World → Prop} {Q : Exit → Act → World → Prop} {E : Prop} (hgd : o.guard = none) (s x : Operand) (t : TypeId) (ho : o.op = .call { callee := .builtin .append, args := #[s, x], argTypes := #[t, t] })
    (base : Nat) (i : TypeInfo) (z : Value) (bytes : Nat) (ht : P.underlying t = some (.slice 35)) (hi : P.info? 35 = some i) (hz : i.zero = some z) (hsize : i.size = 3) (hby : i.bytes = bytes) (hzs : z.cells.size = 3)
    (V : Value) (n : Nat) (L : List El) (hs : a.eval s = V) (hown : OwnV w base V n L) (ad : Addr) (m c : Nat) (M : List El) (hx : a.eval x = .slice (some ad) m c) (hm : M.length = m) (hc : ∀ j u, (flat M)[j]? = some u → w.cell? (ad.add j) = some u) (he : ∀ y ∈ M, y.own w base) (hp : M.Pairwise Far) (hf : ∀ x ∈ L, ∀ y ∈ M, Far x y)
    (h63 : n + m ≤ maxLen) (hbytes : (n + m) * bytes ≤ 140737488355328) (hbase : base ≤ w.heap.size)
    (h : ∀ V' w', OwnV w' base V' (n + m) (L ++ M) → w.grownBy w' V.ownBlock → K (a.put o.dst V') w') :
    if Region.wanted o (yielded ops a.tmps) = true then Oper.wp P o a w K Q else E := by
  have hw : Region.wanted o (yielded ops a.tmps) = true := by simp [Region.wanted, hgd]
  rw [if_pos hw]
  obtain ⟨V', w', hrun, h2, h3⟩ := run_append_els (P := P) base t o.type i z bytes ht hi hz hsize hby hzs V n L hown ad m c M hm hc he hp hf h63 hbytes hbase
  unfold Oper.wp execOp
  simp only [ho, resolve, invoke, builtin, Sem.run_bind, Sem.run_pure, Result.andThen_ok, List.map_toArray, List.map_cons, List.map_nil, hs, hx, hrun]
  exact h V' w' h2 h3
end
/-- The cells of some elements of a list of the call's own, as the source of an append. -/
theorem OwnV.source {w : World} {base G n c : Nat} {L M : List El} {j : Nat} (h : OwnV w base (.slice (some ⟨G, 0, none⟩) n c) n L) (hM : ∀ i, i < M.length → M[i]? = L[j + i]?) : ∀ k u, (flat M)[k]? = some u → w.cell? ((⟨G, j * 3, none⟩ : Addr).add k) = some u := by
  intro k u hu
  obtain ⟨hlt, _⟩ := List.getElem?_eq_some_iff.1 hu
  rw [flat_length] at hlt
  have hi : k / 3 < M.length := by omega
  have hL : j + k / 3 < L.length := by
    have h1 := hM _ hi
    rw [List.getElem?_eq_getElem hi] at h1
    exact (List.getElem?_eq_some_iff.1 h1.symm).1
  have he : M[k / 3] = L[j + k / 3] := by
    have h1 := hM _ hi
    rw [List.getElem?_eq_getElem hi, List.getElem?_eq_getElem hL] at h1
    exact Option.some.inj h1
  obtain ⟨m0, m1, m2⟩ := flat_at M (k / 3) hi
  obtain ⟨c0, c1, c2⟩ := h.cells hL
  rw [Addr.add_lit]
  rw [← he] at c0 c1 c2
  have h3 : k % 3 = 0 ∨ k % 3 = 1 ∨ k % 3 = 2 := by omega
  rcases h3 with h3 | h3 | h3
  · rw [show k = k / 3 * 3 by omega, m0] at hu
    rw [show j * 3 + k = (j + k / 3) * 3 by omega, c0, hu]
  · rw [show k = k / 3 * 3 + 1 by omega, m1] at hu
    rw [show j * 3 + k = (j + k / 3) * 3 + 1 by omega, c1, hu]
  · rw [show k = k / 3 * 3 + 2 by omega, m2] at hu
    rw [show j * 3 + k = (j + k / 3) * 3 + 2 by omega, c2, hu]
end Go.Proofs.YthjbfdifeffilaaGreat
namespace Go.Proofs.YthjbfdifeffilaaGreat
set_option maxRecDepth 100000
open Go.RowKit

/-- Of a list of rows of K elements: k elements of each row from number o on, the first i rows. -/
def rt {α : Type} (k K o i : Nat) (L : List α) : List α := (List.range i).flatMap fun t => (L.drop (t * K + o)).take k
section
variable {α : Type} {k K o i : Nat} {L : List α}
theorem rt_zero : rt k K o 0 L = [] := rfl
theorem rt_succ : rt k K o (i + 1) L = rt k K o i L ++ (L.drop (i * K + o)).take k := by simp [rt, List.range_succ, List.flatMap_append]
theorem rt_sub (h : o + k ≤ K) : ∀ i, (rt k K o i L).Sublist (L.take (i * K))
  | 0 => by rw [rt_zero]; exact List.nil_sublist _
  | i + 1 => by
    rw [rt_succ, Nat.add_mul, Nat.one_mul]
    have h1 : L.take (i * K + K) = L.take (i * K) ++ (L.drop (i * K)).take K := by rw [List.take_add]
    rw [h1]
    refine List.Sublist.append (rt_sub h i) ?_
    have h2 : (L.drop (i * K + o)).take k = (((L.drop (i * K)).take K).drop o).take k := by
      rw [List.drop_take, List.drop_drop, List.take_take, Nat.min_eq_left (by omega)]
    rw [h2]
    exact (List.take_sublist _ _).trans (List.drop_sublist _ _)
theorem rt_sublist (h : o + k ≤ K) : (rt k K o i L).Sublist L := (rt_sub h i).trans (List.take_sublist _ _)
theorem rt_length (h : o + k ≤ K) : ∀ i, i * K ≤ L.length → (rt k K o i L).length = i * k
  | 0, _ => by simp [rt_zero]
  | i + 1, hl => by
    rw [Nat.add_mul, Nat.one_mul] at hl
    rw [rt_succ, List.length_append, rt_length h i (by omega), List.length_take, List.length_drop, Nat.add_mul, Nat.one_mul]
    omega
theorem rt_mem {x : α} (h : x ∈ rt k K o i L) : x ∈ L := by
  obtain ⟨t, _, h⟩ := List.mem_flatMap.1 h
  exact List.mem_of_mem_drop (List.mem_of_mem_take h)
end
theorem Has.rt {L : List El} {rs : List RD} (h : Has L rs) (k K o : Nat) : ∀ i, Has (rt k K o i L) (rt k K o i rs)
  | 0 => trivial
  | i + 1 => by rw [rt_succ, rt_succ]; exact (Has.rt h k K o i).append ((h.drop _).take _)
/-- The rows of two matrices side by side, the first i of them. -/
def besTo (K M : Nat) (rs ss : List RD) (i : Nat) : List RD := (List.range i).flatMap fun a => mrow K rs a ++ mrow M ss a
theorem besTo_zero (K M : Nat) (rs ss : List RD) : besTo K M rs ss 0 = [] := rfl
theorem besTo_succ (K M : Nat) (rs ss : List RD) (i : Nat) : besTo K M rs ss (i + 1) = besTo K M rs ss i ++ mrow K rs i ++ mrow M ss i := by
  simp [besTo, List.range_succ, List.flatMap_append]
theorem besTo_mem {K M : Nat} {rs ss : List RD} {i : Nat} {x : RD} (h : x ∈ besTo K M rs ss i) : x ∈ rs ∨ x ∈ ss := by
  obtain ⟨a, _, h⟩ := List.mem_flatMap.1 h
  rcases List.mem_append.1 h with h | h
  · exact .inl (List.mem_of_mem_drop (List.mem_of_mem_take h))
  · exact .inr (List.mem_of_mem_drop (List.mem_of_mem_take h))
theorem besTo_length {P K M : Nat} {rs ss : List RD} (h1 : rs.length = P * K) (h2 : ss.length = P * M) : ∀ i, i ≤ P → (besTo K M rs ss i).length = i * (K + M)
  | 0, _ => by simp [besTo_zero]
  | i + 1, hi => by
    have h3 : (mrow K rs i).length = K := mrow_length h1 (by omega)
    have h4 : (mrow M ss i).length = M := mrow_length h2 (by omega)
    rw [besTo_succ, List.length_append, List.length_append, besTo_length h1 h2 i (by omega), h3, h4, Nat.add_mul, Nat.one_mul]
    omega
theorem besTo_mok {P K M : Nat} {rs ss : List RD} (h1 : MOk P K rs) (h2 : MOk P M ss) (h : K + M ≤ 24) : MOk P (K + M : Nat) (besTo K M rs ss P) := by
  refine mok_of (mok_24 h1).1 h (besTo_length (mok_plen h1) (mok_plen h2) P (Nat.le_refl _)) fun x hx => ?_
  rcases besTo_mem hx with hx | hx
  · exact h1.all x hx
  · exact h2.all x hx
/-- What is left of a matrix beside another one behind the elimination. -/
noncomputable def sysE (P M : Nat) (rs ss : List RD) : ES := est P (P + M) (besTo P M rs ss P) (P + M)
/-- The system has one solution, and no number was too large. -/
def SysOk (P M : Nat) (rs ss : List RD) : Prop := AllOk (sysE P M rs ss).rs ∧ (sysE P M rs ss).pv = List.range P
noncomputable def sysR (P M : Nat) (rs ss : List RD) : List RD := rt M (P + M) P P (sysE P M rs ss).rs
theorem sysR_length {P M : Nat} {rs ss : List RD} (hg : (est P (P + M) (besTo P M rs ss P) (P + M)).rs.length = P * (P + M)) : (sysR P M rs ss).length = P * M := by
  unfold sysR
  exact rt_length (Nat.le_refl _) P (by rw [← hg]; exact Nat.le_refl _)
theorem sysR_ok {P M : Nat} {rs ss : List RD} (h : SysOk P M rs ss) : AllOk (sysR P M rs ss) := fun x hx => h.1 x (rt_mem hx)
/-- The elements of the identity matrix of P rows. -/
def InverseIs (p k : Int) (rs : List RD) (q j : Int) (r : List RD) (b : Bool) : Prop :=
  (((MOk p k rs ∧ p = k ∧ p ≤ 12) ∧ SysOk p.toNat p.toNat rs (ident p.toNat)) ∧ q = p ∧ j = p ∧ r = sysR p.toNat p.toNat rs (ident p.toNat) ∧ b = true) ∨
    (¬ ((MOk p k rs ∧ p = k ∧ p ≤ 12) ∧ SysOk p.toNat p.toNat rs (ident p.toNat)) ∧ q = 0 ∧ j = 0 ∧ r = [] ∧ b = false)
theorem inverse_unique {p k : Int} {rs : List RD} {q j q' j' : Int} {r r' : List RD} {b b' : Bool} (h : InverseIs p k rs q j r b) (h' : InverseIs p k rs q' j' r' b') : q = q' ∧ j = j' ∧ r = r' ∧ b = b' := by
  rcases h with ⟨a, rfl, rfl, rfl, rfl⟩ | ⟨a, rfl, rfl, rfl, rfl⟩ <;> rcases h' with ⟨b, rfl, rfl, rfl, rfl⟩ | ⟨b, rfl, rfl, rfl, rfl⟩
  · exact ⟨rfl, rfl, rfl, rfl⟩
  · exact absurd a b
  · exact absurd b a
  · exact ⟨rfl, rfl, rfl, rfl⟩
def SolveSystemIs (p k : Int) (rs v r : List RD) (b : Bool) : Prop :=
  (((MOk p k rs ∧ p = k ∧ p ≤ 12 ∧ VOk v ∧ (v.length : Int) = p) ∧ SysOk p.toNat 1 rs v) ∧ r = sysR p.toNat 1 rs v ∧ b = true) ∨
    (¬ ((MOk p k rs ∧ p = k ∧ p ≤ 12 ∧ VOk v ∧ (v.length : Int) = p) ∧ SysOk p.toNat 1 rs v) ∧ r = [] ∧ b = false)
theorem solveSystem_unique {p k : Int} {rs v r r' : List RD} {b b' : Bool} (h : SolveSystemIs p k rs v r b) (h' : SolveSystemIs p k rs v r' b') : r = r' ∧ b = b' := by
  rcases h with ⟨a, rfl, rfl⟩ | ⟨a, rfl, rfl⟩ <;> rcases h' with ⟨c, rfl, rfl⟩ | ⟨c, rfl, rfl⟩
  · exact ⟨rfl, rfl⟩
  · exact absurd a c
  · exact absurd c a
  · exact ⟨rfl, rfl⟩
end Go.Proofs.YthjbfdifeffilaaGreat
namespace Go.Proofs.YthjbfdifeffilaaGreat
set_option maxRecDepth 100000
open Go.RowKit Go.Deep

/-- What an element holds: its limbs lie where they lay in world w0. -/
def RefE (w0 : World) (e : El) (r : RD) : Prop := e.g = r.g ∧ (∃ A n c, e.v = .slice A n c ∧ InI w0 A n r.xs ∧ Room A n c) ∧ ∃ B m d, e.u = .slice B m d ∧ InI w0 B m r.ds ∧ Room B m d
def Refs (w0 : World) : List El → List RD → Prop
  | [], [] => True
  | e :: L, r :: rs => RefE w0 e r ∧ Refs w0 L rs
  | _, _ => False
section
variable {w0 w w' : World}
theorem Refs.length : ∀ {L : List El} {rs : List RD}, Refs w0 L rs → L.length = rs.length
  | [], [], _ => rfl
  | e :: L, r :: rs, h => by simp [Refs.length h.2]
theorem Refs.at_ : ∀ {L : List El} {rs : List RD}, Refs w0 L rs → ∀ j (h : j < L.length) (k : j < rs.length), RefE w0 L[j] rs[j]
  | e :: L, r :: rs, h, 0, _, _ => h.1
  | e :: L, r :: rs, h, j + 1, hj, hk => Refs.at_ h.2 j (by simpa using hj) (by simpa using hk)
theorem Refs.append : ∀ {L M : List El} {rs ss : List RD}, Refs w0 L rs → Refs w0 M ss → Refs w0 (L ++ M) (rs ++ ss)
  | [], _, [], _, _, k => k
  | _ :: _, _, _ :: _, _, h, k => ⟨h.1, Refs.append h.2 k⟩
theorem Refs.take : ∀ {L : List El} {rs : List RD} (o : Nat), Refs w0 L rs → Refs w0 (L.take o) (rs.take o)
  | [], [], _, _ => by simp [Refs]
  | _ :: _, _ :: _, 0, _ => by simp [Refs]
  | _ :: _, _ :: _, o + 1, h => ⟨h.1, Refs.take o h.2⟩
theorem Refs.drop : ∀ {L : List El} {rs : List RD} (o : Nat), Refs w0 L rs → Refs w0 (L.drop o) (rs.drop o)
  | [], [], _, _ => by simp [Refs]
  | _ :: _, _ :: _, 0, h => h
  | _ :: _, _ :: _, o + 1, h => Refs.drop o h.2
theorem refs_zeros : ∀ n, Refs w0 (List.replicate n El.zero) (List.replicate n RD.zero)
  | 0 => trivial
  | n + 1 => ⟨⟨rfl, ⟨none, 0, 0, rfl, ⟨rfl, by omega, .inl rfl, by simp [RD.zero]⟩, by unfold Room; omega⟩, ⟨none, 0, 0, rfl, ⟨rfl, by omega, .inl rfl, by simp [RD.zero]⟩, by unfold Room; omega⟩⟩, refs_zeros n⟩
/-- Block G holds the elements L. -/
def Row (w0 w : World) (G N : Nat) (L : List El) : Prop := w0.heap.size ≤ G ∧ G < w.heap.size ∧ L.length = N ∧ w.heap[G]? = some (.cells (flat L).toArray 35 (0, 0)) ∧ Below w0.heap.size w0 w
theorem Row.below {G N : Nat} {L : List El} (h : Row w0 w G N L) (hb : Below w.heap.size w w') : Row w0 w' G N L :=
  ⟨h.1, Nat.lt_of_lt_of_le h.2.1 hb.size, h.2.2.1, (hb.block G h.2.1).trans h.2.2.2.1, h.2.2.2.2.trans (hb.mono h.2.2.2.2.size)⟩
theorem Row.in_ {G N : Nat} {L : List El} {rs : List RD} (h : Row w0 w G N L) (hr : Refs w0 L rs) (hN : N ≤ 1048576) : InV w (some ⟨G, 0, none⟩) N rs := by
  obtain ⟨h1, h2, h3, h4, h5⟩ := h
  have hl := hr.length
  refine ⟨by omega, hN, .inr ⟨G, 0, rfl, h2, fun j hj => ?_⟩⟩
  have hjL : j < L.length := by omega
  obtain ⟨c0, c1, c2⟩ := flat_at L j hjL
  obtain ⟨e0, ⟨A, n, c, e1, i1, r1⟩, ⟨B, m, d, e2, i2, r2⟩⟩ := hr.at_ j hjL hj
  have key : ∀ k v, (flat L)[k]? = some v → w.cell? ⟨G, k, none⟩ = some v := fun k v hv => by
    simp [World.cell?, h4, hv]
  rw [Nat.zero_add]
  refine ⟨A, n, c, B, m, d, ?_, ?_, ?_, i1.below h5, r1, i2.below h5, r2⟩
  · rw [key _ _ c0, e0]
  · rw [key _ _ c1, e1]
  · rw [key _ _ c2, e2]
/-- A new list of zero values. -/
theorem Row.of_own {G N c : Nat} {n0 : Nat} (ho : OwnV w n0 (.slice (some ⟨G, 0, none⟩) N c) N (List.replicate N El.zero)) (hc : c = N) (hn : w0.heap.size ≤ n0) (hb : Below w0.heap.size w0 w) : Row w0 w G N (List.replicate N El.zero) := by
  subst hc
  rcases ho.2.1.2 with ⟨hv, _⟩ | ⟨g, cap, cur, hv, h1, h2, h3, h4, h5, h6⟩
  · cases hv
  · cases hv
    refine ⟨by omega, (Array.getElem?_eq_some_iff.1 h2).1, by simp, ?_, hb⟩
    have e : cur = (flat (List.replicate c El.zero)).toArray := by
      rw [← h6]
      have : cur.toList.take (c * 3) = cur.toList := List.take_of_length_le (by simp; omega)
      rw [this]
    rw [h2, e]
/-- The elements of a list that was handed in, with their cells. -/
theorem refs_at {b : Nat} : ∀ (rs : List RD) (o : Nat), (∀ j (h : j < rs.length), RatAt w0 b (o + j * 3) rs[j]) → ∃ M : List El, Refs w0 M rs ∧ ∀ k v, (flat M)[k]? = some v → w0.cell? ⟨b, o + k, none⟩ = some v
  | [], _, _ => ⟨[], trivial, fun k v h => by simp [flat] at h⟩
  | r :: rs, o, h => by
    obtain ⟨M, h1, h2⟩ := refs_at rs (o + 3) fun j hj => by
      have h3 := h (j + 1) (by simpa using hj)
      rw [show o + 3 + j * 3 = o + (j + 1) * 3 by omega]
      exact h3
    obtain ⟨A, n, c, B, m, d, e0, e1, e2, i1, r1, i2, r2⟩ := h 0 (by simp)
    simp only [Nat.zero_mul, Nat.add_zero, List.getElem_cons_zero] at e0 e1 e2 i1 i2
    refine ⟨⟨r.g, .slice A n c, n, [], .slice B m d, m, []⟩ :: M, ⟨⟨rfl, ⟨A, n, c, rfl, i1, r1⟩, ⟨B, m, d, rfl, i2, r2⟩⟩, h1⟩, fun k v hv => ?_⟩
    rw [flat_cons] at hv
    match k, hv with
    | 0, hv => simp at hv; rw [← hv]; exact e0
    | 1, hv => simp at hv; rw [← hv]; exact e1
    | 2, hv => simp at hv; rw [← hv]; exact e2
    | k + 3, hv =>
      simp at hv
      have h3 := h2 k v hv
      rwa [show o + 3 + k = o + (k + 3) by omega] at h3
theorem Refs.one : ∀ {L : List El} {rs : List RD}, Refs w0 L rs → ∀ v ∈ flat L, v.oneCell' = true
  | [], [], _, v, hv => by simp [flat] at hv
  | e :: L, r :: rs, h, v, hv => by
    obtain ⟨_, ⟨A, n, c, e1, _, _⟩, ⟨B, m, d, e2, _, _⟩⟩ := h.1
    rw [flat_cons, e1, e2] at hv
    simp only [List.mem_cons] at hv
    rcases hv with rfl | rfl | rfl | hv
    · rfl
    · rfl
    · rfl
    · exact Refs.one h.2 v hv
/-- A window of a list that was handed in: its elements, with their cells. -/
theorem InV.refs {A : Option Addr} {n : Nat} {rs : List RD} (h : InV w0 A n rs) {b o u K : Nat} (hA : A = some ⟨b, o, none⟩) (hle : u + K ≤ n) (hK : 0 < K) :
    ∃ M : List El, M.length = K ∧ Refs w0 M ((rs.drop u).take K) ∧ b < w0.heap.size ∧ ∀ k v, (flat M)[k]? = some v → w0.cell? ⟨b, o + u * 3 + k, none⟩ = some v := by
  rcases h.2.2 with h0 | ⟨b', o', hA', hlt, hat⟩
  · omega
  rw [hA] at hA'
  cases hA'
  obtain ⟨M, h1, h2⟩ := refs_at rs o hat
  have hl := h1.length
  have hn := h.1
  refine ⟨(M.drop u).take K, by rw [List.length_take, List.length_drop]; omega, (h1.drop u).take K, hlt, fun k v hv => ?_⟩
  rw [flat_take, flat_drop] at hv
  have hk : k < K * 3 := by
    obtain ⟨h3, _⟩ := List.getElem?_eq_some_iff.1 hv
    rw [List.length_take] at h3
    omega
  rw [List.getElem?_take_of_lt hk, List.getElem?_drop] at hv
  have h4 := h2 _ _ hv
  rwa [← Nat.add_assoc] at h4
theorem Row.splice {G N o m : Nat} {L M : List El} (h : Row w0 w G N L) (hm : M.length = m) (ho : o + m ≤ N) (hw : w' = w.setRow G ((flat L).toArray.toList.take (o * 3) ++ flat M ++ (flat L).toArray.toList.drop (o * 3 + (flat M).length)).toArray) :
    Row w0 w' G N (L.take o ++ M ++ L.drop (o + m)) ∧ Wrote (fun k => k = G) w w' := by
  subst hw
  obtain ⟨h1, h2, h3, h4, h5⟩ := h
  refine ⟨⟨h1, by simpa [World.setRow] using h2, by simp only [List.length_append, List.length_take, List.length_drop]; omega, ?_, below_setRow h5 h1 _⟩, ⟨rfl, rfl, rfl, by simp [World.setRow], fun j _ hj => setRow_other w G j _ hj⟩⟩
  rw [setRow_heap w G _ _ _ _ h4, List.toList_toArray, flat_append, flat_append, flat_take, flat_drop, flat_length, hm, Nat.add_mul]
end
section
variable {P : Program} {w0 w : World} {ops : Array Oper} {o : Oper} {a : Act}
theorem step_copy_row {K : Act → World → Prop} {Q : Exit → Act → World → Prop} {E : Prop} (hgd : o.guard = none) (d s : Operand) (dT sT : TypeId)
    (ho : o.op = .call { callee := .builtin .copy, args := #[d, s], argTypes := #[dT, sT] }) (hu : P.underlying dT = some (.slice 35)) (hsz : (P.info? 35).map (·.size) = some 3)
    (G off o3 N m dl dc sc : Nat) (ad : Addr) (hd : a.eval d = .slice (some ⟨G, o3, none⟩) dl dc) (h3 : o3 = off * 3) (hs : a.eval s = .slice (some ad) m sc) (hmd : m ≤ dl)
    (L M : List El) (h : Row w0 w G N L) (hm : M.length = m) (hc : ∀ k v, (flat M)[k]? = some v → w.cell? (ad.add k) = some v) (h1 : ∀ v ∈ flat M, v.oneCell' = true) (hle : off + m ≤ N)
    (k : ∀ w', Row w0 w' G N (L.take off ++ M ++ L.drop (off + m)) → Wrote (fun k => k = G) w w' → K (a.put o.dst (goInt m)) w') :
    if Region.wanted o (yielded ops a.tmps) = true then Oper.wp P o a w K Q else E := by
  have hw : Region.wanted o (yielded ops a.tmps) = true := by simp [Region.wanted, hgd]
  rw [if_pos hw]
  subst h3
  have hfl : (flat M).length = m * 3 := by rw [flat_length, hm]
  have hmin : Nat.min m dl = m := Nat.min_eq_left hmd
  have hrun := run_copy3 (P := P) w dT sT o.type 35 G (off * 3) dl dc ad m sc (flat L).toArray 35 (flat M) hu hsz h.2.2.2.1 (by rw [hfl, hmin]) hc (by rw [List.size_toArray, flat_length, flat_length, h.2.2.1, hm]; omega) h1
  rw [hmin] at hrun
  have hsp := h.splice (o := off) (m := m) (M := M) hm hle rfl
  unfold Oper.wp execOp
  simp only [ho, resolve, invoke, builtin, Sem.run_bind, Sem.run_pure, Result.andThen_ok, List.map_toArray, List.map_cons, List.map_nil, hd, hs, hrun]
  exact k _ hsp.1 hsp.2
end
end Go.Proofs.YthjbfdifeffilaaGreat
