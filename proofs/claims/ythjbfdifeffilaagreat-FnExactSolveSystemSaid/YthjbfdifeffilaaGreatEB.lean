/- Lists of fractions: a list whose block and whose elements have bases of their own; append of several elements to it. -/
import Derived.Test.YthjbfdifeffilaaGreatElJ7
import Derived.Test.YthjbfdifeffilaaGreatElS3
import Derived.Test.YthjbfdifeffilaaGreatElJ8
import Derived.Test.YthjbfdifeffilaaGreatElJ3
import Derived.Test.YthjbfdifeffilaaGreatEE
namespace Go.Proofs.YthjbfdifeffilaaGreat
set_option maxRecDepth 100000
open Go.RowKit Go.Deep

/-- A list of the call's own: its block from b1 on, its elements' blocks from b2 on. -/
def OwnW (w : World) (b1 b2 : Nat) (V : Value) (n : Nat) (L : List El) : Prop := L.length = n ∧ w.ownsRow b1 35 3 V n (flat L) ∧ (∀ e ∈ L, e.own w b2) ∧ L.Pairwise Far
section
variable {w w' : World} {b1 b2 n m : Nat} {V V' : Value} {L M : List El}
theorem OwnW.dep (h : OwnW w b1 b2 V n L) (hb : ∀ k, footV V L k → w'.heap[k]? = w.heap[k]?) : OwnW w' b1 b2 V n L :=
  ⟨h.1, own_dep h.2.1 fun k hk => hb k (.inl hk), fun e he => (h.2.2.1 e he).dep fun k hk => hb k (.inr ⟨e, he, hk⟩), h.2.2.2⟩
theorem OwnW.lt (h : OwnW w b1 b2 V n L) (k : Nat) (hk : footV V L k) : k < w.heap.size := by
  rcases hk with hk | ⟨x, hx, hk⟩
  · exact (h.2.1.lt k hk).2
  · exact ((h.2.2.1 x hx).lt k hk).2
theorem OwnW.below (h : OwnW w b1 b2 V n L) (hb : Below w.heap.size w w') : OwnW w' b1 b2 V n L := h.dep fun k hk => hb.block k (h.lt k hk)
theorem OwnW.ownV {b : Nat} (h : OwnW w b1 b2 V n L) (h1 : b ≤ b1) (h2 : b ≤ b2) : OwnV w b V n L := ⟨h.1, own_base h.2.1 h1, fun e he => (h.2.2.1 e he).lower h2, h.2.2.2⟩
theorem OwnW.none_ (w : World) (b1 b2 : Nat) : OwnW w b1 b2 (.slice none 0 0) 0 [] := ⟨rfl, World.ownsRow_nil _ _ _ _, by simp, by simp⟩
theorem OwnW.slice (h : OwnW w b1 b2 V n L) : ∃ A c, V = .slice A n c := own_slice h.2.1
theorem OwnW.box_set {g i : Nat} {t : TypeId} {cs : Array Value} (h : OwnW w b1 b2 V n L) (hb : Box w g t cs) (u : Value) (h1 : 35 ≠ t := by decide) (h2 : 3 ≠ t := by decide) : OwnW (w.setCell ⟨g, i, none⟩ u) b1 b2 V n L := by
  exact ⟨h.1, own_box h.2.1 hb i u h1, fun e he => ⟨own_box (h.2.2.1 e he).1 hb i u h2, own_box (h.2.2.1 e he).2.1 hb i u h2, (h.2.2.1 e he).2.2⟩, h.2.2.2⟩
theorem OwnW.appends (h : OwnW w b1 b2 V n L) (hm : M.length = m) (ho : w'.ownsRow b1 35 3 V' (n + m) (flat L ++ flat M)) (hg : w.grownBy w' V.ownBlock) (he : ∀ y ∈ M, y.own w b2) (hp : M.Pairwise Far) (hf : ∀ x ∈ L, ∀ y ∈ M, Far x y) : OwnW w' b1 b2 V' (n + m) (L ++ M) := by
  refine ⟨by rw [List.length_append, h.1, hm], by rw [flat_append]; exact ho, fun x hx => ?_, List.pairwise_append.2 ⟨h.2.2.2, hp, hf⟩⟩
  have key : x.own w b2 := by
    rcases List.mem_append.1 hx with hx | hx
    · exact h.2.2.1 x hx
    · exact he x hx
  exact key.dep fun k hk => hg.block k (key.lt k hk).2 fun e => el_other key h.2.1 (by decide) k hk e.symm
/-- Another list of the call's own is as it was where one is appended to. -/
theorem OwnV.beside {b G N c : Nat} {L2 : List El} (h : OwnV w b (.slice (some ⟨G, 0, none⟩) N c) N L2) (k : OwnW w b1 b2 V n L) (hg : w.grownBy w' V.ownBlock) (hG : G < b1) : OwnV w' b (.slice (some ⟨G, 0, none⟩) N c) N L2 := by
  refine h.dep fun j hj => hg.block j (h.lt j hj).2 fun e => ?_
  rcases hj with hj | ⟨x, hx, hj⟩
  · simp [Value.ownBlock] at hj
    have h1 := (k.2.1.lt j e.symm).1
    omega
  · exact el_other (h.2.2.1 x hx) k.2.1 (by decide) j hj e.symm
end
section
variable {P : Program} {w : World} {ops : Array Oper} {o : Oper} {a : Act}
theorem run_append_elsW (b1 b2 : Nat) (t ty : TypeId) (i : TypeInfo) (z : Value) (bytes : Nat) (ht : P.underlying t = some (.slice 35)) (hi : P.info? 35 = some i) (hz : i.zero = some z) (hsize : i.size = 3) (hby : i.bytes = bytes) (hzs : z.cells.size = 3)
    (V : Value) (n : Nat) (L : List El) (hown : OwnW w b1 b2 V n L) (ad : Addr) (m c : Nat) (M : List El) (hm : M.length = m) (hc : ∀ j u, (flat M)[j]? = some u → w.cell? (ad.add j) = some u) (he : ∀ y ∈ M, y.own w b2) (hp : M.Pairwise Far) (hf : ∀ x ∈ L, ∀ y ∈ M, Far x y)
    (h63 : n + m ≤ maxLen) (hbytes : (n + m) * bytes ≤ 140737488355328) (hbase : b1 ≤ w.heap.size) :
    ∃ V' w', (Builtin.append_ #[t, t] ty #[V, .slice (some ad) m c]).run P w = .ok V' w' ∧ OwnW w' b1 b2 V' (n + m) (L ++ M) ∧ w.grownBy w' V.ownBlock := by
  obtain ⟨V', w', hrun, h2, h3, _⟩ := run_append_own (P := P) w b1 t ty 35 i z 3 bytes ht hi hz hsize hby hzs (by decide) V n (flat L) hown.2.1 ad m c (flat M) (by rw [flat_length, hm]) hc (els_one_cell he) h63 hbytes hbase
  exact ⟨V', w', hrun, hown.appends hm h2 h3 he hp hf, h3⟩
theorem wpList_append_elsW {rest : List Oper} {Q : Exit → Act → World → Prop} (hgd : o.guard = none) (s x : Operand) (t : TypeId) (ho : o.op = .call { callee := .builtin .append, args := #[s, x], argTypes := #[t, t] })
    (b1 b2 : Nat) (i : TypeInfo) (z : Value) (bytes : Nat) (ht : P.underlying t = some (.slice 35)) (hi : P.info? 35 = some i) (hz : i.zero = some z) (hsize : i.size = 3) (hby : i.bytes = bytes) (hzs : z.cells.size = 3)
    (V : Value) (n : Nat) (L : List El) (hs : a.eval s = V) (hown : OwnW w b1 b2 V n L) (ad : Addr) (m c : Nat) (M : List El) (hx : a.eval x = .slice (some ad) m c) (hm : M.length = m) (hc : ∀ j u, (flat M)[j]? = some u → w.cell? (ad.add j) = some u) (he : ∀ y ∈ M, y.own w b2) (hp : M.Pairwise Far) (hf : ∀ x ∈ L, ∀ y ∈ M, Far x y)
    (h63 : n + m ≤ maxLen) (hbytes : (n + m) * bytes ≤ 140737488355328) (hbase : b1 ≤ w.heap.size)
    (h : ∀ V' w', OwnW w' b1 b2 V' (n + m) (L ++ M) → w.grownBy w' V.ownBlock → wpList P ops Q rest (a.put o.dst V') w') : wpList P ops Q (o :: rest) a w := by
  refine wpList_plain hgd fun K hK => ?_
  obtain ⟨V', w', hrun, h2, h3⟩ := run_append_elsW (P := P) b1 b2 t o.type i z bytes ht hi hz hsize hby hzs V n L hown ad m c M hm hc he hp hf h63 hbytes hbase
  unfold Oper.wp execOp
  simp only [ho, resolve, invoke, builtin, Sem.run_bind, Sem.run_pure, Result.andThen_ok, List.map_toArray, List.map_cons, List.map_nil, hs, hx, hrun]
  exact hK _ _ (h V' w' h2 h3)
theorem step_append_elsW {K : Act → World → Prop} {Q : Exit → Act → World → Prop} {E : Prop} (hgd : o.guard = none) (s x : Operand) (t : TypeId) (ho : o.op = .call { callee := .builtin .append, args := #[s, x], argTypes := #[t, t] })
    (b1 b2 : Nat) (i : TypeInfo) (z : Value) (bytes : Nat) (ht : P.underlying t = some (.slice 35)) (hi : P.info? 35 = some i) (hz : i.zero = some z) (hsize : i.size = 3) (hby : i.bytes = bytes) (hzs : z.cells.size = 3)
    (V : Value) (n : Nat) (L : List El) (hs : a.eval s = V) (hown : OwnW w b1 b2 V n L) (ad : Addr) (m c : Nat) (M : List El) (hx : a.eval x = .slice (some ad) m c) (hm : M.length = m) (hc : ∀ j u, (flat M)[j]? = some u → w.cell? (ad.add j) = some u) (he : ∀ y ∈ M, y.own w b2) (hp : M.Pairwise Far) (hf : ∀ x ∈ L, ∀ y ∈ M, Far x y)
    (h63 : n + m ≤ maxLen) (hbytes : (n + m) * bytes ≤ 140737488355328) (hbase : b1 ≤ w.heap.size)
    (h : ∀ V' w', OwnW w' b1 b2 V' (n + m) (L ++ M) → w.grownBy w' V.ownBlock → K (a.put o.dst V') w') :
    if Region.wanted o (yielded ops a.tmps) = true then Oper.wp P o a w K Q else E := by
  have hw : Region.wanted o (yielded ops a.tmps) = true := by simp [Region.wanted, hgd]
  rw [if_pos hw]
  obtain ⟨V', w', hrun, h2, h3⟩ := run_append_elsW (P := P) b1 b2 t o.type i z bytes ht hi hz hsize hby hzs V n L hown ad m c M hm hc he hp hf h63 hbytes hbase
  unfold Oper.wp execOp
  simp only [ho, resolve, invoke, builtin, Sem.run_bind, Sem.run_pure, Result.andThen_ok, List.map_toArray, List.map_cons, List.map_nil, hs, hx, hrun]
  exact h V' w' h2 h3
end
def Red0End (w w' : World) (e : Ending) : Prop := ∃ Ap cp Af cf, e = .returned (.tuple #[.slice Ap 0 cp, .slice Af 0 cf]) ∧ Below w.heap.size w w'
set_option maxHeartbeats 3200000 in
theorem spec_l07Reduce0 (P K : Nat) (A : Option Addr) (n c : Nat) (w : World) (hP : P = 0) (hK : K ≤ 24) :
    Calls Tryz.prog 153 #[.agg #[.int .i64 P, .int .i64 K, .slice A n c]] w fun e w' => Red0End w w' e := by
  obtain ⟨W0, hW0⟩ : ∃ W, W = (w.alloc (.cells #[.int .i64 P, .int .i64 K, .slice A n c] 25)) := ⟨_, rfl⟩
  have hm0_0 : Hid (Box W0 (w.heap.size) 25 #[.int .i64 P, .int .i64 K, .slice A n c]) := by rw [hW0]; exact (Box.at' (by simp))
  have BW_0 : Hid (Below w.heap.size w W0) := by rw [hW0]; exact ((Below.refl w.heap.size w).alloc (by simp) _)
  have hsz0 : w.heap.size + 1 ≤ W0.heap.size := by rw [hW0]; simp
  have hp0 : ¬ (0 : Int) < (P : Int) := by omega
  have hK0 : (0 : Int) ≤ (K : Int) := by omega
  clear hP
  go_enter Tryz.func153, Tryz.ntmps153
  go_wp2_with fail
  rw [← hW0]
  clear hW0
  have hb1 : Below W0.heap.size W0 ((W0.alloc (.cells #[] 3)).alloc (.cells #[] 35)) := ((Below.refl _ _).alloc (Nat.le_refl _) _).alloc (by simp) _
  go_loopw [4, 5, 6] (fun x z y wr => ∃ (A1 A2 : Option Addr) (c1 c2 : Nat), x = .slice A1 0 c1 ∧ z = .slice A2 0 c2 ∧ y = .int .i64 (0 : Int) ∧ Hid (Below W0.heap.size W0 wr)) (fun _ _ _ _ => 0)
  case atStart => exact ⟨_, _, _, _, rfl, rfl, rfl, hb1⟩
  case round =>
    obtain ⟨A1, A2, c1, c2, rfl, rfl, rfl, hb⟩ := hrel
    have hm0_1 := Lib.hid (hm0_0.out.below hb.out hm0_0.out.lt)
    have HF : Hid (Red0End w wr (.returned (.tuple #[.slice A1 0 c1, .slice A2 0 c2]))) := ⟨_, _, _, _, rfl, BW_0.out.trans (hb.out.mono BW_0.out.size)⟩
    have ehm00 := hm0_1.out.cell 0
    have ehm01 := hm0_1.out.cell 1
    have ehm02 := hm0_1.out.cell 2
    simp at ehm00 ehm01 ehm02
    by_cases h0 : (0 : Int) < (K : Int)
    · go_wp2_with fail
      go_ret2
      exact HF.out
    · go_wp2_with fail
      go_ret2
      exact HF.out
theorem BesideEnd.nat {P K M Q : Nat} {zs : List RD} {w w' : World} {e : Ending} (h : ∃ A L c, e = .returned (.agg #[.int .i64 P, .int .i64 ((K : Int) + (M : Int)), .slice A (P * (K + M)) c]) ∧ OwnV w' w.heap.size (.slice A (P * (K + M)) c) (P * (K + M)) L ∧ Has L zs ∧ Below w.heap.size w w') (hQ : Q = K + M) :
    ∃ A L c N, N = P * Q ∧ e = .returned (.agg #[.int .i64 P, .int .i64 Q, .slice A N c]) ∧ OwnV w' w.heap.size (.slice A N c) N L ∧ Has L zs ∧ Below w.heap.size w w' := by
  subst hQ
  obtain ⟨A, L, c, rfl, h1, h2, h3⟩ := h
  exact ⟨A, L, c, _, rfl, by rw [Int.natCast_add], h1, h2, h3⟩
end Go.Proofs.YthjbfdifeffilaaGreat
namespace Go.Proofs.YthjbfdifeffilaaGreat
set_option maxRecDepth 100000
open Go.RowKit Go.Deep

theorem est_nil {Q : Nat} (rs : List RD) : ∀ k, est 0 Q rs k = ⟨rs, [], []⟩
  | 0 => rfl
  | k + 1 => by rw [est_succ, est_nil rs k]; exact estep_done (s := ⟨rs, [], []⟩) (fun h => Nat.lt_irrefl _ h.1)
def RedUEnd (base P Q N : Nat) (A : Option Addr) (c : Nat) (rs0 : List RD) (w w' : World) (e : Ending) : Prop :=
  ∃ (s : ES) (L : List El) (Ap Af : Option Addr) (n cp nf cf : Nat), e = .returned (.tuple #[.slice Ap n cp, .slice Af nf cf]) ∧ s = est P Q rs0 Q ∧ s.pv.length = n ∧ n ≤ P ∧ OwnV w' base (.slice A N c) N L ∧ Has L s.rs ∧ Reads w' Ap (ivals s.pv) ∧ Wrote (fun k => ∃ o, A = some ⟨k, o, none⟩) w w'
theorem spec_l07ReduceU (base P Q N : Nat) (A : Option Addr) (c : Nat) (rs0 : List RD) (L0 : List El) (w : World) (ho : OwnV w base (.slice A N c) N L0) (hh : Has L0 rs0) (hN : N = P * Q) (hm : MOk P Q rs0) (hbase : base ≤ w.heap.size) (hQ : 0 < P → 0 < Q) :
    Calls Tryz.prog 153 #[.agg #[.int .i64 P, .int .i64 Q, .slice A N c]] w fun e w' => RedUEnd base P Q N A c rs0 w w' e := by
  rcases Nat.eq_zero_or_pos P with hP | hP
  · refine (spec_l07Reduce0 P Q A N c w hP (mok_24 hm).2).mono ?_
    rintro e w' ⟨Ap, cp, Af, cf, rfl, hb⟩
    subst hP
    exact ⟨_, L0, Ap, Af, 0, cp, 0, cf, rfl, rfl, by rw [est_nil]; rfl, Nat.le_refl _, ho.below hb, by rw [est_nil]; exact hh, by rw [est_nil]; exact .inl rfl, Wrote.of_below hb⟩
  · have hN0 : 0 < N := by rw [hN]; exact Nat.mul_pos hP (hQ hP)
    obtain ⟨G, hA, _, _⟩ := own_at' ho.2.1 hN0
    subst hA
    refine (spec_l07Reduce base G N c P Q rs0 L0 w ho hh hN hm hbase).mono ?_
    rintro e w' ⟨s, L, Lf, Ap, Af, n, cp, nf, cf, rfl, h1, h2, h3, hM, _, hW⟩
    exact ⟨s, L, Ap, Af, n, cp, nf, cf, rfl, h1, h2, h3, hM.own, hM.has, Reads.of_own hM.piv, hW.mono fun k _ hk => ⟨0, by rw [hk]⟩⟩
section
variable {P M : Nat} {rs ss : List RD}
theorem sys_bad (h : ¬ AllOk (sysE P M rs ss).rs) : ¬ SysOk P M rs ss := fun k => h k.1
theorem sys_len {n : Nat} (h : (sysE P M rs ss).pv.length = n) (hn : n < P) : ¬ SysOk P M rs ss := fun k => by
  have h1 := k.2
  rw [h1, List.length_range] at h
  omega
theorem sys_none (hP : P = 0) (h : AllOk (sysE P M rs ss).rs) (hl : (sysE P M rs ss).pv.length ≤ P) : SysOk P M rs ss := by
  subst hP
  exact ⟨h, by rw [List.range_zero]; exact List.eq_nil_of_length_eq_zero (by omega)⟩
theorem sys_last {p z : Nat} (hP : P = p + 1) (h : AllOk (sysE P M rs ss).rs) (hl : (sysE P M rs ss).pv.length = P) (hz : (sysE P M rs ss).pv[p]? = some z) : SysOk P M rs ss ↔ z = p := by
  have hf := firsts (est_asc (P := P) (K := P + M) (besTo P M rs ss P) (P + M)).1 hl
  have e : P - 1 = p := by omega
  rw [e] at hf
  constructor
  · intro k
    have h1 := hf.1 k.2 (by omega)
    have h2 : (sysE P M rs ss).pv[p]? = some p := h1
    rw [hz] at h2
    exact Option.some.inj h2
  · intro hzp
    subst hzp
    exact ⟨h, hf.2 fun _ => hz⟩
end
theorem take_one {α : Type} {L : List α} {t : Nat} {e : α} (h : L[t]? = some e) : (L.drop t).take 1 = [e] := by
  obtain ⟨hlt, he⟩ := List.getElem?_eq_some_iff.1 h
  rw [List.drop_eq_getElem_cons hlt, he]
  simp
/-- What a guard says. -/
def GuardB (b : Bool) (Q : Prop) : Prop := b = true ↔ Q
def SolIs (P M : Nat) (rs ss r : List RD) (ok : Bool) : Prop := (SysOk P M rs ss ∧ r = sysR P M rs ss ∧ ok = true) ∨ (¬ SysOk P M rs ss ∧ r = [] ∧ ok = false)
set_option maxHeartbeats 12800000 in
theorem spec_l07Solve (P : Nat) (A : Option Addr) (n c : Nat) (rs : List RD) (B : Option Addr) (m d : Nat) (vs : List RD) (w : World) (h1 : InV w A n rs) (hm : MOk P P rs) (hcn : n ≤ c) (h2 : InV w B m vs) (hv : MOk P (1 : Nat) vs) (hd : m ≤ d) (hP12 : P ≤ 12) :
    Calls Tryz.prog 99 #[.agg #[.int .i64 P, .int .i64 P, .slice A n c], .slice B m d] w fun e w' => VecOkEnd (SolIs P 1 rs vs) w w' e := by
  obtain ⟨i0, hi, hz0, hz1, hz2⟩ := info_parts Tryz.infoR
  obtain ⟨W0, hW0⟩ : ∃ W, W = (w.alloc (.cells #[.int .i64 P, .int .i64 P, .slice A n c] 25)) := ⟨_, rfl⟩
  have hm0_0 : Hid (Box W0 (w.heap.size) 25 #[.int .i64 P, .int .i64 P, .slice A n c]) := by rw [hW0]; exact (Box.at' (by simp))
  have BW_0 : Hid (Below w.heap.size w W0) := by rw [hW0]; exact ((Below.refl w.heap.size w).alloc (by simp) _)
  have hsz0 : w.heap.size + 1 ≤ W0.heap.size := by rw [hW0]; simp
  have H1 := Lib.hid (h1.below BW_0.out)
  have H2 := Lib.hid (h2.below BW_0.out)
  have hnP : n = P * P := by rw [← h1.1]; exact mok_plen hm
  have hmP : m = P * 1 := by rw [← h2.1]; exact mok_plen hv
  have HNP := Lib.hid hnP
  have HMP := Lib.hid hmP
  have HM := Lib.hid hm
  have HV := Lib.hid hv
  obtain ⟨Q, hQ⟩ : ∃ Q, Q = P + 1 := ⟨_, rfl⟩
  have HQQ := Lib.hid hQ
  have hQ24 : Q ≤ 24 := by omega
  have hP24 : P ≤ 24 := by omega
  have hsz0' := BW_0.out.size
  clear h1 h2 hm hv hnP hmP hQ
  go_enter Tryz.func99, Tryz.ntmps99
  go_wp2_with fail
  rw [← hW0]
  clear hW0
  have ehm00 := hm0_0.out.cell 0
  have ehm01 := hm0_0.out.cell 1
  have ehm02 := hm0_0.out.cell 2
  simp at ehm00 ehm01 ehm02
  go_wp2_with fail
  clear ehm00 ehm01 ehm02
  refine (spec_l07Beside P P A n c rs P 1 B m d vs _ H1.out H2.out HNP.out HMP.out hcn hd HM.out.all HV.out.all hP24 hP24 (by omega)).mono ?_
  rintro e w2 hbe
  obtain ⟨A2, L1, c2, N, hN, rfl, ho, hh, hb⟩ := BesideEnd.nat hbe HQQ.out
  have HNN := Lib.hid hN
  have hN5 : N ≤ 576 := by rw [hN]; exact mul_le_576 hP24 hQ24
  obtain ⟨W3, hW3⟩ : ∃ W, W = w2.alloc (.cells #[.int .i64 P, .int .i64 Q, .slice A2 N c2] 25) := ⟨_, rfl⟩
  have hbx : Below w2.heap.size w2 W3 := by rw [hW3]; exact (Below.refl _ _).alloc (Nat.le_refl _) _
  have X_3 : Hid (Box W3 w2.heap.size 25 #[.int .i64 P, .int .i64 Q, .slice A2 N c2]) := by rw [hW3]; exact Box.new _ _ _
  have O3 := Lib.hid ((ho.lower hsz0').below hbx)
  have HH1 := Lib.hid hh
  have hb := hb.trans (hbx.mono hb.size)
  have hm0_3 := Lib.hid (hm0_0.out.below hb hm0_0.out.lt)
  have BW_3 := Lib.hid (BW_0.out.trans (hb.mono BW_0.out.size))
  clear hb
  have MZ : Hid (MOk P Q (besTo P 1 rs vs P)) := by rw [HQQ.out]; exact besTo_mok HM.out HV.out (by have := HQQ.out; omega)
  have hbase3 : w.heap.size ≤ W3.heap.size := BW_3.out.size
  have hA2 : Hid (∀ k o, A2 = some ⟨k, o, none⟩ → w.heap.size ≤ k ∧ k < w2.heap.size) := by
    rintro k o rfl
    rcases ho.2.1.2 with ⟨hv, _⟩ | ⟨g, cap, cur, hv, h1, h2, _⟩
    · cases hv
    · cases hv; exact ⟨by omega, (Array.getElem?_eq_some_iff.1 h2).1⟩
  clear hbe hN ho hh hbx
  go_wp2_with fail
  rw [← hW3]
  clear hW3
  refine (spec_l07ReduceU w.heap.size P Q N A2 c2 (besTo P 1 rs vs P) L1 _ O3.out HH1.out HNN.out MZ.out hbase3 (fun _ => by have := HQQ.out; omega)).mono ?_
  rintro e w4 ⟨s, L2, Ap, Af, np, cp, nf, cf, rfl, hs, hpl, hnP, ho, hh, hpr, hW⟩
  have hs' : s = sysE P 1 rs vs := by rw [hs, HQQ.out]; rfl
  subst hs'
  have B_4 : Hid (Below w.heap.size w w4) := Wrote.below BW_3.out hW (fun k ⟨o, hk⟩ => (hA2.out k o hk).1) hbase3
  have X_4 : Hid (Box w4 w2.heap.size 25 #[.int .i64 P, .int .i64 Q, .slice A2 N c2]) := (hW.block _ X_3.out.lt (fun ⟨o, hk⟩ => by have := (hA2.out _ o hk).2; omega)).trans X_3.out
  have HPL := Lib.hid hpl
  have O4 := Lib.hid ho
  have HH2 := Lib.hid hh
  have HPR := Lib.hid hpr
  have HEl : Hid ((sysE P 1 rs vs).rs.length = P * Q) := by
    have h1 := (est_good (P := P) (K := Q) MZ.out Q (Nat.le_refl _)).2
    rw [HQQ.out] at h1 ⊢
    exact h1
  have HGE : Hid (Goods (sysE P 1 rs vs).rs) := by
    have h1 := (est_good (P := P) (K := Q) MZ.out Q (Nat.le_refl _)).1
    have h2 : Q = P + 1 := HQQ.out
    subst h2
    exact ⟨by rw [HEl.out, ← HNN.out]; omega, h1⟩
  have HI4 : Hid (InV w4 A2 N (sysE P 1 rs vs).rs) := ho.in_ hh (by omega) HGE.out.fits
  have hpc : Hid ((sysE P 1 rs vs).pv.length ≤ P) := by unfold Hid; omega
  clear hs hpl ho hh hpr hW
  go_upto_region 4 with fail
  go_cut [47] (fun s47 wx => ∃ b, s47 = .bool b ∧ Hid (GuardB b (¬ SysOk P 1 rs vs)) ∧ Hid (Below w4.heap.size w4 wx))
  case first =>
    have ex0 := X_4.out.cell 0
    have ex1 := X_4.out.cell 1
    have ex2 := X_4.out.cell 2
    simp at ex0 ex1 ex2
    go_wp2_with fail
    clear ex0 ex1 ex2
    refine (spec_l05Fine A2 N c2 (sysE P 1 rs vs).rs _ HI4.out HGE.out).mono ?_
    rintro e w5 ⟨b5, rfl, hq5, hb5⟩
    have HB5 := Lib.hid hb5
    have HPR5 : Hid (Reads w5 Ap (ivals (sysE P 1 rs vs).pv)) := HPR.out.below hb5
    cases b5
    case false =>
      have HG : Hid (GuardB true (¬ SysOk P 1 rs vs)) := ⟨fun _ => sys_bad fun h => (by have h1 := hq5.2 h; cases h1), fun _ => rfl⟩
      clear hq5 hb5
      go_wp2_with fail
      go_meet
      exact ⟨_, rfl, HG, HB5⟩
    have HA5 : Hid (AllOk (sysE P 1 rs vs).rs) := hq5.1 rfl
    clear hq5 hb5
    by_cases hlt : np < P
    · have hlt' : (np : Int) < (P : Int) := by omega
      have HG : Hid (GuardB true (¬ SysOk P 1 rs vs)) := ⟨fun _ => sys_len HPL.out hlt, fun _ => rfl⟩
      go_wp2_with fail
      go_meet
      exact ⟨_, rfl, HG, HB5⟩
    have hlt' : ¬ (np : Int) < (P : Int) := by omega
    by_cases hP0 : P = 0
    · have hp0 : ¬ (0 : Int) < (P : Int) := by omega
      have HG : Hid (GuardB false (¬ SysOk P 1 rs vs)) := ⟨fun h => (by cases h), fun h => absurd (sys_none hP0 HA5.out hpc.out) h⟩
      clear hP0
      go_wp2_with fail
      go_meet
      exact ⟨_, rfl, HG, HB5⟩
    · have hp0 : (0 : Int) < (P : Int) := by omega
      obtain ⟨p1, hp1⟩ : ∃ p1, P = p1 + 1 := ⟨P - 1, by omega⟩
      have hsub : (P : Int) - 1 = (p1 : Int) := by omega
      have hlen : (sysE P 1 rs vs).pv.length = P := by have h1 := HPL.out; omega
      have hix : p1 < (sysE P 1 rs vs).pv.length := by omega
      obtain ⟨z, hzz⟩ : ∃ z, (sysE P 1 rs vs).pv[p1] = z := ⟨_, rfl⟩
      have hz : (sysE P 1 rs vs).pv[p1]? = some z := by rw [List.getElem?_eq_getElem hix, hzz]
      obtain ⟨b, o, hAp, hb, hc⟩ := HPR5.out.at_ (by rw [ivals_length]; omega)
      have hcell : w5.cell? ⟨b, o + p1, none⟩ = some (.int .i64 (z : Int)) := (hc p1 (by rw [ivals_length]; exact hix)).trans (by simp [ivals, hzz])
      have HSL := Lib.hid (sys_last hp1 HA5.out hlen hz)
      subst hAp
      have hi0 : (0 : Int) ≤ (p1 : Int) := by omega
      have hi1 : (p1 : Int) < (np : Int) := by omega
      clear hp1 hlen hzz hz hc hP0 hix
      by_cases hzp : z = p1
      · have ht : ((z : Int) != (p1 : Int)) = false := by simp; omega
        have HG : Hid (GuardB false (¬ SysOk P 1 rs vs)) := ⟨fun h => (by cases h), fun h => absurd (HSL.out.2 hzp) h⟩
        clear hzp
        go_wp2_with fail
        go_meet
        exact ⟨_, rfl, HG, HB5⟩
      · have ht : ((z : Int) != (p1 : Int)) = true := by simp; omega
        have HG : Hid (GuardB true (¬ SysOk P 1 rs vs)) := ⟨fun _ => fun h => hzp (HSL.out.1 h), fun _ => rfl⟩
        clear hzp
        go_wp2_with fail
        go_meet
        exact ⟨_, rfl, HG, HB5⟩
  obtain ⟨b47, rfl, hgd, hbh⟩ := hcut
  have hb := hbh.out
  clear hbh
  obtain ⟨w5, rfl⟩ : ∃ q, q = wc := ⟨_, rfl⟩
  have X_5 := Lib.hid (X_4.out.below hb X_4.out.lt)
  have O5 := Lib.hid (O4.out.below hb)
  have B_5 := Lib.hid (B_4.out.trans (hb.mono B_4.out.size))
  clear hb
  cases b47
  case true =>
    have HF : Hid (VecOkEnd (SolIs P 1 rs vs) w w5 (.returned (.tuple #[.slice none 0 0, .bool false]))) := ⟨[], _, false, rfl, .inr ⟨hgd.out.1 rfl, rfl, rfl⟩, resV_nil _ _, B_5.out⟩
    go_wp2_with fail
    go_ret2
    exact HF.out
  have HSY : Hid (SysOk P 1 rs vs) := Classical.byContradiction fun h => (by have h1 := hgd.out.2 h; cases h1)
  have O5w : Hid (OwnW (w5.alloc (.cells #[] 35)) w5.heap.size w.heap.size (.slice (some ⟨w5.heap.size, 0, none⟩) 0 0) 0 []) := ⟨rfl, (OwnV.empty w5).2.1, by simp, by simp⟩
  have hbx : Below w5.heap.size w5 (w5.alloc (.cells #[] 35)) := (Below.refl _ _).alloc (Nat.le_refl _) _
  have X_6 := Lib.hid (X_5.out.below hbx X_5.out.lt)
  have O_6 := Lib.hid (O5.out.below hbx)
  have HBX := Lib.hid hbx
  have hA25 : Hid (∀ k o, A2 = some ⟨k, o, none⟩ → k < w5.heap.size) := fun k o hk => by have h1 := (hA2.out k o hk).2; have h2 := X_5.out.lt; omega
  have hs05 := B_5.out.size
  clear hbx
  go_wp2_with fail
  go_loopw [10, 11] (fun x y wr => ∃ (i : Nat) (L3 : List El) (A3 : Option Addr) (c3 : Nat), i ≤ P ∧ y = .int .i64 i ∧ x = .slice A3 i c3 ∧ Hid (OwnW wr w5.heap.size w.heap.size (.slice A3 i c3) i L3) ∧ Hid (L3 = rt 1 Q P i L2) ∧ Hid (OwnV wr w.heap.size (.slice A2 N c2) N L2) ∧ Hid (Box wr w2.heap.size 25 #[.int .i64 P, .int .i64 Q, .slice A2 N c2]) ∧ Hid (Below w5.heap.size w5 wr)) (fun _ y _ => P - (intOf y).toNat)
  case atStart => exact ⟨0, [], _, _, Nat.zero_le _, rfl, rfl, O5w, rt_zero.symm, O_6, X_6, HBX⟩
  case round =>
    obtain ⟨i, L3, A3, c3, hle, rfl, rfl, hO, hL3, hO2, hX, hb⟩ := hrel
    by_cases hlt : i < P
    · have hi0 : (0 : Int) ≤ (i : Int) := by omega
      have hi1 : (i : Int) < (P : Int) := by omega
      have hQ1 : Q = P + 1 := HQQ.out
      obtain ⟨t, ht⟩ : ∃ t, t = i * Q + P := ⟨_, rfl⟩
      have htN : t < N := by rw [ht, HNN.out]; exact cell_lt hlt (by omega)
      have htl : t < (sysE P 1 rs vs).rs.length := by rw [HEl.out, ← HNN.out]; exact htN
      obtain ⟨r, hr⟩ : ∃ r, (sysE P 1 rs vs).rs[t]? = some r := ⟨_, List.getElem?_eq_getElem htl⟩
      obtain ⟨G, hG, _, hGlt⟩ := own_at' hO2.out.2.1 (by omega)
      subst hG
      obtain ⟨A6, c6, B6, d6, hL, hown, hat⟩ := hO2.out.elr HH2.out hr
      have hrk : r.ok := HSY.out.1 _ (List.mem_of_getElem? hr)
      have hx24 : r.xs.length ≤ 24 := hrk.2.2.2.2.1
      have hd24 : r.ds.length ≤ 24 := hrk.2.2.2.2.2
      have HT := Lib.hid ht
      have HLT := Lib.hid hL
      have HOW := Lib.hid hown
      have hat' : At3 wr G (0 + t * 3) (.bool r.g) (.slice A6 r.xs.length c6) (.slice B6 r.ds.length d6) := by rw [Nat.zero_add]; exact hat
      have HAT := Lib.hid hat'
      have hN20 : N ≤ 1048576 := by omega
      have HG5 : Hid (G < w5.heap.size) := hA25.out G 0 rfl
      have hGw : G < wr.heap.size := hGlt
      have ex0 := hX.out.cell 0
      have ex1 := hX.out.cell 1
      have ex2 := hX.out.cell 2
      simp at ex0 ex1 ex2
      clear hr hL hown hat hat' hrk htl ht hQ1
      go_wp2_with fail
      clear ex0 ex1 ex2
      refine (spec_l06AtC P Q i P t G 0 N c2 r.g A6 r.xs.length c6 B6 r.ds.length d6 _ HT.out.symm htN hN20 HAT.out (by omega) (by omega) hGw (by omega) hQ24).mono ?_
      rintro e w6 ⟨rfl, hb6⟩
      obtain ⟨W7, hW7⟩ : ∃ W, W = w6.alloc (.cells #[.bool r.g, .slice A6 r.xs.length c6, .slice B6 r.ds.length d6] 35) := ⟨_, rfl⟩
      have hbx : Below wr.heap.size wr W7 := by rw [hW7]; exact hb6.alloc hb6.size _
      have O7 := Lib.hid (hO.out.below hbx)
      have P7 := Lib.hid (hO2.out.below hbx)
      have X7 := Lib.hid (hX.out.below hbx hX.out.lt)
      have E7 := Lib.hid (HOW.out.dep fun k hk => hbx.block k (HOW.out.lt k hk).2 : (qEl r A6 c6 B6 d6).own W7 w.heap.size)
      have B7 := Lib.hid (hb.out.trans (hbx.mono hb.out.size))
      have hcc : ∀ j u, (flat [qEl r A6 c6 B6 d6])[j]? = some u → W7.cell? ((⟨w6.heap.size, 0, none⟩ : Addr).add j) = some u := fun j u hju => by
        rw [Addr.add_lit, Nat.zero_add, hW7]
        have hbx6 := Box.new w6 35 #[.bool r.g, .slice A6 r.xs.length c6, .slice B6 r.ds.length d6]
        rw [flat_one] at hju
        rw [hbx6.cell j]
        simpa [qEl] using hju
      have HCC := Lib.hid hcc
      have HFA : Hid (∀ x ∈ L3, ∀ y ∈ [qEl r A6 c6 B6 d6], Far x y) := by
        have h1 := (rt_far (k := 1) (K := Q) (o := P) (i := i) hO2.out.2.2.2 (by have := HQQ.out; omega)).1
        rw [← HT.out, take_one HLT.out] at h1
        rw [hL3.out]
        exact h1
      have HL4 : Hid (L3 ++ [qEl r A6 c6 B6 d6] = rt 1 Q P (i + 1) L2) := by
        unfold Hid
        rw [rt_succ, ← HT.out, take_one HLT.out, hL3.out]
      have hs57 : w5.heap.size ≤ W7.heap.size := B7.out.size
      clear hb6 hbx hcc
      go_wp2_with (at_builtin; (try rw [← hW7]); refine wpList_append_elsW rfl _ _ 23 rfl w5.heap.size w.heap.size i0 (.agg #[.bool false, .slice none 0 0, .slice none 0 0]) 56 Tryz.underlying23 hi hz0 hz1 hz2 rfl _ i L3 rfl O7.out ⟨w6.heap.size, 0, none⟩ 1 1 [qEl r A6 c6 B6 d6] rfl rfl HCC.out (by intro y hy; rw [List.mem_singleton] at hy; subst hy; exact E7.out) (List.pairwise_singleton _ _) HFA.out (by unfold maxLen; omega) (by omega) hs57 ?_)
      intro V' w8 s1 hg
      obtain ⟨A5, c5, rfl⟩ := s1.slice
      replace hg : W7.grownBy w8 (Value.slice A3 i c3).ownBlock := by rw [hW7]; exact hg
      have O8 := Lib.hid s1
      have P8 := Lib.hid (P7.out.beside O7.out hg HG5.out)
      have X8 : Hid (Box w8 w2.heap.size 25 #[.int .i64 P, .int .i64 Q, .slice (some ⟨G, 0, none⟩) N c2]) := X7.out.grown hg (fun e => by have h1 := (O7.out.2.1.lt _ e.symm).1; have h2 := X_5.out.lt; omega)
      have B8 := Lib.hid (B7.out.grown hg B7.out.size (fun k hk => (O7.out.2.1.lt k hk).1))
      clear s1 hg hW7
      go_wp2_with fail
      go_roundw
      case rel => exact ⟨i + 1, _, A5, c5, by omega, by go_num, rfl, O8, HL4, P8, X8, B8⟩
      case measure => simp [intOf]; omega
    · obtain rfl : i = P := by omega
      have hlen2 : L2.length = N := hO2.out.1
      have HRL : Hid ((sysR i 1 rs vs).length = i) := by
        have h1 : (sysE i 1 rs vs).rs.length = i * (i + 1) := by rw [HEl.out, HQQ.out]
        have h2 := sysR_length h1
        rw [Nat.mul_one] at h2
        exact h2
      have HHF : Hid (Has L3 (sysR i 1 rs vs)) := by
        rw [hL3.out]
        have h1 := HH2.out.rt 1 Q i i
        unfold sysR
        rw [HQQ.out] at h1 ⊢
        exact h1
      have HF : Hid (VecOkEnd (SolIs i 1 rs vs) w wr (.returned (.tuple #[.slice A3 i c3, .bool true]))) := ⟨_, _, true, rfl, .inl ⟨HSY.out, rfl, rfl⟩, resV_mk ⟨by rw [HRL.out]; omega, fun x hx => .inl (sysR_ok HSY.out x hx)⟩ HRL.out (hO.out.ownV hs05 (Nat.le_refl _)) HHF.out, B_5.out.trans (hb.out.mono B_5.out.size)⟩
      go_wp2_with fail
      go_ret2
      exact HF.out
end Go.Proofs.YthjbfdifeffilaaGreat
