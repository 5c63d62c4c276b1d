/- Contracts of the elimination: which columns the pivots are in (data; the program's areFirstColumns and slices.Contains, the model's l07Has). -/
import Derived.Test.YtdehcddjkcpnfaaGreatElimR
import Derived.Test.YtdehcddjkcpnfaaGreatElimM
import Derived.Test.YtdehcddjkcpnfaaGreatMatK
import Derived.Deep.DeepCutAuto
import Derived.Test.YtdehcddjkcpnfaaGreatMatI
import Derived.Deep.RegionLaw
namespace Go.Proofs.YtdehcddjkcpnfaaGreat
set_option maxRecDepth 100000
open Go.RowKit

section
variable {pv : List Nat}
end
def HasEnd (zs : List Nat) (x : Nat) (w w' : World) (e : Ending) : Prop := ∃ b, e = .returned (.bool b) ∧ (b = true ↔ x ∈ zs) ∧ w = w'
def IndexNEnd (zs : List Nat) (x : Nat) (w w' : World) (e : Ending) : Prop := ∃ k : Int, e = .returned (.int .i64 k) ∧ (-1 ≤ k ∧ k ≤ zs.length) ∧ (0 ≤ k ↔ x ∈ zs) ∧ w = w'
def FirstEnd (zs : List Nat) (k : Nat) (w w' : World) (e : Ending) : Prop := ∃ b, e = .returned (.bool b) ∧ (b = true ↔ zs = List.range k) ∧ w = w'
end Go.Proofs.YtdehcddjkcpnfaaGreat
namespace Go.Proofs.YtdehcddjkcpnfaaGreat
set_option maxRecDepth 100000
open Go.RowKit Go.Deep

theorem els_one_cell {w : World} {base : Nat} {M : List El} (h : ∀ y ∈ M, y.own w base) : ∀ v ∈ flat M, v.oneCell' = true := by
  intro v hv
  obtain ⟨e, he, hv⟩ := List.mem_flatMap.1 hv
  obtain ⟨A, c, hA⟩ := own_slice (h e he).1
  obtain ⟨B, d, hB⟩ := own_slice (h e he).2.1
  simp only [El.cells, List.mem_cons, List.not_mem_nil, or_false] at hv
  rcases hv with rfl | rfl | rfl
  · rfl
  · rw [hA]; rfl
  · rw [hB]; rfl
theorem OwnV.appends {w w' : World} {base n m : Nat} {V V' : Value} {L M : List El} (h : OwnV w base V n L) (hm : M.length = m) (ho : w'.ownsRow base 30 3 V' (n + m) (flat L ++ flat M)) (hg : w.grownBy w' V.ownBlock) (he : ∀ y ∈ M, y.own w base) (hp : M.Pairwise Far) (hf : ∀ x ∈ L, ∀ y ∈ M, Far x y) : OwnV w' base V' (n + m) (L ++ M) := by
  refine ⟨by rw [List.length_append, h.1, hm], by rw [flat_append]; exact ho, fun x hx => ?_, List.pairwise_append.2 ⟨h.2.2.2, hp, hf⟩⟩
  have key : x.own w base := by
    rcases List.mem_append.1 hx with hx | hx
    · exact h.2.2.1 x hx
    · exact he x hx
  exact key.dep fun k hk => hg.block k (key.lt k hk).2 fun e => el_other key h.2.1 (by decide) k hk e.symm
section
variable {P : Program} {w : World} {ops : Array Oper} {o : Oper} {a : Act}
theorem run_append_els (base : Nat) (t ty : TypeId) (i : TypeInfo) (z : Value) (bytes : Nat) (ht : P.underlying t = some (.slice 30)) (hi : P.info? 30 = some i) (hz : i.zero = some z) (hsize : i.size = 3) (hby : i.bytes = bytes) (hzs : z.cells.size = 3)
    (V : Value) (n : Nat) (L : List El) (hown : OwnV w base V n L) (ad : Addr) (m c : Nat) (M : List El) (hm : M.length = m) (hc : ∀ j u, (flat M)[j]? = some u → w.cell? (ad.add j) = some u) (he : ∀ y ∈ M, y.own w base) (hp : M.Pairwise Far) (hf : ∀ x ∈ L, ∀ y ∈ M, Far x y)
    (h63 : n + m ≤ maxLen) (hbytes : (n + m) * bytes ≤ 140737488355328) (hbase : base ≤ w.heap.size) :
    ∃ V' w', (Builtin.append_ #[t, t] ty #[V, .slice (some ad) m c]).run P w = .ok V' w' ∧ OwnV w' base V' (n + m) (L ++ M) ∧ w.grownBy w' V.ownBlock := by
  obtain ⟨V', w', hrun, h2, h3, _⟩ := run_append_own (P := P) w base t ty 30 i z 3 bytes ht hi hz hsize hby hzs (by decide) V n (flat L) hown.2.1 ad m c (flat M) (by rw [flat_length, hm]) hc (els_one_cell he) h63 hbytes hbase
  exact ⟨V', w', hrun, hown.appends hm h2 h3 he hp hf, h3⟩
end
/-- The cells of some elements of a list of the call's own, as the source of an append. -/
theorem OwnV.source {w : World} {base G n c : Nat} {L M : List El} {j : Nat} (h : OwnV w base (.slice (some ⟨G, 0, none⟩) n c) n L) (hM : ∀ i, i < M.length → M[i]? = L[j + i]?) : ∀ k u, (flat M)[k]? = some u → w.cell? ((⟨G, j * 3, none⟩ : Addr).add k) = some u := by
  intro k u hu
  obtain ⟨hlt, _⟩ := List.getElem?_eq_some_iff.1 hu
  rw [flat_length] at hlt
  have hi : k / 3 < M.length := by omega
  have hL : j + k / 3 < L.length := by
    have h1 := hM _ hi
    rw [List.getElem?_eq_getElem hi] at h1
    exact (List.getElem?_eq_some_iff.1 h1.symm).1
  have he : M[k / 3] = L[j + k / 3] := by
    have h1 := hM _ hi
    rw [List.getElem?_eq_getElem hi, List.getElem?_eq_getElem hL] at h1
    exact Option.some.inj h1
  obtain ⟨m0, m1, m2⟩ := flat_at M (k / 3) hi
  obtain ⟨c0, c1, c2⟩ := h.cells hL
  rw [Addr.add_lit]
  rw [← he] at c0 c1 c2
  have h3 : k % 3 = 0 ∨ k % 3 = 1 ∨ k % 3 = 2 := by omega
  rcases h3 with h3 | h3 | h3
  · rw [show k = k / 3 * 3 by omega, m0] at hu
    rw [show j * 3 + k = (j + k / 3) * 3 by omega, c0, hu]
  · rw [show k = k / 3 * 3 + 1 by omega, m1] at hu
    rw [show j * 3 + k = (j + k / 3) * 3 + 1 by omega, c1, hu]
  · rw [show k = k / 3 * 3 + 2 by omega, m2] at hu
    rw [show j * 3 + k = (j + k / 3) * 3 + 2 by omega, c2, hu]
end Go.Proofs.YtdehcddjkcpnfaaGreat
namespace Go.Proofs.YtdehcddjkcpnfaaGreat
set_option maxRecDepth 100000
open Go.RowKit

/-- Of a list of rows of K elements: k elements of each row from number o on, the first i rows. -/
def rt {α : Type} (k K o i : Nat) (L : List α) : List α := (List.range i).flatMap fun t => (L.drop (t * K + o)).take k
section
variable {α : Type} {k K o i : Nat} {L : List α}
theorem rt_succ : rt k K o (i + 1) L = rt k K o i L ++ (L.drop (i * K + o)).take k := by simp [rt, List.range_succ, List.flatMap_append]
end
theorem Has.rt {L : List El} {rs : List RD} (h : Has L rs) (k K o : Nat) : ∀ i, Has (rt k K o i L) (rt k K o i rs)
  | 0 => trivial
  | i + 1 => by rw [rt_succ, rt_succ]; exact (Has.rt h k K o i).append ((h.drop _).take _)
/-- The rows of two matrices side by side, the first i of them. -/
def besTo (K M : Nat) (rs ss : List RD) (i : Nat) : List RD := (List.range i).flatMap fun a => mrow K rs a ++ mrow M ss a
/-- What is left of a matrix beside another one behind the elimination. -/
noncomputable def sysE (P M : Nat) (rs ss : List RD) : ES := est P (P + M) (besTo P M rs ss P) (P + M)
/-- The system has one solution, and no number was too large. -/
def SysOk (P M : Nat) (rs ss : List RD) : Prop := AllOk (sysE P M rs ss).rs ∧ (sysE P M rs ss).pv = List.range P
noncomputable def sysR (P M : Nat) (rs ss : List RD) : List RD := rt M (P + M) P P (sysE P M rs ss).rs
/-- The elements of the identity matrix of P rows. -/
def InverseIs (p k : Int) (rs : List RD) (q j : Int) (r : List RD) (b : Bool) : Prop :=
  (((MOk p k rs ∧ p = k ∧ p ≤ 12) ∧ SysOk p.toNat p.toNat rs (ident p.toNat)) ∧ q = p ∧ j = p ∧ r = sysR p.toNat p.toNat rs (ident p.toNat) ∧ b = true) ∨
    (¬ ((MOk p k rs ∧ p = k ∧ p ≤ 12) ∧ SysOk p.toNat p.toNat rs (ident p.toNat)) ∧ q = 0 ∧ j = 0 ∧ r = [] ∧ b = false)
def SolveSystemIs (p k : Int) (rs v r : List RD) (b : Bool) : Prop :=
  (((MOk p k rs ∧ p = k ∧ p ≤ 12 ∧ VOk v ∧ (v.length : Int) = p) ∧ SysOk p.toNat 1 rs v) ∧ r = sysR p.toNat 1 rs v ∧ b = true) ∨
    (¬ ((MOk p k rs ∧ p = k ∧ p ≤ 12 ∧ VOk v ∧ (v.length : Int) = p) ∧ SysOk p.toNat 1 rs v) ∧ r = [] ∧ b = false)
end Go.Proofs.YtdehcddjkcpnfaaGreat
namespace Go.Proofs.YtdehcddjkcpnfaaGreat
set_option maxRecDepth 100000
open Go.RowKit Go.Deep

/-- What an element holds: its limbs lie where they lay in world w0. -/
def RefE (w0 : World) (e : El) (r : RD) : Prop := e.g = r.g ∧ (∃ A n c, e.v = .slice A n c ∧ InI w0 A n r.xs ∧ Room A n c) ∧ ∃ B m d, e.u = .slice B m d ∧ InI w0 B m r.ds ∧ Room B m d
def Refs (w0 : World) : List El → List RD → Prop
  | [], [] => True
  | e :: L, r :: rs => RefE w0 e r ∧ Refs w0 L rs
  | _, _ => False
section
variable {w0 w w' : World}
theorem Refs.length : ∀ {L : List El} {rs : List RD}, Refs w0 L rs → L.length = rs.length
  | [], [], _ => rfl
  | e :: L, r :: rs, h => by simp [Refs.length h.2]
theorem Refs.at_ : ∀ {L : List El} {rs : List RD}, Refs w0 L rs → ∀ j (h : j < L.length) (k : j < rs.length), RefE w0 L[j] rs[j]
  | e :: L, r :: rs, h, 0, _, _ => h.1
  | e :: L, r :: rs, h, j + 1, hj, hk => Refs.at_ h.2 j (by simpa using hj) (by simpa using hk)
theorem Refs.append : ∀ {L M : List El} {rs ss : List RD}, Refs w0 L rs → Refs w0 M ss → Refs w0 (L ++ M) (rs ++ ss)
  | [], _, [], _, _, k => k
  | _ :: _, _, _ :: _, _, h, k => ⟨h.1, Refs.append h.2 k⟩
theorem Refs.take : ∀ {L : List El} {rs : List RD} (o : Nat), Refs w0 L rs → Refs w0 (L.take o) (rs.take o)
  | [], [], _, _ => by simp [Refs]
  | _ :: _, _ :: _, 0, _ => by simp [Refs]
  | _ :: _, _ :: _, o + 1, h => ⟨h.1, Refs.take o h.2⟩
theorem Refs.drop : ∀ {L : List El} {rs : List RD} (o : Nat), Refs w0 L rs → Refs w0 (L.drop o) (rs.drop o)
  | [], [], _, _ => by simp [Refs]
  | _ :: _, _ :: _, 0, h => h
  | _ :: _, _ :: _, o + 1, h => Refs.drop o h.2
/-- Block G holds the elements L. -/
def Row (w0 w : World) (G N : Nat) (L : List El) : Prop := w0.heap.size ≤ G ∧ G < w.heap.size ∧ L.length = N ∧ w.heap[G]? = some (.cells (flat L).toArray 30 (0, 0)) ∧ Below w0.heap.size w0 w
theorem Row.below {G N : Nat} {L : List El} (h : Row w0 w G N L) (hb : Below w.heap.size w w') : Row w0 w' G N L :=
  ⟨h.1, Nat.lt_of_lt_of_le h.2.1 hb.size, h.2.2.1, (hb.block G h.2.1).trans h.2.2.2.1, h.2.2.2.2.trans (hb.mono h.2.2.2.2.size)⟩
theorem Row.in_ {G N : Nat} {L : List El} {rs : List RD} (h : Row w0 w G N L) (hr : Refs w0 L rs) (hN : N ≤ 1048576) : InV w (some ⟨G, 0, none⟩) N rs := by
  obtain ⟨h1, h2, h3, h4, h5⟩ := h
  have hl := hr.length
  refine ⟨by omega, hN, .inr ⟨G, 0, rfl, h2, fun j hj => ?_⟩⟩
  have hjL : j < L.length := by omega
  obtain ⟨c0, c1, c2⟩ := flat_at L j hjL
  obtain ⟨e0, ⟨A, n, c, e1, i1, r1⟩, ⟨B, m, d, e2, i2, r2⟩⟩ := hr.at_ j hjL hj
  have key : ∀ k v, (flat L)[k]? = some v → w.cell? ⟨G, k, none⟩ = some v := fun k v hv => by
    simp [World.cell?, h4, hv]
  rw [Nat.zero_add]
  refine ⟨A, n, c, B, m, d, ?_, ?_, ?_, i1.below h5, r1, i2.below h5, r2⟩
  · rw [key _ _ c0, e0]
  · rw [key _ _ c1, e1]
  · rw [key _ _ c2, e2]
/-- A new list of zero values. -/
theorem Row.of_own {G N c : Nat} {n0 : Nat} (ho : OwnV w n0 (.slice (some ⟨G, 0, none⟩) N c) N (List.replicate N El.zero)) (hc : c = N) (hn : w0.heap.size ≤ n0) (hb : Below w0.heap.size w0 w) : Row w0 w G N (List.replicate N El.zero) := by
  subst hc
  rcases ho.2.1.2 with ⟨hv, _⟩ | ⟨g, cap, cur, hv, h1, h2, h3, h4, h5, h6⟩
  · cases hv
  · cases hv
    refine ⟨by omega, (Array.getElem?_eq_some_iff.1 h2).1, by simp, ?_, hb⟩
    have e : cur = (flat (List.replicate c El.zero)).toArray := by
      rw [← h6]
      have : cur.toList.take (c * 3) = cur.toList := List.take_of_length_le (by simp; omega)
      rw [this]
    rw [h2, e]
theorem Refs.one : ∀ {L : List El} {rs : List RD}, Refs w0 L rs → ∀ v ∈ flat L, v.oneCell' = true
  | [], [], _, v, hv => by simp [flat] at hv
  | e :: L, r :: rs, h, v, hv => by
    obtain ⟨_, ⟨A, n, c, e1, _, _⟩, ⟨B, m, d, e2, _, _⟩⟩ := h.1
    rw [flat_cons, e1, e2] at hv
    simp only [List.mem_cons] at hv
    rcases hv with rfl | rfl | rfl | hv
    · rfl
    · rfl
    · rfl
    · exact Refs.one h.2 v hv
theorem Row.splice {G N o m : Nat} {L M : List El} (h : Row w0 w G N L) (hm : M.length = m) (ho : o + m ≤ N) (hw : w' = w.setRow G ((flat L).toArray.toList.take (o * 3) ++ flat M ++ (flat L).toArray.toList.drop (o * 3 + (flat M).length)).toArray) :
    Row w0 w' G N (L.take o ++ M ++ L.drop (o + m)) ∧ Wrote (fun k => k = G) w w' := by
  subst hw
  obtain ⟨h1, h2, h3, h4, h5⟩ := h
  refine ⟨⟨h1, by simpa [World.setRow] using h2, by simp only [List.length_append, List.length_take, List.length_drop]; omega, ?_, below_setRow h5 h1 _⟩, ⟨rfl, rfl, rfl, by simp [World.setRow], fun j _ hj => setRow_other w G j _ hj⟩⟩
  rw [setRow_heap w G _ _ _ _ h4, List.toList_toArray, flat_append, flat_append, flat_take, flat_drop, flat_length, hm, Nat.add_mul]
end
section
variable {P : Program} {w0 w : World} {ops : Array Oper} {o : Oper} {a : Act}
end
end Go.Proofs.YtdehcddjkcpnfaaGreat
