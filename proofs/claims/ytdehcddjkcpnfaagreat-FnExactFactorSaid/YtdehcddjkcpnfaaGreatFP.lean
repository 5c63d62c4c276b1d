/- The factoring, by the program: what the iterator over the rows and the loop over it hold, as one state. -/
import Derived.Test.YtdehcddjkcpnfaaGreatFacI
import Derived.Test.YtdehcddjkcpnfaaGreatFA
import Derived.Test.YtdehcddjkcpnfaaGreatEA
import Derived.Test.YtdehcddjkcpnfaaGreatElS1
import Derived.Test.YtdehcddjkcpnfaaGreatMatI
import Derived.Test.YtdehcddjkcpnfaaGreatMatI3
import Derived.Test.YtdehcddjkcpnfaaGreatSymI
import Derived.Test.YtdehcddjkcpnfaaGreatRange
import Derived.OwnWalkIn
import Derived.Test.YtdehcddjkcpnfaaGreatMakeF
import Derived.Test.YtdehcddjkcpnfaaGreatTA
import Derived.Test.YtdehcddjkcpnfaaGreatMatMem
import Derived.RangeFuncLeaves
import Derived.WalkKit
import Derived.TacticsInMore
import Derived.LoopIn
namespace Go.Proofs.YtdehcddjkcpnfaaGreat
set_option maxRecDepth 100000
open Go.RowKit

/-! The block of a list that has been appended to: the old one, or a new one. -/
section
variable {P : Program} {w : World}
theorem run_append_blk (t ty e : TypeId) (i : TypeInfo) (z : Value) (size bytes base : Nat) (ht : P.underlying t = some (.slice e)) (hi : P.info? e = some i) (hz : i.zero = some z)
    (hsize : i.size = size) (hby : i.bytes = bytes) (hzs : z.cells.size = size) (_hsz : 0 < size)
    (v : Value) (n : Nat) (xs : List Value) (hown : w.ownsRow base e size v n xs)
    (a : Addr) (m c : Nat) (news : List Value) (hl : news.length = m * size) (hnews : ∀ j u, news[j]? = some u → w.cell? (a.add j) = some u) (h1 : ∀ u ∈ news, u.oneCell' = true)
    (h63 : n + m ≤ maxLen) (hbytes : (n + m) * bytes ≤ 140737488355328) :
    ∃ v' w', (Builtin.append_ #[t, t] ty #[v, .slice (some a) m c]).run P w = .ok v' w' ∧ ∀ k, v'.ownBlock = some k → v.ownBlock = some k ∨ k = w.heap.size := by
  subst hsize
  subst hby
  have hsmall : n + m ≤ 9223372036854775807 := by simp only [maxLen] at h63; omega
  rcases hown.2 with ⟨rfl, rfl⟩ | ⟨g, cap, cur, rfl, hbg, hg, hnc, hcm, hcs, htake⟩
  · by_cases hm : m = 0
    · subst hm
      refine ⟨.slice none 0 0, w, ?_, fun k hk => .inl hk⟩
      have hn : news = [] := List.eq_nil_of_length_eq_zero (by simpa using hl)
      subst hn
      simp [Builtin.append_, run_underlying ht, sizeOf, typeInfo, hi, Builtin.lenOf, Builtin.firstCells, loadCells, loadCellsFrom]
    · have hr := run_append_nil (P := P) w t ty e i z ht hi hz a m c news hl hnews (by omega) (by omega) (by have hb := hbytes; simp only [Nat.zero_add] at hb; omega)
      exact ⟨_, _, hr, fun k hk => .inr (by simpa [Value.ownBlock] using hk.symm)⟩
  · by_cases hroom : n + m ≤ cap
    · have hfit : n * i.size + news.length ≤ cur.size := by rw [hl, hcs, ← Nat.add_mul]; exact Nat.mul_le_mul_right _ hroom
      have hr := run_append_room (P := P) w t ty e i ht hi g n cap cur hg a m c news hl hnews h1 hroom hfit
      exact ⟨_, _, hr, fun k hk => .inl hk⟩
    · have holds : ∀ j u, xs[j]? = some u → w.cell? ((⟨g, 0, none⟩ : Addr).add j) = some u := hown.cells (g := g) rfl
      have hr := run_append_grow (P := P) w t ty e i z ht hi hz ⟨g, 0, none⟩ n cap xs hown.1 holds a m c news hl hnews (by omega) (by omega) (growslice_fits (by omega) hbytes)
      exact ⟨_, _, hr, fun k hk => .inr (by simpa [Value.ownBlock] using hk.symm)⟩
theorem run_append_els2 (base : Nat) (t ty : TypeId) (i : TypeInfo) (z : Value) (bytes : Nat) (ht : P.underlying t = some (.slice 30)) (hi : P.info? 30 = some i) (hz : i.zero = some z) (hsize : i.size = 3) (hby : i.bytes = bytes) (hzs : z.cells.size = 3)
    (V : Value) (n : Nat) (L : List El) (hown : OwnV w base V n L) (ad : Addr) (m c : Nat) (M : List El) (hm : M.length = m) (hc : ∀ j u, (flat M)[j]? = some u → w.cell? (ad.add j) = some u) (he : ∀ y ∈ M, y.own w base) (hp : M.Pairwise Far) (hf : ∀ x ∈ L, ∀ y ∈ M, Far x y)
    (h63 : n + m ≤ maxLen) (hbytes : (n + m) * bytes ≤ 140737488355328) (hbase : base ≤ w.heap.size) :
    ∃ V' w', (Builtin.append_ #[t, t] ty #[V, .slice (some ad) m c]).run P w = .ok V' w' ∧ OwnV w' base V' (n + m) (L ++ M) ∧ w.grownBy w' V.ownBlock ∧ ∀ k, V'.ownBlock = some k → V.ownBlock = some k ∨ k = w.heap.size := by
  obtain ⟨V', w', h1, h2, h3⟩ := run_append_els (P := P) (w := w) base t ty i z bytes ht hi hz hsize hby hzs V n L hown ad m c M hm hc he hp hf h63 hbytes hbase
  obtain ⟨V2, w2, k1, k2⟩ := run_append_blk (P := P) (w := w) t ty 30 i z 3 bytes base ht hi hz hsize hby hzs (by decide) V n (flat L) hown.2.1 ad m c (flat M) (by rw [flat_length, hm]) hc (els_one_cell he) h63 hbytes
  rw [h1] at k1
  cases k1
  exact ⟨V', w', h1, h2, h3, k2⟩
theorem wpListIn_append_els {F : Fence} {fu : Nat} {ops : Array Oper} {rest : List Oper} {o : Oper} {a : Act} {Q : Exit → Act → World → Prop} (hgd : o.guard = none) (s x : Operand) (t : TypeId) (ho : o.op = .call { callee := .builtin .append, args := #[s, x], argTypes := #[t, t] })
    (base : Nat) (i : TypeInfo) (z : Value) (bytes : Nat) (ht : P.underlying t = some (.slice 30)) (hi : P.info? 30 = some i) (hz : i.zero = some z) (hsize : i.size = 3) (hby : i.bytes = bytes) (hzs : z.cells.size = 3)
    (V : Value) (n : Nat) (L : List El) (hs : a.eval s = V) (hown : OwnV w base V n L) (ad : Addr) (m c : Nat) (M : List El) (hx : a.eval x = .slice (some ad) m c) (hm : M.length = m) (hc : ∀ j u, (flat M)[j]? = some u → w.cell? (ad.add j) = some u) (he : ∀ y ∈ M, y.own w base) (hp : M.Pairwise Far) (hf : ∀ x ∈ L, ∀ y ∈ M, Far x y)
    (h63 : n + m ≤ maxLen) (hbytes : (n + m) * bytes ≤ 140737488355328) (hbase : base ≤ w.heap.size)
    (h : ∀ V' w', OwnV w' base V' (n + m) (L ++ M) → w.grownBy w' V.ownBlock → (∀ k, V'.ownBlock = some k → V.ownBlock = some k ∨ k = w.heap.size) → wpListIn F fu P ops Q rest (a.put o.dst V') w') :
    wpListIn F fu P ops Q (o :: rest) a w := by
  refine wpListIn_plain hgd fun K hK' => ?_
  obtain ⟨v', w', hrun, r1, r2, r3⟩ := run_append_els2 (P := P) (w := w) base t o.type i z bytes ht hi hz hsize hby hzs V n L hown ad m c M hm hc he hp hf h63 hbytes hbase
  unfold Oper.wpIn
  refine ⟨?_, ?_⟩
  · simp [Oper.about, ho, resolve, Target.leads, Sem.run_pure]
  · rw [Oper.semAt_plain F _ _ (by rw [ho]; intro c hc'; cases hc')]
    simp [execOp, ho, resolve, invoke, builtin, hs, hx, hrun, Result.andThen]
    exact hK' _ _ (h v' w' r1 r2 r3)
end

/-! Data. -/
noncomputable def numP (n : Nat) (rs : List RD) (i : Nat) : List RD := (List.range n).map fun t => if t < i then fD n rs t else RD.zero
def rowsP (i k : Nat) : Nat → Nat → Bool := fun r c => decide (r < i ∨ (r = i ∧ c < k))
theorem numP_length (n : Nat) (rs : List RD) (i : Nat) : (numP n rs i).length = n := by simp [numP]
theorem numP_at {n : Nat} {rs : List RD} {i t : Nat} (h : t < n) : (numP n rs i)[t]? = some (if t < i then fD n rs t else RD.zero) := by simp [numP, h]
theorem numP_zero (n : Nat) (rs : List RD) : numP n rs 0 = List.replicate n RD.zero := by
  apply List.ext_getElem?
  intro t
  by_cases h : t < n
  · rw [numP_at h, if_neg (Nat.not_lt_zero t), List.getElem?_replicate, if_pos h]
  · rw [List.getElem?_eq_none (by rw [numP_length]; omega), List.getElem?_eq_none (by rw [List.length_replicate]; omega)]
theorem numP_set {n : Nat} {rs : List RD} {i : Nat} (h : i < n) : (numP n rs i).set i (fD n rs i) = numP n rs (i + 1) := by
  apply List.ext_getElem?
  intro t
  rw [List.getElem?_set]
  by_cases ht : t < n
  · rw [numP_at ht, numP_at ht]
    by_cases e : i = t
    · subst e; rw [if_pos rfl, if_pos (by rw [numP_length]; exact h), if_pos (by omega)]
    · rw [if_neg e]
      by_cases e2 : t < i
      · rw [if_pos e2, if_pos (by omega)]
      · rw [if_neg e2, if_neg (by omega)]
  · rw [List.getElem?_eq_none (by rw [numP_length]; omega), List.getElem?_eq_none (by rw [numP_length]; omega), if_neg (by omega)]
theorem numP_full (n : Nat) (rs : List RD) : numP n rs n = numF n rs := by
  apply List.ext_getElem?
  intro t
  by_cases ht : t < n
  · rw [numP_at ht, if_pos ht]; simp [numF, ht]
  · rw [List.getElem?_eq_none (by rw [numP_length]; omega), List.getElem?_eq_none (by rw [numF_length]; omega)]
theorem fD_good (n : Nat) (rs : List RD) (k : Nat) (h : ∀ r ∈ rs, r.ok) (hl : rs.length = n * n) (hk : k < n) : (fD n rs k).ok ∨ fD n rs k = RD.zero := by
  rw [fD_eq]
  exact restF_good (.inl (h _ (cell_mem hl hk hk))) _
theorem numP_good {n : Nat} {rs : List RD} {i : Nat} (h : ∀ r ∈ rs, r.ok) (hl : rs.length = n * n) : ∀ x ∈ numP n rs i, x.ok ∨ x = RD.zero := fun x hx => by
  obtain ⟨t, ht, rfl⟩ := List.mem_map.1 hx
  split
  · exact fD_good n rs t h hl (List.mem_range.1 ht)
  · exact .inr rfl
theorem rowsP_next {n : Nat} {rs : List RD} {i : Nat} : lowP n rs (rowsP i i) = lowP n rs (rowsP (i + 1) 0) := lowP_congr fun r c _ hc => by
  unfold rowsP; simp only [decide_eq_decide]; omega
theorem rowsP_zero (n : Nat) (rs : List RD) : lowP n rs (rowsP 0 0) = ident n := by
  rw [← lowP_ident n rs]
  exact lowP_congr fun r c _ hc => by unfold rowsP; simp
theorem rowsP_full (n : Nat) (rs : List RD) : lowP n rs (rowsP n 0) = lowF n rs := lowP_full fun r c hr _ => by unfold rowsP; simp; omega

/-! Memory. -/
/-- What is cells stays as it is. -/
def KeepC (W W' : World) : Prop := ∀ (k : Nat) (cur : Array Value) (t : TypeId) (f : Nat × Nat), W.heap[k]? = some (.cells cur t f) → W'.heap[k]? = some (.cells cur t f)
section
variable {W W' : World} {base n : Nat} {V : Value} {L : List El}
theorem own_isCells {E : TypeId} {size : Nat} {v : Value} {xs : List Value} {k : Nat} (h : W.ownsRow base E size v n xs) (hk : v.ownBlock = some k) : ∃ cur t f, W.heap[k]? = some (.cells cur t f) := by
  rcases h.2 with ⟨rfl, _⟩ | ⟨g, cap, cur, rfl, _, hg, _⟩
  · simp [Value.ownBlock] at hk
  · simp [Value.ownBlock] at hk
    subst hk
    exact ⟨_, _, _, hg⟩
theorem OwnV.isCells {k : Nat} (h : OwnV W base V n L) (hk : footV V L k) : ∃ cur t f, W.heap[k]? = some (.cells cur t f) := by
  rcases hk with hk | ⟨y, hy, hk | hk⟩
  · exact own_isCells h.2.1 hk
  · exact own_isCells (h.2.2.1 y hy).1 hk
  · exact own_isCells (h.2.2.1 y hy).2.1 hk
theorem OwnV.keepC (h : OwnV W base V n L) (hk : KeepC W W') : OwnV W' base V n L := h.dep fun k hf => by
  obtain ⟨_, _, _, e⟩ := h.isCells hf
  rw [e]; exact hk _ _ _ _ e
theorem KeepC.of_below (h : Below W.heap.size W W') : KeepC W W' := fun k _ _ _ e => (h.block k (Array.getElem?_eq_some_iff.1 e).1).trans e
/-- The first elements of a list of one's own, in another block. -/
theorem set3_other {w : World} {g k i0 i1 i2 : Nat} {u0 u1 u2 : Value} (h : k ≠ g) : (((w.setCell ⟨g, i0, none⟩ u0).setCell ⟨g, i1, none⟩ u1).setCell ⟨g, i2, none⟩ u2).heap[k]? = w.heap[k]? :=
  (Below.heap_setCell _ _ _ k h).trans ((Below.heap_setCell _ _ _ k h).trans (Below.heap_setCell _ _ _ k h))
end
/-- The joint state: w: where Factor was entered; W0: where the loop begins; bc, bd: the loop's two variables; G, Gd: the iterator's two lists. -/
structure FJ (n N : Nat) (rs : List RD) (w W0 : World) (bc bd lb G cL Gd cD : Nat) (P : Nat → Nat → Bool) (i qc qd : Nat) (cv dv : Value) (L D : List El) (W : World) : Prop where
  bel : Below w.heap.size w W
  old : ∀ k, k < W0.heap.size → k ≠ bc → k ≠ bd → W.heap[k]? = W0.heap[k]?
  siz : W0.heap.size ≤ W.heap.size
  own : OwnV W W0.heap.size (.slice (some ⟨G, 0, none⟩) N cL) N L
  has : Has L (lowP n rs P)
  dow : OwnV W W0.heap.size (.slice (some ⟨Gd, 0, none⟩) n cD) n D
  dha : Has D (numP n rs i)
  cow : OwnV W W0.heap.size cv (qc * n) (L.take (qc * n))
  eow : OwnV W W0.heap.size dv qd (D.take qd)
  cbx : Box W bc 26 #[cv]
  dbx : Box W bd 26 #[dv]
  lbx : Box W lb 47 #[.int .i64 n, .int .i64 n, .slice (some ⟨G, 0, none⟩) N cL]
  lbw : W0.heap.size ≤ lb
  gg : G ≠ Gd
  cg : cv.ownBlock ≠ some G ∧ cv.ownBlock ≠ some Gd
  dg : dv.ownBlock ≠ some G ∧ dv.ownBlock ≠ some Gd
  cd : ∀ k, cv.ownBlock = some k → dv.ownBlock ≠ some k
  far : ∀ x ∈ L, ∀ y ∈ D, Far x y
/-- What stays the same all along. -/
structure FK (w W0 : World) (bc bd : Nat) : Prop where
  w0 : w.heap.size ≤ W0.heap.size
  c0 : w.heap.size ≤ bc
  d0 : w.heap.size ≤ bd
  c1 : bc < W0.heap.size
  d1 : bd < W0.heap.size
  ne : bc ≠ bd
section
variable {n N : Nat} {rs : List RD} {w W0 : World} {bc bd lb G cL Gd cD : Nat} {P P' : Nat → Nat → Bool} {i qc qd : Nat} {cv dv : Value} {L D : List El} {W W' : World}
theorem FJ.g0 (h : FJ n N rs w W0 bc bd lb G cL Gd cD P i qc qd cv dv L D W) : W0.heap.size ≤ G ∧ G < W.heap.size ∧ W0.heap.size ≤ Gd ∧ Gd < W.heap.size := by
  have a := h.own.lt G (.inl rfl)
  have b := h.dow.lt Gd (.inl rfl)
  exact ⟨a.1, a.2, b.1, b.2⟩
theorem FJ.keep (h : FJ n N rs w W0 bc bd lb G cL Gd cD P i qc qd cv dv L D W) (hc : KeepC W W') (hb : ∀ k, k < W0.heap.size → W'.heap[k]? = W.heap[k]?) (hB : Below w.heap.size w W') (hs : W.heap.size ≤ W'.heap.size) : FJ n N rs w W0 bc bd lb G cL Gd cD P i qc qd cv dv L D W' :=
  ⟨hB, fun k hk h1 h2 => (hb k hk).trans (h.old k hk h1 h2), Nat.le_trans h.siz hs, h.own.keepC hc, h.has, h.dow.keepC hc, h.dha, h.cow.keepC hc, h.eow.keepC hc, hc _ _ _ _ h.cbx, hc _ _ _ _ h.dbx, hc _ _ _ _ h.lbx, h.lbw, h.gg, h.cg, h.dg, h.cd, h.far⟩
theorem FJ.below (h : FJ n N rs w W0 bc bd lb G cL Gd cD P i qc qd cv dv L D W) (hb : Below W.heap.size W W') : FJ n N rs w W0 bc bd lb G cL Gd cD P i qc qd cv dv L D W' :=
  h.keep (KeepC.of_below hb) (fun k hk => hb.block k (Nat.lt_of_lt_of_le hk h.siz)) (h.bel.trans (hb.mono h.bel.size)) hb.size
theorem FJ.congr (h : FJ n N rs w W0 bc bd lb G cL Gd cD P i qc qd cv dv L D W) (e : lowP n rs P = lowP n rs P') : FJ n N rs w W0 bc bd lb G cL Gd cD P' i qc qd cv dv L D W :=
  { h with has := by rw [← e]; exact h.has }
theorem take_set {α : Type} {l : List α} {j m : Nat} {x : α} (h : m ≤ j) : (l.set j x).take m = l.take m := by
  apply List.ext_getElem?
  intro t
  rw [List.getElem?_take, List.getElem?_take]
  by_cases e : t < m
  · rw [if_pos e, if_pos e, List.getElem?_set_ne (by omega)]
  · rw [if_neg e, if_neg e]
theorem FJ.other (_h : FJ n N rs w W0 bc bd lb G cL Gd cD P i qc qd cv dv L D W) {b : Nat} {V : Value} {m : Nat} {M : List El} (hV : OwnV W b V m M) {g : Nat} {xs : List Value} {u : Value} {q : Nat} (hu : W.ownsRow W0.heap.size 30 3 u q xs) (hug : u.ownBlock = some g) (hg : V.ownBlock ≠ some g) : ∀ k, footV V M k → k ≠ g := fun k hk e => by
  subst e
  rcases hk with hk | ⟨y, hy, hk⟩
  · exact hg hk
  · exact el_other (hV.2.2.1 y hy) hu (by decide) k hk hug
theorem box_not {g k b m : Nat} {E t : TypeId} {cs : Array Value} {s : Nat} {u : Value} {xs : List Value} (hb : Box W g t cs) (hu : W.ownsRow b E s u m xs) (hk : u.ownBlock = some k) (hne : t ≠ E := by decide) : g ≠ k := fun e => by
  subst e
  rcases hu.2 with ⟨rfl, _⟩ | ⟨g', cap, cur, rfl, _, hg, _⟩
  · simp [Value.ownBlock] at hk
  · simp [Value.ownBlock] at hk
    subst hk
    have h2 : W.heap[g']? = some (.cells cs t (0, 0)) := hb
    rw [hg] at h2
    cases h2
    exact hne rfl
/-- An element of the factor is put in. -/
theorem FJ.putL (h : FJ n N rs w W0 bc bd lb G cL Gd cD P i qc qd cv dv L D W) (hK : FK w W0 bc bd) {j b0 : Nat} {g : Bool} {r ds : List Int} {A B : Option Addr} {c d : Nat} (hj : j < N) (hq : qc * n ≤ j) (hset : (lowP n rs P).set j ⟨g, r, ds⟩ = lowP n rs P')
    (h1 : W.ownsRow b0 3 1 (.slice A r.length c) r.length (r.map (.int .i64))) (h2 : W.ownsRow b0 3 1 (.slice B ds.length d) ds.length (ds.map (.int .i64))) (hap : Apart (.slice B ds.length d) (.slice A r.length c)) (hb0 : ∀ k, footV (.slice (some ⟨G, 0, none⟩) N cL) L k → k < b0) (hb1 : ∀ k, footV (.slice (some ⟨Gd, 0, none⟩) n cD) D k → k < b0) (hbb : W0.heap.size ≤ b0) :
    FJ n N rs w W0 bc bd lb G cL Gd cD P' i qc qd cv dv (L.set j ⟨g, .slice A r.length c, r.length, r.map (.int .i64), .slice B ds.length d, ds.length, ds.map (.int .i64)⟩) D (((W.setCell ⟨G, j * 3, none⟩ (.bool g)).setCell ⟨G, j * 3 + 1, none⟩ (.slice A r.length c)).setCell ⟨G, j * 3 + 2, none⟩ (.slice B ds.length d)) := by
  have heo : (El.mk g (.slice A r.length c) r.length (r.map (.int .i64)) (.slice B ds.length d) ds.length (ds.map (.int .i64))).own W b0 := ⟨h1, h2, hap⟩
  have hfar : ∀ y ∈ L, Far y (El.mk g (.slice A r.length c) r.length (r.map (.int .i64)) (.slice B ds.length d) ds.length (ds.map (.int .i64))) := fun y hy k hk hk' => by
    have e1 := hb0 k (.inr ⟨y, hy, hk⟩)
    have e2 := (heo.lt k hk').1
    omega
  obtain ⟨g1, g2, g3, g4⟩ := h.g0
  have hbc := hK.c1
  have hbd := hK.d1
  have hw0 := hK.w0
  have hl : L.length = N := h.own.1
  refine ⟨((h.bel.setCell (by dsimp only; omega) _).setCell (by dsimp only; omega) _).setCell (by dsimp only; omega) _, fun k hk e1 e2 => (set3_other (by omega)).trans (h.old k hk e1 e2), by simp; exact h.siz, (h.own.store hj (heo.lower hbb) hfar).1, ?_, ?_, h.dha, ?_, ?_, ?_, ?_, ?_, h.lbw, h.gg, h.cg, h.dg, h.cd, ?_⟩
  · rw [← hset]; exact h.has.set _ ⟨rfl, rfl, rfl, rfl, rfl⟩
  · exact h.dow.dep fun k hk => set3_other (h.other h.dow h.own.2.1 rfl (fun e => h.gg (by simpa [Value.ownBlock] using e.symm)) k hk)
  · rw [take_set hq]; exact h.cow.dep fun k hk => set3_other (h.other h.cow h.own.2.1 rfl h.cg.1 k hk)
  · exact h.eow.dep fun k hk => set3_other (h.other h.eow h.own.2.1 rfl h.dg.1 k hk)
  · exact (set3_other (by omega)).trans h.cbx
  · exact (set3_other (by omega)).trans h.dbx
  · exact (set3_other (box_not h.lbx h.own.2.1 rfl)).trans h.lbx
  · intro x hx y hy
    rcases List.mem_or_eq_of_mem_set hx with hx | rfl
    · exact h.far x hx y hy
    · intro k hk hk'
      have e1 := (heo.lt k hk).1
      have e2 := hb1 k (.inr ⟨y, hy, hk'⟩)
      omega
/-- A number is put in. -/
theorem FJ.putD (h : FJ n N rs w W0 bc bd lb G cL Gd cD P i qc qd cv dv L D W) (hK : FK w W0 bc bd) {b0 : Nat} {g : Bool} {r ds : List Int} {A B : Option Addr} {c d : Nat} (hi : i < n) (hq : qd ≤ i) (he : RD.mk g r ds = fD n rs i)
    (h1 : W.ownsRow b0 3 1 (.slice A r.length c) r.length (r.map (.int .i64))) (h2 : W.ownsRow b0 3 1 (.slice B ds.length d) ds.length (ds.map (.int .i64))) (hap : Apart (.slice B ds.length d) (.slice A r.length c)) (hb0 : ∀ k, footV (.slice (some ⟨G, 0, none⟩) N cL) L k → k < b0) (hb1 : ∀ k, footV (.slice (some ⟨Gd, 0, none⟩) n cD) D k → k < b0) (hbb : W0.heap.size ≤ b0) :
    FJ n N rs w W0 bc bd lb G cL Gd cD P (i + 1) qc qd cv dv L (D.set i ⟨g, .slice A r.length c, r.length, r.map (.int .i64), .slice B ds.length d, ds.length, ds.map (.int .i64)⟩) (((W.setCell ⟨Gd, i * 3, none⟩ (.bool g)).setCell ⟨Gd, i * 3 + 1, none⟩ (.slice A r.length c)).setCell ⟨Gd, i * 3 + 2, none⟩ (.slice B ds.length d)) := by
  have heo : (El.mk g (.slice A r.length c) r.length (r.map (.int .i64)) (.slice B ds.length d) ds.length (ds.map (.int .i64))).own W b0 := ⟨h1, h2, hap⟩
  have hfar : ∀ y ∈ D, Far y (El.mk g (.slice A r.length c) r.length (r.map (.int .i64)) (.slice B ds.length d) ds.length (ds.map (.int .i64))) := fun y hy k hk hk' => by
    have e1 := hb1 k (.inr ⟨y, hy, hk⟩)
    have e2 := (heo.lt k hk').1
    omega
  obtain ⟨g1, g2, g3, g4⟩ := h.g0
  have hbc := hK.c1
  have hbd := hK.d1
  have hw0 := hK.w0
  refine ⟨((h.bel.setCell (by dsimp only; omega) _).setCell (by dsimp only; omega) _).setCell (by dsimp only; omega) _, fun k hk e1 e2 => (set3_other (by omega)).trans (h.old k hk e1 e2), by simp; exact h.siz, ?_, h.has, (h.dow.store hi (heo.lower hbb) hfar).1, ?_, ?_, ?_, ?_, ?_, ?_, h.lbw, h.gg, h.cg, h.dg, h.cd, ?_⟩
  · exact h.own.dep fun k hk => set3_other (h.other h.own h.dow.2.1 rfl (fun e => h.gg (by simpa [Value.ownBlock] using e)) k hk)
  · rw [← numP_set hi, ← he]; exact h.dha.set _ ⟨rfl, rfl, rfl, rfl, rfl⟩
  · exact h.cow.dep fun k hk => set3_other (h.other h.cow h.dow.2.1 rfl h.cg.2 k hk)
  · rw [take_set hq]; exact h.eow.dep fun k hk => set3_other (h.other h.eow h.dow.2.1 rfl h.dg.2 k hk)
  · exact (set3_other (by omega)).trans h.cbx
  · exact (set3_other (by omega)).trans h.dbx
  · exact (set3_other (box_not h.lbx h.dow.2.1 rfl)).trans h.lbx
  · intro x hx y hy
    rcases List.mem_or_eq_of_mem_set hy with hy | rfl
    · exact h.far x hx y hy
    · intro k hk hk'
      have e1 := (heo.lt k hk').1
      have e2 := hb0 k (.inr ⟨x, hx, hk⟩)
      omega
/-- A row is appended by the loop. -/
theorem FJ.appC {V' : Value} (h : FJ n N rs w W0 bc bd lb G cL Gd cD P i qc qd cv dv L D W) (hK : FK w W0 bc bd) (ho : OwnV W' W0.heap.size V' ((qc + 1) * n) (L.take ((qc + 1) * n))) (hg : W.grownBy W' cv.ownBlock) (hv : ∀ k, V'.ownBlock = some k → cv.ownBlock = some k ∨ k = W.heap.size) :
    FJ n N rs w W0 bc bd lb G cL Gd cD P i (qc + 1) qd V' dv L D (W'.setCell ⟨bc, 0, none⟩ V') := by
  obtain ⟨g1, g2, g3, g4⟩ := h.g0
  have hbc := hK.c1
  have hbd := hK.d1
  have hw0 := hK.w0
  have hc0 := hK.c0
  have hsz := h.siz
  have hne := hK.ne
  have hcb : ∀ k, cv.ownBlock = some k → W0.heap.size ≤ k := fun k hk => (h.cow.lt k (.inl hk)).1
  have same : ∀ k, k < W.heap.size → cv.ownBlock ≠ some k → k ≠ bc → (W'.setCell ⟨bc, 0, none⟩ V').heap[k]? = W.heap[k]? := fun k hk e1 e2 => (Below.heap_setCell _ _ _ k e2).trans (hg.block k hk fun e => e1 e.symm)
  have dep : ∀ {b m : Nat} {V : Value} {M : List El}, OwnV W b V m M → W0.heap.size ≤ b → (∀ k, cv.ownBlock = some k → V.ownBlock ≠ some k) → OwnV (W'.setCell ⟨bc, 0, none⟩ V') b V m M := fun {b m V M} hV hb hno => hV.dep fun k hk => by
    have hlt := hV.lt k hk
    refine same k hlt.2 (fun e => ?_) (by omega)
    rcases hk with hk | ⟨y, hy, hk⟩
    · exact hno k e hk
    · exact el_other (hV.2.2.1 y hy) h.cow.2.1 (by decide) k hk e
  refine ⟨(h.bel.grown hg h.bel.size (fun j hj => ?_)).setCell hc0 _, fun k hk e1 e2 => ?_, by simp; exact Nat.le_trans hsz hg.size, dep h.own (Nat.le_refl _) (fun k hk e => ?_), h.has, dep h.dow (Nat.le_refl _) (fun k hk e => ?_), h.dha, ?_, dep h.eow (Nat.le_refl _) h.cd, ?_, ?_, ?_, h.lbw, h.gg, ?_, h.dg, ?_, h.far⟩
  · have := hcb j hj; omega
  · exact (same k (Nat.lt_of_lt_of_le hk hsz) (fun e => by have := hcb k e; omega) e1).trans (h.old k hk e1 e2)
  · simp [Value.ownBlock] at e; subst e; exact h.cg.1 hk
  · simp [Value.ownBlock] at e; subst e; exact h.cg.2 hk
  · exact ho.dep fun k hk => Below.heap_setCell _ _ _ k (by have := (ho.lt k hk).1; dsimp only; omega)
  · have hb : Box W' bc 26 #[cv] := (hg.block bc (by omega) fun e => by have := hcb bc e.symm; omega).trans h.cbx
    simpa using hb.set_ 0 V'
  · exact (same bd (by omega) (fun e => by have := hcb bd e; omega) (Ne.symm hne)).trans h.dbx
  · exact (same lb h.lbx.lt (fun e => (box_not h.lbx h.cow.2.1 e) rfl) (by have := h.lbw; omega)).trans h.lbx
  · constructor
    · intro e; rcases hv G e with e | e
      · exact h.cg.1 e
      · omega
    · intro e; rcases hv Gd e with e | e
      · exact h.cg.2 e
      · omega
  · intro k hk e
    rcases hv k hk with q | q
    · exact h.cd k q e
    · have := (h.eow.lt k (.inl e)).2; omega
/-- A number is appended by the loop. -/
theorem FJ.appD {V' : Value} (h : FJ n N rs w W0 bc bd lb G cL Gd cD P i qc qd cv dv L D W) (hK : FK w W0 bc bd) (ho : OwnV W' W0.heap.size V' (qd + 1) (D.take (qd + 1))) (hg : W.grownBy W' dv.ownBlock) (hv : ∀ k, V'.ownBlock = some k → dv.ownBlock = some k ∨ k = W.heap.size) :
    FJ n N rs w W0 bc bd lb G cL Gd cD P i qc (qd + 1) cv V' L D (W'.setCell ⟨bd, 0, none⟩ V') := by
  obtain ⟨g1, g2, g3, g4⟩ := h.g0
  have hbc := hK.c1
  have hbd := hK.d1
  have hw0 := hK.w0
  have hc0 := hK.d0
  have hsz := h.siz
  have hne := hK.ne
  have hcb : ∀ k, dv.ownBlock = some k → W0.heap.size ≤ k := fun k hk => (h.eow.lt k (.inl hk)).1
  have same : ∀ k, k < W.heap.size → dv.ownBlock ≠ some k → k ≠ bd → (W'.setCell ⟨bd, 0, none⟩ V').heap[k]? = W.heap[k]? := fun k hk e1 e2 => (Below.heap_setCell _ _ _ k e2).trans (hg.block k hk fun e => e1 e.symm)
  have dep : ∀ {b m : Nat} {V : Value} {M : List El}, OwnV W b V m M → W0.heap.size ≤ b → (∀ k, dv.ownBlock = some k → V.ownBlock ≠ some k) → OwnV (W'.setCell ⟨bd, 0, none⟩ V') b V m M := fun {b m V M} hV hb hno => hV.dep fun k hk => by
    have hlt := hV.lt k hk
    refine same k hlt.2 (fun e => ?_) (by omega)
    rcases hk with hk | ⟨y, hy, hk⟩
    · exact hno k e hk
    · exact el_other (hV.2.2.1 y hy) h.eow.2.1 (by decide) k hk e
  refine ⟨(h.bel.grown hg h.bel.size (fun j hj => ?_)).setCell hc0 _, fun k hk e1 e2 => ?_, by simp; exact Nat.le_trans hsz hg.size, dep h.own (Nat.le_refl _) (fun k hk e => ?_), h.has, dep h.dow (Nat.le_refl _) (fun k hk e => ?_), h.dha, dep h.cow (Nat.le_refl _) (fun k hk e => h.cd k e hk), ?_, ?_, ?_, ?_, h.lbw, h.gg, h.cg, ?_, ?_, h.far⟩
  · have := hcb j hj; omega
  · exact (same k (Nat.lt_of_lt_of_le hk hsz) (fun e => by have := hcb k e; omega) e2).trans (h.old k hk e1 e2)
  · simp [Value.ownBlock] at e; subst e; exact h.dg.1 hk
  · simp [Value.ownBlock] at e; subst e; exact h.dg.2 hk
  · exact ho.dep fun k hk => Below.heap_setCell _ _ _ k (by have := (ho.lt k hk).1; dsimp only; omega)
  · exact (same bc (by omega) (fun e => by have := hcb bc e; omega) hne).trans h.cbx
  · have hb : Box W' bd 26 #[dv] := (hg.block bd (by omega) fun e => by have := hcb bd e.symm; omega).trans h.dbx
    simpa using hb.set_ 0 V'
  · exact (same lb h.lbx.lt (fun e => (box_not h.lbx h.eow.2.1 e) rfl) (by have := h.lbw; omega)).trans h.lbx
  · constructor
    · intro e; rcases hv G e with e | e
      · exact h.dg.1 e
      · omega
    · intro e; rcases hv Gd e with e | e
      · exact h.dg.2 e
      · omega
  · intro k hk e
    rcases hv k e with q | q
    · exact h.cd k hk q
    · have := (h.cow.lt k (.inl hk)).2; omega
end
end Go.Proofs.YtdehcddjkcpnfaaGreat
namespace Go.Proofs.YtdehcddjkcpnfaaGreat
set_option maxRecDepth 100000
open Go.RowKit

section
variable {P : Program} {ops : Array Oper} {Q : Exit → Act → World → Prop} {md : Region.Mode} {S : World → Prop} {last : Nat} {fuel : Nat} {listed : Array Bool} {a : Act} {w : World}
/-- Two, or three, may come up, none of them 'last'. -/
theorem wpAnyL_two {o p : Oper} (i j : Nat) (hr : Region.ready md ops listed = [i, j]) (hi : i ≠ last) (hj : j ≠ last) (ho : ops[i]? = some o) (hp : ops[j]? = some p)
    (h1 : ∀ K' : Act → World → Prop, Shut (∀ a w, S w → (S w → wpAnyL P md ops Q S last fuel (listed.setIfInBounds i true) a w) → K' a w) → if Region.wanted o (yielded ops a.tmps) = true then Oper.wp P o a w K' Q else K' (a.put o.dst undef) w)
    (h2 : ∀ K' : Act → World → Prop, Shut (∀ a w, S w → (S w → wpAnyL P md ops Q S last fuel (listed.setIfInBounds j true) a w) → K' a w) → if Region.wanted p (yielded ops a.tmps) = true then Oper.wp P p a w K' Q else K' (a.put p.dst undef) w) :
    wpAnyL P md ops Q S last (fuel + 1) listed a w := by
  refine ⟨fun h0 => (by rw [hr] at h0; cases h0), fun k hk => ?_⟩
  rw [hr] at hk
  rcases List.mem_cons.1 hk with rfl | hk
  · exact wpOp_step ho (fun K' hK => h1 K' (fun a w hS hW => hK a w ⟨fun _ => hS, hW hS⟩))
  · obtain rfl := List.mem_singleton.1 hk
    exact wpOp_step hp (fun K' hK => h2 K' (fun a w hS hW => hK a w ⟨fun _ => hS, hW hS⟩))
theorem wpAnyL_three {o p q : Oper} (i j k : Nat) (hr : Region.ready md ops listed = [i, j, k]) (hi : i ≠ last) (hj : j ≠ last) (hk : k ≠ last) (ho : ops[i]? = some o) (hp : ops[j]? = some p) (hq : ops[k]? = some q)
    (h1 : ∀ K' : Act → World → Prop, Shut (∀ a w, S w → (S w → wpAnyL P md ops Q S last fuel (listed.setIfInBounds i true) a w) → K' a w) → if Region.wanted o (yielded ops a.tmps) = true then Oper.wp P o a w K' Q else K' (a.put o.dst undef) w)
    (h2 : ∀ K' : Act → World → Prop, Shut (∀ a w, S w → (S w → wpAnyL P md ops Q S last fuel (listed.setIfInBounds j true) a w) → K' a w) → if Region.wanted p (yielded ops a.tmps) = true then Oper.wp P p a w K' Q else K' (a.put p.dst undef) w)
    (h3 : ∀ K' : Act → World → Prop, Shut (∀ a w, S w → (S w → wpAnyL P md ops Q S last fuel (listed.setIfInBounds k true) a w) → K' a w) → if Region.wanted q (yielded ops a.tmps) = true then Oper.wp P q a w K' Q else K' (a.put q.dst undef) w) :
    wpAnyL P md ops Q S last (fuel + 1) listed a w := by
  refine ⟨fun h0 => (by rw [hr] at h0; cases h0), fun x hx => ?_⟩
  rw [hr] at hx
  rcases List.mem_cons.1 hx with rfl | hx
  · exact wpOp_step ho (fun K' hK => h1 K' (fun a w hS hW => hK a w ⟨fun _ => hS, hW hS⟩))
  · rcases List.mem_cons.1 hx with rfl | hx
    · exact wpOp_step hp (fun K' hK => h2 K' (fun a w hS hW => hK a w ⟨fun _ => hS, hW hS⟩))
    · obtain rfl := List.mem_singleton.1 hx
      exact wpOp_step hq (fun K' hK => h3 K' (fun a w hS hW => hK a w ⟨fun _ => hS, hW hS⟩))
end
theorem inV_take {w : World} {A : Option Addr} {n k : Nat} {rs : List RD} (h : InV w A n rs) (hk : k ≤ n) : InV w A k (rs.take k) := by
  refine ⟨by rw [List.length_take]; have := h.1; omega, by have := h.2.1; omega, ?_⟩
  rcases h.2.2 with h0 | ⟨b, o, hA, hlt, hat⟩
  · exact .inl (by omega)
  · refine .inr ⟨b, o, hA, hlt, fun j hj => ?_⟩
    rw [List.length_take] at hj
    rw [List.getElem_take]
    exact hat j (by omega)
theorem ident_len (n : Nat) : (ident n).length = n * n := by simp [ident]
theorem ident_at {n : Nat} {p k : Int} {r : List RD} (hn : n ≤ 24) (h : IdentityMatrixIs n p k r) : p = n ∧ k = n ∧ r = ident n := by
  rcases h with ⟨_, h1, h2, h3⟩ | ⟨hno, _⟩
  · exact ⟨h1, h2, by simpa using h3⟩
  · exact absurd ⟨by omega, by omega⟩ hno
theorem far_zeros : ∀ n, (List.replicate n El.zero).Pairwise Far
  | 0 => by simp
  | n + 1 => by
    rw [List.replicate_succ, List.pairwise_cons]
    exact ⟨fun y _ k hk => absurd hk (El.foot_zero k), far_zeros n⟩
/-- What is told of a row that comes: the lists, the row, its number. -/
structure FY where
  G : Nat
  cL : Nat
  Gd : Nat
  cD : Nat
  lb : Nat
  i : Nat
  row : Value
  e : El
  L : List El
  D : List El
def encY (x : FY) : Array Value := #[x.row, .agg #[.bool x.e.g, x.e.v, x.e.u]]
/-- Where the iterator is entered: w: where Factor was entered, W0: where the loop begins. -/
structure J0Y (w W0 : World) (bc bd : Nat) (W : World) : Prop where
  bel : Below w.heap.size w W
  old : ∀ k, k < W0.heap.size → k ≠ bc → k ≠ bd → W.heap[k]? = W0.heap[k]?
  siz : W0.heap.size ≤ W.heap.size
  cbx : Box W bc 26 #[.slice none 0 0]
  dbx : Box W bd 26 #[.slice none 0 0]
def JyY (n N : Nat) (rs : List RD) (w W0 : World) (bc bd : Nat) (x : FY) (W : World) : Prop :=
  x.i < n ∧ (∃ cv dv, FJ n N rs w W0 bc bd x.lb x.G x.cL x.Gd x.cD (rowsP (x.i + 1) 0) (x.i + 1) x.i x.i cv dv x.L x.D W) ∧ (∃ c', x.row = .slice (some ⟨x.G, x.i * n * 3, none⟩) n c') ∧ x.D[x.i]? = some x.e ∧ ∀ t, t < x.i → (fD n rs t).pos
def JnY (n N : Nat) (rs : List RD) (w W0 : World) (bc bd : Nat) (x : FY) (W : World) : Prop :=
  x.i < n ∧ (∃ cv dv, FJ n N rs w W0 bc bd x.lb x.G x.cL x.Gd x.cD (rowsP (x.i + 1) 0) (x.i + 1) (x.i + 1) (x.i + 1) cv dv x.L x.D W) ∧ ∀ t, t < x.i + 1 → (fD n rs t).pos
def DnY (n N : Nat) (rs : List RD) (w W0 : World) (bc bd : Nat) (W : World) : Prop :=
  (∃ lb G cL Gd cD cv dv L D, FJ n N rs w W0 bc bd lb G cL Gd cD (rowsP n 0) n n n cv dv L D W) ∧ ∀ t, t < n → (fD n rs t).pos
section
variable {n N : Nat} {rs : List RD} {w W0 : World} {bc bd : Nat} {W W' : World}
theorem J0Y.below (h : J0Y w W0 bc bd W) (hb : Below W.heap.size W W') : J0Y w W0 bc bd W' :=
  ⟨h.bel.trans (hb.mono h.bel.size), fun k hk h1 h2 => (hb.block k (Nat.lt_of_lt_of_le hk h.siz)).trans (h.old k hk h1 h2), Nat.le_trans h.siz hb.size, h.cbx.below hb h.cbx.lt, h.dbx.below hb h.dbx.lt⟩
theorem stays_below {B : Nat} {Bk : World → Prop} (hs : Stays B Bk) (h : Bk W) (hb : Below W.heap.size W W') : Bk W' :=
  hs _ _ h ⟨hb.size, fun k _ _ hk _ => (hb.block k (Array.getElem?_eq_some_iff.1 hk).1).trans hk⟩
/-- The lists are made. -/
theorem FJ.start {lb G cL Gd b1 b2 : Nat} {L : List El} (h : J0Y w W0 bc bd W) (hL : OwnV W b1 (.slice (some ⟨G, 0, none⟩) N cL) N L) (hh : Has L (ident n)) (hD : OwnV W b2 (.slice (some ⟨Gd, 0, none⟩) n n) n (List.replicate n El.zero))
    (hlb : Box W lb 47 #[.int .i64 n, .int .i64 n, .slice (some ⟨G, 0, none⟩) N cL]) (h1 : W0.heap.size ≤ b1) (h2 : W0.heap.size ≤ b2) (h3 : W0.heap.size ≤ lb) (hne : G ≠ Gd) :
    FJ n N rs w W0 bc bd lb G cL Gd n (rowsP 0 0) 0 0 0 (.slice none 0 0) (.slice none 0 0) L (List.replicate n El.zero) W := by
  refine ⟨h.bel, h.old, h.siz, hL.lower h1, by rw [rowsP_zero]; exact hh, hD.lower h2, by rw [numP_zero]; exact has_zeros n, ?_, ?_, h.cbx, h.dbx, hlb, h3, hne, ⟨by simp [Value.ownBlock], by simp [Value.ownBlock]⟩, ⟨by simp [Value.ownBlock], by simp [Value.ownBlock]⟩, fun k hk => by simp [Value.ownBlock] at hk, fun x _ y hy => ?_⟩
  · rw [Nat.zero_mul, List.take_zero]; exact OwnV.none_ _ _
  · rw [List.take_zero]; exact OwnV.none_ _ _
  · obtain rfl := List.eq_of_mem_replicate hy
    exact fun k _ hk => absurd hk (El.foot_zero k)
end
theorem rows_cells {n N : Nat} {rs : List RD} {w W0 : World} {bc bd lb G cL Gd cD : Nat} {P : Nat → Nat → Bool} {i qc qd : Nat} {cv dv : Value} {L D : List El} {W : World} {mb c : Nat} {A : Option Addr} (h : Hid (FJ n N rs w W0 bc bd lb G cL Gd cD P i qc qd cv dv L D W)) (k : Hid (Box W mb 47 #[.int .i64 n, .int .i64 n, .slice A N c])) :
    W.cell? ⟨lb, 0, none⟩ = some (.int .i64 n) ∧ W.cell? ⟨lb, 1, none⟩ = some (.int .i64 n) ∧ W.cell? ⟨lb, 2, none⟩ = some (.slice (some ⟨G, 0, none⟩) N cL) ∧ W.cell? ⟨mb, 0, none⟩ = some (.int .i64 n) ∧ W.cell? ⟨mb, 1, none⟩ = some (.int .i64 n) ∧ W.cell? ⟨mb, 2, none⟩ = some (.slice A N c) :=
  ⟨h.out.lbx.cell 0, h.out.lbx.cell 1, h.out.lbx.cell 2, k.out.cell 0, k.out.cell 1, k.out.cell 2⟩
set_option maxHeartbeats 12800000 in
theorem impl_factorIt (n N : Nat) (A : Option Addr) (c : Nat) (rs : List RD) (w W0 : World) (bc bd mb : Nat) (Rx : World → Prop) (h : InV w A N rs) (hN : N = n * n) (hn : n ≤ 24) (h0 : 0 < n) (hok : ∀ r ∈ rs, r.ok) (hcN : N ≤ c) (hK : FK w W0 bc bd)
    (hm : Box W0 mb 47 #[.int .i64 n, .int .i64 n, .slice A N c]) (hm1 : mb ≠ bc) (hm2 : mb ≠ bd) :
    SeqJ Fence.wide 3 Tryz.prog 149 #[.pointer (some ⟨mb, 0, none⟩)] encY W0.heap.size (J0Y w W0 bc bd) (JyY n N rs w W0 bc bd) (JnY n N rs w W0 bc bd) (fun _ => Rx) (DnY n N rs w W0 bc bd) Rx := by
  intro l W Bk Bx hBk hBx hY hJ0 hb0
  obtain ⟨i0, hi, hz0, hz1, hz2⟩ := info_parts Tryz.infoR
  have hm576 := mul_le_576 hn hn
  have hNp : 0 < N := by rw [hN]; exact Nat.mul_pos h0 h0
  have hrl : rs.length = n * n := by rw [← hN]; exact h.1
  have hmlt := hm.lt
  have HMB : Hid (∀ W', (∀ k, k < W0.heap.size → k ≠ bc → k ≠ bd → W'.heap[k]? = W0.heap[k]?) → Box W' mb 47 #[.int .i64 n, .int .i64 n, .slice A N c]) := fun W' hW => (hW mb hmlt hm1 hm2).trans hm
  have HV := Lib.hid h
  have HOKS := Lib.hid hok
  have HN := Lib.hid hN
  have HBK := Lib.hid hBk
  have HYL := Lib.hid hY
  have HKK := Lib.hid hK
  have PJ0 := Lib.hid hJ0
  have PB0 := Lib.hid hb0
  rw [← hN] at hm576
  clear h hok hN hBk hBx hY hJ0 hb0 hm hK
  refine callsIn_wide.2 ?_
  show Calls _ _ #[.func (.yield l) #[] #[], .pointer (some ⟨mb, 0, none⟩)] W _
  go_enter Tryz.func149, Tryz.ntmps149
  go_upto_region 0 with fail
  go_cut [3, 4] (fun s3 s4 wx => ∃ (lb G cL Gd : Nat) (L D : List El), s3 = .pointer (some ⟨lb, 0, none⟩) ∧ s4 = .slice (some ⟨Gd, 0, none⟩) n n ∧ Hid (FJ n N rs w W0 bc bd lb G cL Gd n (rowsP 0 0) 0 0 0 (.slice none 0 0) (.slice none 0 0) L D wx) ∧ Hid (Bk wx))
  case first =>
    obtain ⟨X0, hX0⟩ : ∃ X, X = W.drew := ⟨_, rfl⟩
    replace PJ0 : Hid (J0Y w W0 bc bd X0) := by rw [hX0]; exact PJ0.out.below (Below.refl _ _).drew
    replace PB0 : Hid (Bk X0) := by rw [hX0]; exact stays_below HBK.out PB0.out (Below.refl _ _).drew
    have hs0 : W0.heap.size ≤ X0.heap.size := PJ0.out.siz
    refine wp_region_last (S := (fun w' => w'.cell? ⟨mb, 0, none⟩ = some (.int .i64 n))) 8 (by kernel_rfl) ?_ (fun hHeld => ?_)
    · (rw [← hX0]); (exact (HMB.out _ PJ0.out.old).cell 0)
    rw [← hX0] at hHeld ⊢
    clear hX0
    refine wpAnyL_go (i := 0) (d := some 9) (v := ?_) (y := 7) [2, 1, 0] (by rfl) (by kernel_rfl) (fun _ _ _ h => h) (by assumption) ?_ ?_
    rotate_left 1
    · (intro oS hoS wS hSw; obtain rfl := Option.some.inj hoS; (try dsimp only at hSw); go_simp; try with_reducible rfl)
    (try simp only [Act.put, List.setIfInBounds_toArray])
    refine wpAnyL_go (i := 1) (d := some 10) (v := ?_) (y := 7) [2, 1] (by rfl) (by kernel_rfl) (fun _ _ _ h => h) (by assumption) ?_ ?_
    rotate_left 1
    · (intro oS hoS wS hSw; obtain rfl := Option.some.inj hoS; (try dsimp only at hSw); go_simp; try with_reducible rfl)
    (try simp only [Act.put, List.setIfInBounds_toArray])
    refine wpAnyL_go (i := 3) (d := some 12) (v := ?_) (y := 5) [4, 3] (by rfl) (by kernel_rfl) (fun _ _ _ h => h) (by assumption) ?_ ?_
    rotate_left 1
    · (intro oS hoS wS hSw; obtain rfl := Option.some.inj hoS; (try dsimp only at hSw); go_simp; try with_reducible rfl)
    (try simp only [Act.put, List.setIfInBounds_toArray])
    refine wpAnyL_go (i := 4) (d := some 13) (v := ?_) (y := 5) [4] (by rfl) (by kernel_rfl) (fun _ _ _ h => h) (by assumption) ?_ ?_
    rotate_left 1
    · (intro oS hoS wS hSw; obtain rfl := Option.some.inj hoS; (try dsimp only at hSw); go_simp; try with_reducible rfl)
    (try simp only [Act.put, List.setIfInBounds_toArray])
    refine wpAnyL_three 2 5 6 (by kernel_rfl) (by decide) (by decide) (by decide) rfl rfl rfl (fun KK hK => ?_) (fun KK hK => ?_) (fun KK hK => ?_)
    · go_simp
      go_at_call 53
      (with_reducible refine (impl_identityMatrix0 n _ (by omega)).mono ?_)
      rintro e X1 ⟨p9, k9, r9, V9, rfl, hi9, hr9, hb9⟩
      obtain ⟨rfl, rfl, rfl⟩ := ident_at hn hi9
      obtain ⟨_, _, L, ho9, hh9⟩ := hr9
      rw [show (ident n).length = N from by rw [ident_len, HN.out]] at ho9
      obtain ⟨AL, cL, rfl⟩ := ho9.slice
      obtain ⟨G, rfl, hG0, hG1⟩ := own_at' ho9.2.1 hNp
      have HL1 : Hid (OwnV X1 X0.heap.size _ N L) := ho9
      have HHL : Hid (Has L (ident n)) := hh9
      have hbL : W0.heap.size ≤ X0.heap.size := by omega
      have PJ1 := Lib.hid (PJ0.out.below hb9)
      have PB1 : Hid (Bk X1) := stays_below HBK.out PB0.out hb9
      have hs1 : X0.heap.size ≤ X1.heap.size := hb9.size
      clear hi9 ho9 hh9 hb9
      (try go_wp2_with fail)
      refine hK.out _ _ ?_ (fun hHeld => ?_)
      · (try dsimp only); (exact (HMB.out _ PJ1.out.old).cell 0)
      clear hK KK
      (try simp only [Act.put, List.setIfInBounds_toArray])
      refine wpAnyL_two 5 6 (by kernel_rfl) (by decide) (by decide) rfl rfl (fun KK hK => ?_) (fun KK hK => ?_)
      · refine step_make_full rfl (.tmp 13) (.tmp 13) 26 rfl X1.heap.size 30 i0 (.agg #[.bool false, .slice none 0 0, .slice none 0 0]) 3 Tryz.underlying26 hi hz0 hz1 _ _ _ _ n rfl rfl rfl rfl (by rw [hz2]; omega) (by unfold maxLen; omega) (Nat.le_refl _) ?_
        intro X2 ho9 hg9
        have hb9 : Below X1.heap.size X1 X2 := (Below.refl _ _).grown hg9 (Nat.le_refl _) (fun k hk => by cases hk)
        have HD2 : Hid (OwnV X2 X1.heap.size (.slice (some ⟨X1.heap.size, 0, none⟩) n n) n (List.replicate n El.zero)) := ⟨List.length_replicate, by rw [flat_zero] at ho9; exact ho9, fun y hy => by obtain rfl := List.eq_of_mem_replicate hy; exact El.own_zero _ _, far_zeros n⟩
        have hbD : W0.heap.size ≤ X1.heap.size := by omega
        have hGD : X1.heap.size < X2.heap.size := (HD2.out.lt _ (.inl rfl)).2
        have PJ2 := Lib.hid (PJ1.out.below hb9)
        have PB2 : Hid (Bk X2) := stays_below HBK.out PB1.out hb9
        have hs2 : X1.heap.size ≤ X2.heap.size := hb9.size
        have HL2 := Lib.hid (HL1.out.below hb9)
        clear ho9 hg9 hb9
        refine hK.out _ _ ?_ (fun hHeld => ?_)
        · (try dsimp only); (exact (HMB.out _ PJ2.out.old).cell 0)
        clear hK KK
        (try simp only [Act.put, List.setIfInBounds_toArray])
        refine wpAnyL_one 6 (by kernel_rfl) (by decide) rfl (fun KK hK => ?_)
        obtain ⟨X3, hX3⟩ : ∃ X, X = X2.alloc (.cells #[.int .i64 0, .int .i64 0, .slice none 0 0] 47) := ⟨_, rfl⟩
        have hb9 : Below X2.heap.size X2 X3 := by rw [hX3]; exact (Below.refl _ _).alloc (Nat.le_refl _) _
        have HX3 : Hid (Box X3 X2.heap.size 47 #[.int .i64 0, .int .i64 0, .slice none 0 0]) := by rw [hX3]; exact Box.new _ _ _
        have hbX : W0.heap.size ≤ X2.heap.size := by omega
        have PJ3 := Lib.hid (PJ2.out.below hb9)
        have PB3 : Hid (Bk X3) := stays_below HBK.out PB2.out hb9
        have hs3 : X2.heap.size ≤ X3.heap.size := hb9.size
        have HL3 := Lib.hid (HL2.out.below hb9)
        have HD3 := Lib.hid (HD2.out.below hb9)
        clear hb9
        go_simp
        rw [← hX3]
        clear hX3
        refine hK.out _ _ ?_ (fun hHeld => ?_)
        · (try dsimp only); (exact (HMB.out _ PJ3.out.old).cell 0)
        clear hK KK
        (try simp only [Act.put, List.setIfInBounds_toArray])
        refine wpAnyL_one 7 (by kernel_rfl) (by decide) rfl (fun KK hK => ?_)
        have fc0 := HX3.out.cell 0
        have fc1 := HX3.out.cell 1
        have fc2 := HX3.out.cell 2
        have fs0 := HX3.out.free 0
        have fs1 := HX3.out.free 1
        have fs2 := HX3.out.free 2
        simp at fc0 fc1 fc2 fs0 fs1 fs2
        have hXl := HX3.out.lt
        obtain ⟨X4, hX4⟩ : ∃ X, X = ((X3.setCell ⟨X2.heap.size, 0, none⟩ (.int .i64 n)).setCell ⟨X2.heap.size, 1, none⟩ (.int .i64 n)).setCell ⟨X2.heap.size, 2, none⟩ (.slice (some ⟨G, 0, none⟩) N cL) := ⟨_, rfl⟩
        have hk4 : ∀ k, k ≠ X2.heap.size → X4.heap[k]? = X3.heap[k]? := fun k hk => by rw [hX4]; exact set3_other hk
        have hz4 : X4.heap.size = X3.heap.size := by rw [hX4]; simp
        have hs4 : X3.heap.size ≤ X4.heap.size := by omega
        have PJ4 : Hid (J0Y w W0 bc bd X4) := ⟨by rw [hX4]; exact ((PJ3.out.bel.setCell (by have := HKK.out.w0; dsimp only; omega) _).setCell (by have := HKK.out.w0; dsimp only; omega) _).setCell (by have := HKK.out.w0; dsimp only; omega) _, fun k hk e1 e2 => (hk4 k (by omega)).trans (PJ3.out.old k hk e1 e2), by rw [hz4]; exact PJ3.out.siz, (hk4 _ (by have := HKK.out.c1; omega)).trans PJ3.out.cbx, (hk4 _ (by have := HKK.out.d1; omega)).trans PJ3.out.dbx⟩
        have PB4 : Hid (Bk X4) := by rw [hX4]; exact HBK.out _ _ PB3.out ((((KeepsOthers.setCell _ _ _).trans (KeepsOthers.setCell _ _ _)).trans (KeepsOthers.setCell _ _ _)).from _)
        have HL4 : Hid (OwnV X4 X0.heap.size (.slice (some ⟨G, 0, none⟩) N cL) N L) := by rw [hX4]; exact HL3.out.box_set3 HX3.out _ _ _
        have HD4 : Hid (OwnV X4 X1.heap.size (.slice (some ⟨X1.heap.size, 0, none⟩) n n) n (List.replicate n El.zero)) := by rw [hX4]; exact HD3.out.box_set3 HX3.out _ _ _
        have HX4 : Hid (Box X4 X2.heap.size 47 #[.int .i64 n, .int .i64 n, .slice (some ⟨G, 0, none⟩) N cL]) := by rw [hX4]; refine Lib.hid ?_; have e := ((HX3.out.set_ 0 (.int .i64 n)).set_ 1 (.int .i64 n)).set_ 2 (.slice (some ⟨G, 0, none⟩) N cL); simpa using e
        go_simp
        rw [← hX4]
        clear hX4 fc0 fc1 fc2 fs0 fs1 fs2 hk4 hz4
        refine hK.out _ _ ?_ (fun hHeld => ?_)
        · (try dsimp only); (exact (HMB.out _ PJ4.out.old).cell 0)
        clear hK KK
        (try simp only [Act.put, List.setIfInBounds_toArray])
        have HFJ : Hid (FJ n N rs w W0 bc bd X2.heap.size G cL X1.heap.size n (rowsP 0 0) 0 0 0 (.slice none 0 0) (.slice none 0 0) L (List.replicate n El.zero) X4) := FJ.start PJ4.out HL4.out HHL.out HD4.out HX4.out hbL hbD hbX (by omega)
        refine wpAnyL_last (by kernel_rfl) rfl (fun KK hK => ?_)
        go_simp
        refine hK.out _ _ ?_
        clear hK KK
        (try simp only [Act.put, List.setIfInBounds_toArray])
        refine wpAnyL_done (by kernel_rfl) ?_ _
        (try go_wp2_with fail)
        go_meet
        exact ⟨_, _, _, _, _, _, rfl, rfl, HFJ, PB4⟩
      · obtain ⟨X2, hX2⟩ : ∃ X, X = X1.alloc (.cells #[.int .i64 0, .int .i64 0, .slice none 0 0] 47) := ⟨_, rfl⟩
        have hb9 : Below X1.heap.size X1 X2 := by rw [hX2]; exact (Below.refl _ _).alloc (Nat.le_refl _) _
        have HX2 : Hid (Box X2 X1.heap.size 47 #[.int .i64 0, .int .i64 0, .slice none 0 0]) := by rw [hX2]; exact Box.new _ _ _
        have hbX : W0.heap.size ≤ X1.heap.size := by omega
        have PJ2 := Lib.hid (PJ1.out.below hb9)
        have PB2 : Hid (Bk X2) := stays_below HBK.out PB1.out hb9
        have hs2 : X1.heap.size ≤ X2.heap.size := hb9.size
        have HL2 := Lib.hid (HL1.out.below hb9)
        clear hb9
        go_simp
        rw [← hX2]
        clear hX2
        refine hK.out _ _ ?_ (fun hHeld => ?_)
        · (try dsimp only); (exact (HMB.out _ PJ2.out.old).cell 0)
        clear hK KK
        (try simp only [Act.put, List.setIfInBounds_toArray])
        refine wpAnyL_two 5 7 (by kernel_rfl) (by decide) (by decide) rfl rfl (fun KK hK => ?_) (fun KK hK => ?_)
        · refine step_make_full rfl (.tmp 13) (.tmp 13) 26 rfl X2.heap.size 30 i0 (.agg #[.bool false, .slice none 0 0, .slice none 0 0]) 3 Tryz.underlying26 hi hz0 hz1 _ _ _ _ n rfl rfl rfl rfl (by rw [hz2]; omega) (by unfold maxLen; omega) (Nat.le_refl _) ?_
          intro X3 ho9 hg9
          have hb9 : Below X2.heap.size X2 X3 := (Below.refl _ _).grown hg9 (Nat.le_refl _) (fun k hk => by cases hk)
          have HD3 : Hid (OwnV X3 X2.heap.size (.slice (some ⟨X2.heap.size, 0, none⟩) n n) n (List.replicate n El.zero)) := ⟨List.length_replicate, by rw [flat_zero] at ho9; exact ho9, fun y hy => by obtain rfl := List.eq_of_mem_replicate hy; exact El.own_zero _ _, far_zeros n⟩
          have hbD : W0.heap.size ≤ X2.heap.size := by omega
          have hGD : X2.heap.size < X3.heap.size := (HD3.out.lt _ (.inl rfl)).2
          have PJ3 := Lib.hid (PJ2.out.below hb9)
          have PB3 : Hid (Bk X3) := stays_below HBK.out PB2.out hb9
          have hs3 : X2.heap.size ≤ X3.heap.size := hb9.size
          have HL3 := Lib.hid (HL2.out.below hb9)
          have HX3 := Lib.hid (HX2.out.below hb9 HX2.out.lt)
          clear ho9 hg9 hb9
          refine hK.out _ _ ?_ (fun hHeld => ?_)
          · (try dsimp only); (exact (HMB.out _ PJ3.out.old).cell 0)
          clear hK KK
          (try simp only [Act.put, List.setIfInBounds_toArray])
          refine wpAnyL_one 7 (by kernel_rfl) (by decide) rfl (fun KK hK => ?_)
          have fc0 := HX3.out.cell 0
          have fc1 := HX3.out.cell 1
          have fc2 := HX3.out.cell 2
          have fs0 := HX3.out.free 0
          have fs1 := HX3.out.free 1
          have fs2 := HX3.out.free 2
          simp at fc0 fc1 fc2 fs0 fs1 fs2
          have hXl := HX3.out.lt
          obtain ⟨X4, hX4⟩ : ∃ X, X = ((X3.setCell ⟨X1.heap.size, 0, none⟩ (.int .i64 n)).setCell ⟨X1.heap.size, 1, none⟩ (.int .i64 n)).setCell ⟨X1.heap.size, 2, none⟩ (.slice (some ⟨G, 0, none⟩) N cL) := ⟨_, rfl⟩
          have hk4 : ∀ k, k ≠ X1.heap.size → X4.heap[k]? = X3.heap[k]? := fun k hk => by rw [hX4]; exact set3_other hk
          have hz4 : X4.heap.size = X3.heap.size := by rw [hX4]; simp
          have hs4 : X3.heap.size ≤ X4.heap.size := by omega
          have PJ4 : Hid (J0Y w W0 bc bd X4) := ⟨by rw [hX4]; exact ((PJ3.out.bel.setCell (by have := HKK.out.w0; dsimp only; omega) _).setCell (by have := HKK.out.w0; dsimp only; omega) _).setCell (by have := HKK.out.w0; dsimp only; omega) _, fun k hk e1 e2 => (hk4 k (by omega)).trans (PJ3.out.old k hk e1 e2), by rw [hz4]; exact PJ3.out.siz, (hk4 _ (by have := HKK.out.c1; omega)).trans PJ3.out.cbx, (hk4 _ (by have := HKK.out.d1; omega)).trans PJ3.out.dbx⟩
          have PB4 : Hid (Bk X4) := by rw [hX4]; exact HBK.out _ _ PB3.out ((((KeepsOthers.setCell _ _ _).trans (KeepsOthers.setCell _ _ _)).trans (KeepsOthers.setCell _ _ _)).from _)
          have HL4 : Hid (OwnV X4 X0.heap.size (.slice (some ⟨G, 0, none⟩) N cL) N L) := by rw [hX4]; exact HL3.out.box_set3 HX3.out _ _ _
          have HD4 : Hid (OwnV X4 X2.heap.size (.slice (some ⟨X2.heap.size, 0, none⟩) n n) n (List.replicate n El.zero)) := by rw [hX4]; exact HD3.out.box_set3 HX3.out _ _ _
          have HX4 : Hid (Box X4 X1.heap.size 47 #[.int .i64 n, .int .i64 n, .slice (some ⟨G, 0, none⟩) N cL]) := by rw [hX4]; refine Lib.hid ?_; have e := ((HX3.out.set_ 0 (.int .i64 n)).set_ 1 (.int .i64 n)).set_ 2 (.slice (some ⟨G, 0, none⟩) N cL); simpa using e
          go_simp
          rw [← hX4]
          clear hX4 fc0 fc1 fc2 fs0 fs1 fs2 hk4 hz4
          refine hK.out _ _ ?_ (fun hHeld => ?_)
          · (try dsimp only); (exact (HMB.out _ PJ4.out.old).cell 0)
          clear hK KK
          (try simp only [Act.put, List.setIfInBounds_toArray])
          have HFJ : Hid (FJ n N rs w W0 bc bd X1.heap.size G cL X2.heap.size n (rowsP 0 0) 0 0 0 (.slice none 0 0) (.slice none 0 0) L (List.replicate n El.zero) X4) := FJ.start PJ4.out HL4.out HHL.out HD4.out HX4.out hbL hbD hbX (by omega)
          refine wpAnyL_last (by kernel_rfl) rfl (fun KK hK => ?_)
          go_simp
          refine hK.out _ _ ?_
          clear hK KK
          (try simp only [Act.put, List.setIfInBounds_toArray])
          refine wpAnyL_done (by kernel_rfl) ?_ _
          (try go_wp2_with fail)
          go_meet
          exact ⟨_, _, _, _, _, _, rfl, rfl, HFJ, PB4⟩
        · have fc0 := HX2.out.cell 0
          have fc1 := HX2.out.cell 1
          have fc2 := HX2.out.cell 2
          have fs0 := HX2.out.free 0
          have fs1 := HX2.out.free 1
          have fs2 := HX2.out.free 2
          simp at fc0 fc1 fc2 fs0 fs1 fs2
          have hXl := HX2.out.lt
          obtain ⟨X3, hX3⟩ : ∃ X, X = ((X2.setCell ⟨X1.heap.size, 0, none⟩ (.int .i64 n)).setCell ⟨X1.heap.size, 1, none⟩ (.int .i64 n)).setCell ⟨X1.heap.size, 2, none⟩ (.slice (some ⟨G, 0, none⟩) N cL) := ⟨_, rfl⟩
          have hk4 : ∀ k, k ≠ X1.heap.size → X3.heap[k]? = X2.heap[k]? := fun k hk => by rw [hX3]; exact set3_other hk
          have hz4 : X3.heap.size = X2.heap.size := by rw [hX3]; simp
          have hs3 : X2.heap.size ≤ X3.heap.size := by omega
          have PJ3 : Hid (J0Y w W0 bc bd X3) := ⟨by rw [hX3]; exact ((PJ2.out.bel.setCell (by have := HKK.out.w0; dsimp only; omega) _).setCell (by have := HKK.out.w0; dsimp only; omega) _).setCell (by have := HKK.out.w0; dsimp only; omega) _, fun k hk e1 e2 => (hk4 k (by omega)).trans (PJ2.out.old k hk e1 e2), by rw [hz4]; exact PJ2.out.siz, (hk4 _ (by have := HKK.out.c1; omega)).trans PJ2.out.cbx, (hk4 _ (by have := HKK.out.d1; omega)).trans PJ2.out.dbx⟩
          have PB3 : Hid (Bk X3) := by rw [hX3]; exact HBK.out _ _ PB2.out ((((KeepsOthers.setCell _ _ _).trans (KeepsOthers.setCell _ _ _)).trans (KeepsOthers.setCell _ _ _)).from _)
          have HL3 : Hid (OwnV X3 X0.heap.size (.slice (some ⟨G, 0, none⟩) N cL) N L) := by rw [hX3]; exact HL2.out.box_set3 HX2.out _ _ _
          have HX3 : Hid (Box X3 X1.heap.size 47 #[.int .i64 n, .int .i64 n, .slice (some ⟨G, 0, none⟩) N cL]) := by rw [hX3]; refine Lib.hid ?_; have e := ((HX2.out.set_ 0 (.int .i64 n)).set_ 1 (.int .i64 n)).set_ 2 (.slice (some ⟨G, 0, none⟩) N cL); simpa using e
          go_simp
          rw [← hX3]
          clear hX3 fc0 fc1 fc2 fs0 fs1 fs2 hk4 hz4
          refine hK.out _ _ ?_ (fun hHeld => ?_)
          · (try dsimp only); (exact (HMB.out _ PJ3.out.old).cell 0)
          clear hK KK
          (try simp only [Act.put, List.setIfInBounds_toArray])
          refine wpAnyL_one 5 (by kernel_rfl) (by decide) rfl (fun KK hK => ?_)
          refine step_make_full rfl (.tmp 13) (.tmp 13) 26 rfl X3.heap.size 30 i0 (.agg #[.bool false, .slice none 0 0, .slice none 0 0]) 3 Tryz.underlying26 hi hz0 hz1 _ _ _ _ n rfl rfl rfl rfl (by rw [hz2]; omega) (by unfold maxLen; omega) (Nat.le_refl _) ?_
          intro X4 ho9 hg9
          have hb9 : Below X3.heap.size X3 X4 := (Below.refl _ _).grown hg9 (Nat.le_refl _) (fun k hk => by cases hk)
          have HD4 : Hid (OwnV X4 X3.heap.size (.slice (some ⟨X3.heap.size, 0, none⟩) n n) n (List.replicate n El.zero)) := ⟨List.length_replicate, by rw [flat_zero] at ho9; exact ho9, fun y hy => by obtain rfl := List.eq_of_mem_replicate hy; exact El.own_zero _ _, far_zeros n⟩
          have hbD : W0.heap.size ≤ X3.heap.size := by omega
          have hGD : X3.heap.size < X4.heap.size := (HD4.out.lt _ (.inl rfl)).2
          have PJ4 := Lib.hid (PJ3.out.below hb9)
          have PB4 : Hid (Bk X4) := stays_below HBK.out PB3.out hb9
          have hs4 : X3.heap.size ≤ X4.heap.size := hb9.size
          have HL4 := Lib.hid (HL3.out.below hb9)
          have HX4 := Lib.hid (HX3.out.below hb9 HX3.out.lt)
          clear ho9 hg9 hb9
          refine hK.out _ _ ?_ (fun hHeld => ?_)
          · (try dsimp only); (exact (HMB.out _ PJ4.out.old).cell 0)
          clear hK KK
          (try simp only [Act.put, List.setIfInBounds_toArray])
          have HFJ : Hid (FJ n N rs w W0 bc bd X1.heap.size G cL X3.heap.size n (rowsP 0 0) 0 0 0 (.slice none 0 0) (.slice none 0 0) L (List.replicate n El.zero) X4) := FJ.start PJ4.out HL4.out HHL.out HD4.out HX4.out hbL hbD hbX (by omega)
          refine wpAnyL_last (by kernel_rfl) rfl (fun KK hK => ?_)
          go_simp
          refine hK.out _ _ ?_
          clear hK KK
          (try simp only [Act.put, List.setIfInBounds_toArray])
          refine wpAnyL_done (by kernel_rfl) ?_ _
          (try go_wp2_with fail)
          go_meet
          exact ⟨_, _, _, _, _, _, rfl, rfl, HFJ, PB4⟩
    · refine step_make_full rfl (.tmp 13) (.tmp 13) 26 rfl X0.heap.size 30 i0 (.agg #[.bool false, .slice none 0 0, .slice none 0 0]) 3 Tryz.underlying26 hi hz0 hz1 _ _ _ _ n rfl rfl rfl rfl (by rw [hz2]; omega) (by unfold maxLen; omega) (Nat.le_refl _) ?_
      intro X1 ho9 hg9
      have hb9 : Below X0.heap.size X0 X1 := (Below.refl _ _).grown hg9 (Nat.le_refl _) (fun k hk => by cases hk)
      have HD1 : Hid (OwnV X1 X0.heap.size (.slice (some ⟨X0.heap.size, 0, none⟩) n n) n (List.replicate n El.zero)) := ⟨List.length_replicate, by rw [flat_zero] at ho9; exact ho9, fun y hy => by obtain rfl := List.eq_of_mem_replicate hy; exact El.own_zero _ _, far_zeros n⟩
      have hbD : W0.heap.size ≤ X0.heap.size := by omega
      have hGD : X0.heap.size < X1.heap.size := (HD1.out.lt _ (.inl rfl)).2
      have PJ1 := Lib.hid (PJ0.out.below hb9)
      have PB1 : Hid (Bk X1) := stays_below HBK.out PB0.out hb9
      have hs1 : X0.heap.size ≤ X1.heap.size := hb9.size
      clear ho9 hg9 hb9
      refine hK.out _ _ ?_ (fun hHeld => ?_)
      · (try dsimp only); (exact (HMB.out _ PJ1.out.old).cell 0)
      clear hK KK
      (try simp only [Act.put, List.setIfInBounds_toArray])
      refine wpAnyL_two 2 6 (by kernel_rfl) (by decide) (by decide) rfl rfl (fun KK hK => ?_) (fun KK hK => ?_)
      · go_simp
        go_at_call 53
        (with_reducible refine (impl_identityMatrix0 n _ (by omega)).mono ?_)
        rintro e X2 ⟨p9, k9, r9, V9, rfl, hi9, hr9, hb9⟩
        obtain ⟨rfl, rfl, rfl⟩ := ident_at hn hi9
        obtain ⟨_, _, L, ho9, hh9⟩ := hr9
        rw [show (ident n).length = N from by rw [ident_len, HN.out]] at ho9
        obtain ⟨AL, cL, rfl⟩ := ho9.slice
        obtain ⟨G, rfl, hG0, hG1⟩ := own_at' ho9.2.1 hNp
        have HL2 : Hid (OwnV X2 X1.heap.size _ N L) := ho9
        have HHL : Hid (Has L (ident n)) := hh9
        have hbL : W0.heap.size ≤ X1.heap.size := by omega
        have PJ2 := Lib.hid (PJ1.out.below hb9)
        have PB2 : Hid (Bk X2) := stays_below HBK.out PB1.out hb9
        have hs2 : X1.heap.size ≤ X2.heap.size := hb9.size
        have HD2 := Lib.hid (HD1.out.below hb9)
        clear hi9 ho9 hh9 hb9
        (try go_wp2_with fail)
        refine hK.out _ _ ?_ (fun hHeld => ?_)
        · (try dsimp only); (exact (HMB.out _ PJ2.out.old).cell 0)
        clear hK KK
        (try simp only [Act.put, List.setIfInBounds_toArray])
        refine wpAnyL_one 6 (by kernel_rfl) (by decide) rfl (fun KK hK => ?_)
        obtain ⟨X3, hX3⟩ : ∃ X, X = X2.alloc (.cells #[.int .i64 0, .int .i64 0, .slice none 0 0] 47) := ⟨_, rfl⟩
        have hb9 : Below X2.heap.size X2 X3 := by rw [hX3]; exact (Below.refl _ _).alloc (Nat.le_refl _) _
        have HX3 : Hid (Box X3 X2.heap.size 47 #[.int .i64 0, .int .i64 0, .slice none 0 0]) := by rw [hX3]; exact Box.new _ _ _
        have hbX : W0.heap.size ≤ X2.heap.size := by omega
        have PJ3 := Lib.hid (PJ2.out.below hb9)
        have PB3 : Hid (Bk X3) := stays_below HBK.out PB2.out hb9
        have hs3 : X2.heap.size ≤ X3.heap.size := hb9.size
        have HL3 := Lib.hid (HL2.out.below hb9)
        have HD3 := Lib.hid (HD2.out.below hb9)
        clear hb9
        go_simp
        rw [← hX3]
        clear hX3
        refine hK.out _ _ ?_ (fun hHeld => ?_)
        · (try dsimp only); (exact (HMB.out _ PJ3.out.old).cell 0)
        clear hK KK
        (try simp only [Act.put, List.setIfInBounds_toArray])
        refine wpAnyL_one 7 (by kernel_rfl) (by decide) rfl (fun KK hK => ?_)
        have fc0 := HX3.out.cell 0
        have fc1 := HX3.out.cell 1
        have fc2 := HX3.out.cell 2
        have fs0 := HX3.out.free 0
        have fs1 := HX3.out.free 1
        have fs2 := HX3.out.free 2
        simp at fc0 fc1 fc2 fs0 fs1 fs2
        have hXl := HX3.out.lt
        obtain ⟨X4, hX4⟩ : ∃ X, X = ((X3.setCell ⟨X2.heap.size, 0, none⟩ (.int .i64 n)).setCell ⟨X2.heap.size, 1, none⟩ (.int .i64 n)).setCell ⟨X2.heap.size, 2, none⟩ (.slice (some ⟨G, 0, none⟩) N cL) := ⟨_, rfl⟩
        have hk4 : ∀ k, k ≠ X2.heap.size → X4.heap[k]? = X3.heap[k]? := fun k hk => by rw [hX4]; exact set3_other hk
        have hz4 : X4.heap.size = X3.heap.size := by rw [hX4]; simp
        have hs4 : X3.heap.size ≤ X4.heap.size := by omega
        have PJ4 : Hid (J0Y w W0 bc bd X4) := ⟨by rw [hX4]; exact ((PJ3.out.bel.setCell (by have := HKK.out.w0; dsimp only; omega) _).setCell (by have := HKK.out.w0; dsimp only; omega) _).setCell (by have := HKK.out.w0; dsimp only; omega) _, fun k hk e1 e2 => (hk4 k (by omega)).trans (PJ3.out.old k hk e1 e2), by rw [hz4]; exact PJ3.out.siz, (hk4 _ (by have := HKK.out.c1; omega)).trans PJ3.out.cbx, (hk4 _ (by have := HKK.out.d1; omega)).trans PJ3.out.dbx⟩
        have PB4 : Hid (Bk X4) := by rw [hX4]; exact HBK.out _ _ PB3.out ((((KeepsOthers.setCell _ _ _).trans (KeepsOthers.setCell _ _ _)).trans (KeepsOthers.setCell _ _ _)).from _)
        have HL4 : Hid (OwnV X4 X1.heap.size (.slice (some ⟨G, 0, none⟩) N cL) N L) := by rw [hX4]; exact HL3.out.box_set3 HX3.out _ _ _
        have HD4 : Hid (OwnV X4 X0.heap.size (.slice (some ⟨X0.heap.size, 0, none⟩) n n) n (List.replicate n El.zero)) := by rw [hX4]; exact HD3.out.box_set3 HX3.out _ _ _
        have HX4 : Hid (Box X4 X2.heap.size 47 #[.int .i64 n, .int .i64 n, .slice (some ⟨G, 0, none⟩) N cL]) := by rw [hX4]; refine Lib.hid ?_; have e := ((HX3.out.set_ 0 (.int .i64 n)).set_ 1 (.int .i64 n)).set_ 2 (.slice (some ⟨G, 0, none⟩) N cL); simpa using e
        go_simp
        rw [← hX4]
        clear hX4 fc0 fc1 fc2 fs0 fs1 fs2 hk4 hz4
        refine hK.out _ _ ?_ (fun hHeld => ?_)
        · (try dsimp only); (exact (HMB.out _ PJ4.out.old).cell 0)
        clear hK KK
        (try simp only [Act.put, List.setIfInBounds_toArray])
        have HFJ : Hid (FJ n N rs w W0 bc bd X2.heap.size G cL X0.heap.size n (rowsP 0 0) 0 0 0 (.slice none 0 0) (.slice none 0 0) L (List.replicate n El.zero) X4) := FJ.start PJ4.out HL4.out HHL.out HD4.out HX4.out hbL hbD hbX (by omega)
        refine wpAnyL_last (by kernel_rfl) rfl (fun KK hK => ?_)
        go_simp
        refine hK.out _ _ ?_
        clear hK KK
        (try simp only [Act.put, List.setIfInBounds_toArray])
        refine wpAnyL_done (by kernel_rfl) ?_ _
        (try go_wp2_with fail)
        go_meet
        exact ⟨_, _, _, _, _, _, rfl, rfl, HFJ, PB4⟩
      · obtain ⟨X2, hX2⟩ : ∃ X, X = X1.alloc (.cells #[.int .i64 0, .int .i64 0, .slice none 0 0] 47) := ⟨_, rfl⟩
        have hb9 : Below X1.heap.size X1 X2 := by rw [hX2]; exact (Below.refl _ _).alloc (Nat.le_refl _) _
        have HX2 : Hid (Box X2 X1.heap.size 47 #[.int .i64 0, .int .i64 0, .slice none 0 0]) := by rw [hX2]; exact Box.new _ _ _
        have hbX : W0.heap.size ≤ X1.heap.size := by omega
        have PJ2 := Lib.hid (PJ1.out.below hb9)
        have PB2 : Hid (Bk X2) := stays_below HBK.out PB1.out hb9
        have hs2 : X1.heap.size ≤ X2.heap.size := hb9.size
        have HD2 := Lib.hid (HD1.out.below hb9)
        clear hb9
        go_simp
        rw [← hX2]
        clear hX2
        refine hK.out _ _ ?_ (fun hHeld => ?_)
        · (try dsimp only); (exact (HMB.out _ PJ2.out.old).cell 0)
        clear hK KK
        (try simp only [Act.put, List.setIfInBounds_toArray])
        refine wpAnyL_one 2 (by kernel_rfl) (by decide) rfl (fun KK hK => ?_)
        go_simp
        go_at_call 53
        (with_reducible refine (impl_identityMatrix0 n _ (by omega)).mono ?_)
        rintro e X3 ⟨p9, k9, r9, V9, rfl, hi9, hr9, hb9⟩
        obtain ⟨rfl, rfl, rfl⟩ := ident_at hn hi9
        obtain ⟨_, _, L, ho9, hh9⟩ := hr9
        rw [show (ident n).length = N from by rw [ident_len, HN.out]] at ho9
        obtain ⟨AL, cL, rfl⟩ := ho9.slice
        obtain ⟨G, rfl, hG0, hG1⟩ := own_at' ho9.2.1 hNp
        have HL3 : Hid (OwnV X3 X2.heap.size _ N L) := ho9
        have HHL : Hid (Has L (ident n)) := hh9
        have hbL : W0.heap.size ≤ X2.heap.size := by omega
        have PJ3 := Lib.hid (PJ2.out.below hb9)
        have PB3 : Hid (Bk X3) := stays_below HBK.out PB2.out hb9
        have hs3 : X2.heap.size ≤ X3.heap.size := hb9.size
        have HD3 := Lib.hid (HD2.out.below hb9)
        have HX3 := Lib.hid (HX2.out.below hb9 HX2.out.lt)
        clear hi9 ho9 hh9 hb9
        (try go_wp2_with fail)
        refine hK.out _ _ ?_ (fun hHeld => ?_)
        · (try dsimp only); (exact (HMB.out _ PJ3.out.old).cell 0)
        clear hK KK
        (try simp only [Act.put, List.setIfInBounds_toArray])
        refine wpAnyL_one 7 (by kernel_rfl) (by decide) rfl (fun KK hK => ?_)
        have fc0 := HX3.out.cell 0
        have fc1 := HX3.out.cell 1
        have fc2 := HX3.out.cell 2
        have fs0 := HX3.out.free 0
        have fs1 := HX3.out.free 1
        have fs2 := HX3.out.free 2
        simp at fc0 fc1 fc2 fs0 fs1 fs2
        have hXl := HX3.out.lt
        obtain ⟨X4, hX4⟩ : ∃ X, X = ((X3.setCell ⟨X1.heap.size, 0, none⟩ (.int .i64 n)).setCell ⟨X1.heap.size, 1, none⟩ (.int .i64 n)).setCell ⟨X1.heap.size, 2, none⟩ (.slice (some ⟨G, 0, none⟩) N cL) := ⟨_, rfl⟩
        have hk4 : ∀ k, k ≠ X1.heap.size → X4.heap[k]? = X3.heap[k]? := fun k hk => by rw [hX4]; exact set3_other hk
        have hz4 : X4.heap.size = X3.heap.size := by rw [hX4]; simp
        have hs4 : X3.heap.size ≤ X4.heap.size := by omega
        have PJ4 : Hid (J0Y w W0 bc bd X4) := ⟨by rw [hX4]; exact ((PJ3.out.bel.setCell (by have := HKK.out.w0; dsimp only; omega) _).setCell (by have := HKK.out.w0; dsimp only; omega) _).setCell (by have := HKK.out.w0; dsimp only; omega) _, fun k hk e1 e2 => (hk4 k (by omega)).trans (PJ3.out.old k hk e1 e2), by rw [hz4]; exact PJ3.out.siz, (hk4 _ (by have := HKK.out.c1; omega)).trans PJ3.out.cbx, (hk4 _ (by have := HKK.out.d1; omega)).trans PJ3.out.dbx⟩
        have PB4 : Hid (Bk X4) := by rw [hX4]; exact HBK.out _ _ PB3.out ((((KeepsOthers.setCell _ _ _).trans (KeepsOthers.setCell _ _ _)).trans (KeepsOthers.setCell _ _ _)).from _)
        have HL4 : Hid (OwnV X4 X2.heap.size (.slice (some ⟨G, 0, none⟩) N cL) N L) := by rw [hX4]; exact HL3.out.box_set3 HX3.out _ _ _
        have HD4 : Hid (OwnV X4 X0.heap.size (.slice (some ⟨X0.heap.size, 0, none⟩) n n) n (List.replicate n El.zero)) := by rw [hX4]; exact HD3.out.box_set3 HX3.out _ _ _
        have HX4 : Hid (Box X4 X1.heap.size 47 #[.int .i64 n, .int .i64 n, .slice (some ⟨G, 0, none⟩) N cL]) := by rw [hX4]; refine Lib.hid ?_; have e := ((HX3.out.set_ 0 (.int .i64 n)).set_ 1 (.int .i64 n)).set_ 2 (.slice (some ⟨G, 0, none⟩) N cL); simpa using e
        go_simp
        rw [← hX4]
        clear hX4 fc0 fc1 fc2 fs0 fs1 fs2 hk4 hz4
        refine hK.out _ _ ?_ (fun hHeld => ?_)
        · (try dsimp only); (exact (HMB.out _ PJ4.out.old).cell 0)
        clear hK KK
        (try simp only [Act.put, List.setIfInBounds_toArray])
        have HFJ : Hid (FJ n N rs w W0 bc bd X1.heap.size G cL X0.heap.size n (rowsP 0 0) 0 0 0 (.slice none 0 0) (.slice none 0 0) L (List.replicate n El.zero) X4) := FJ.start PJ4.out HL4.out HHL.out HD4.out HX4.out hbL hbD hbX (by omega)
        refine wpAnyL_last (by kernel_rfl) rfl (fun KK hK => ?_)
        go_simp
        refine hK.out _ _ ?_
        clear hK KK
        (try simp only [Act.put, List.setIfInBounds_toArray])
        refine wpAnyL_done (by kernel_rfl) ?_ _
        (try go_wp2_with fail)
        go_meet
        exact ⟨_, _, _, _, _, _, rfl, rfl, HFJ, PB4⟩
    · obtain ⟨X1, hX1⟩ : ∃ X, X = X0.alloc (.cells #[.int .i64 0, .int .i64 0, .slice none 0 0] 47) := ⟨_, rfl⟩
      have hb9 : Below X0.heap.size X0 X1 := by rw [hX1]; exact (Below.refl _ _).alloc (Nat.le_refl _) _
      have HX1 : Hid (Box X1 X0.heap.size 47 #[.int .i64 0, .int .i64 0, .slice none 0 0]) := by rw [hX1]; exact Box.new _ _ _
      have hbX : W0.heap.size ≤ X0.heap.size := by omega
      have PJ1 := Lib.hid (PJ0.out.below hb9)
      have PB1 : Hid (Bk X1) := stays_below HBK.out PB0.out hb9
      have hs1 : X0.heap.size ≤ X1.heap.size := hb9.size
      clear hb9
      go_simp
      rw [← hX1]
      clear hX1
      refine hK.out _ _ ?_ (fun hHeld => ?_)
      · (try dsimp only); (exact (HMB.out _ PJ1.out.old).cell 0)
      clear hK KK
      (try simp only [Act.put, List.setIfInBounds_toArray])
      refine wpAnyL_two 2 5 (by kernel_rfl) (by decide) (by decide) rfl rfl (fun KK hK => ?_) (fun KK hK => ?_)
      · go_simp
        go_at_call 53
        (with_reducible refine (impl_identityMatrix0 n _ (by omega)).mono ?_)
        rintro e X2 ⟨p9, k9, r9, V9, rfl, hi9, hr9, hb9⟩
        obtain ⟨rfl, rfl, rfl⟩ := ident_at hn hi9
        obtain ⟨_, _, L, ho9, hh9⟩ := hr9
        rw [show (ident n).length = N from by rw [ident_len, HN.out]] at ho9
        obtain ⟨AL, cL, rfl⟩ := ho9.slice
        obtain ⟨G, rfl, hG0, hG1⟩ := own_at' ho9.2.1 hNp
        have HL2 : Hid (OwnV X2 X1.heap.size _ N L) := ho9
        have HHL : Hid (Has L (ident n)) := hh9
        have hbL : W0.heap.size ≤ X1.heap.size := by omega
        have PJ2 := Lib.hid (PJ1.out.below hb9)
        have PB2 : Hid (Bk X2) := stays_below HBK.out PB1.out hb9
        have hs2 : X1.heap.size ≤ X2.heap.size := hb9.size
        have HX2 := Lib.hid (HX1.out.below hb9 HX1.out.lt)
        clear hi9 ho9 hh9 hb9
        (try go_wp2_with fail)
        refine hK.out _ _ ?_ (fun hHeld => ?_)
        · (try dsimp only); (exact (HMB.out _ PJ2.out.old).cell 0)
        clear hK KK
        (try simp only [Act.put, List.setIfInBounds_toArray])
        refine wpAnyL_two 5 7 (by kernel_rfl) (by decide) (by decide) rfl rfl (fun KK hK => ?_) (fun KK hK => ?_)
        · refine step_make_full rfl (.tmp 13) (.tmp 13) 26 rfl X2.heap.size 30 i0 (.agg #[.bool false, .slice none 0 0, .slice none 0 0]) 3 Tryz.underlying26 hi hz0 hz1 _ _ _ _ n rfl rfl rfl rfl (by rw [hz2]; omega) (by unfold maxLen; omega) (Nat.le_refl _) ?_
          intro X3 ho9 hg9
          have hb9 : Below X2.heap.size X2 X3 := (Below.refl _ _).grown hg9 (Nat.le_refl _) (fun k hk => by cases hk)
          have HD3 : Hid (OwnV X3 X2.heap.size (.slice (some ⟨X2.heap.size, 0, none⟩) n n) n (List.replicate n El.zero)) := ⟨List.length_replicate, by rw [flat_zero] at ho9; exact ho9, fun y hy => by obtain rfl := List.eq_of_mem_replicate hy; exact El.own_zero _ _, far_zeros n⟩
          have hbD : W0.heap.size ≤ X2.heap.size := by omega
          have hGD : X2.heap.size < X3.heap.size := (HD3.out.lt _ (.inl rfl)).2
          have PJ3 := Lib.hid (PJ2.out.below hb9)
          have PB3 : Hid (Bk X3) := stays_below HBK.out PB2.out hb9
          have hs3 : X2.heap.size ≤ X3.heap.size := hb9.size
          have HL3 := Lib.hid (HL2.out.below hb9)
          have HX3 := Lib.hid (HX2.out.below hb9 HX2.out.lt)
          clear ho9 hg9 hb9
          refine hK.out _ _ ?_ (fun hHeld => ?_)
          · (try dsimp only); (exact (HMB.out _ PJ3.out.old).cell 0)
          clear hK KK
          (try simp only [Act.put, List.setIfInBounds_toArray])
          refine wpAnyL_one 7 (by kernel_rfl) (by decide) rfl (fun KK hK => ?_)
          have fc0 := HX3.out.cell 0
          have fc1 := HX3.out.cell 1
          have fc2 := HX3.out.cell 2
          have fs0 := HX3.out.free 0
          have fs1 := HX3.out.free 1
          have fs2 := HX3.out.free 2
          simp at fc0 fc1 fc2 fs0 fs1 fs2
          have hXl := HX3.out.lt
          obtain ⟨X4, hX4⟩ : ∃ X, X = ((X3.setCell ⟨X0.heap.size, 0, none⟩ (.int .i64 n)).setCell ⟨X0.heap.size, 1, none⟩ (.int .i64 n)).setCell ⟨X0.heap.size, 2, none⟩ (.slice (some ⟨G, 0, none⟩) N cL) := ⟨_, rfl⟩
          have hk4 : ∀ k, k ≠ X0.heap.size → X4.heap[k]? = X3.heap[k]? := fun k hk => by rw [hX4]; exact set3_other hk
          have hz4 : X4.heap.size = X3.heap.size := by rw [hX4]; simp
          have hs4 : X3.heap.size ≤ X4.heap.size := by omega
          have PJ4 : Hid (J0Y w W0 bc bd X4) := ⟨by rw [hX4]; exact ((PJ3.out.bel.setCell (by have := HKK.out.w0; dsimp only; omega) _).setCell (by have := HKK.out.w0; dsimp only; omega) _).setCell (by have := HKK.out.w0; dsimp only; omega) _, fun k hk e1 e2 => (hk4 k (by omega)).trans (PJ3.out.old k hk e1 e2), by rw [hz4]; exact PJ3.out.siz, (hk4 _ (by have := HKK.out.c1; omega)).trans PJ3.out.cbx, (hk4 _ (by have := HKK.out.d1; omega)).trans PJ3.out.dbx⟩
          have PB4 : Hid (Bk X4) := by rw [hX4]; exact HBK.out _ _ PB3.out ((((KeepsOthers.setCell _ _ _).trans (KeepsOthers.setCell _ _ _)).trans (KeepsOthers.setCell _ _ _)).from _)
          have HL4 : Hid (OwnV X4 X1.heap.size (.slice (some ⟨G, 0, none⟩) N cL) N L) := by rw [hX4]; exact HL3.out.box_set3 HX3.out _ _ _
          have HD4 : Hid (OwnV X4 X2.heap.size (.slice (some ⟨X2.heap.size, 0, none⟩) n n) n (List.replicate n El.zero)) := by rw [hX4]; exact HD3.out.box_set3 HX3.out _ _ _
          have HX4 : Hid (Box X4 X0.heap.size 47 #[.int .i64 n, .int .i64 n, .slice (some ⟨G, 0, none⟩) N cL]) := by rw [hX4]; refine Lib.hid ?_; have e := ((HX3.out.set_ 0 (.int .i64 n)).set_ 1 (.int .i64 n)).set_ 2 (.slice (some ⟨G, 0, none⟩) N cL); simpa using e
          go_simp
          rw [← hX4]
          clear hX4 fc0 fc1 fc2 fs0 fs1 fs2 hk4 hz4
          refine hK.out _ _ ?_ (fun hHeld => ?_)
          · (try dsimp only); (exact (HMB.out _ PJ4.out.old).cell 0)
          clear hK KK
          (try simp only [Act.put, List.setIfInBounds_toArray])
          have HFJ : Hid (FJ n N rs w W0 bc bd X0.heap.size G cL X2.heap.size n (rowsP 0 0) 0 0 0 (.slice none 0 0) (.slice none 0 0) L (List.replicate n El.zero) X4) := FJ.start PJ4.out HL4.out HHL.out HD4.out HX4.out hbL hbD hbX (by omega)
          refine wpAnyL_last (by kernel_rfl) rfl (fun KK hK => ?_)
          go_simp
          refine hK.out _ _ ?_
          clear hK KK
          (try simp only [Act.put, List.setIfInBounds_toArray])
          refine wpAnyL_done (by kernel_rfl) ?_ _
          (try go_wp2_with fail)
          go_meet
          exact ⟨_, _, _, _, _, _, rfl, rfl, HFJ, PB4⟩
        · have fc0 := HX2.out.cell 0
          have fc1 := HX2.out.cell 1
          have fc2 := HX2.out.cell 2
          have fs0 := HX2.out.free 0
          have fs1 := HX2.out.free 1
          have fs2 := HX2.out.free 2
          simp at fc0 fc1 fc2 fs0 fs1 fs2
          have hXl := HX2.out.lt
          obtain ⟨X3, hX3⟩ : ∃ X, X = ((X2.setCell ⟨X0.heap.size, 0, none⟩ (.int .i64 n)).setCell ⟨X0.heap.size, 1, none⟩ (.int .i64 n)).setCell ⟨X0.heap.size, 2, none⟩ (.slice (some ⟨G, 0, none⟩) N cL) := ⟨_, rfl⟩
          have hk4 : ∀ k, k ≠ X0.heap.size → X3.heap[k]? = X2.heap[k]? := fun k hk => by rw [hX3]; exact set3_other hk
          have hz4 : X3.heap.size = X2.heap.size := by rw [hX3]; simp
          have hs3 : X2.heap.size ≤ X3.heap.size := by omega
          have PJ3 : Hid (J0Y w W0 bc bd X3) := ⟨by rw [hX3]; exact ((PJ2.out.bel.setCell (by have := HKK.out.w0; dsimp only; omega) _).setCell (by have := HKK.out.w0; dsimp only; omega) _).setCell (by have := HKK.out.w0; dsimp only; omega) _, fun k hk e1 e2 => (hk4 k (by omega)).trans (PJ2.out.old k hk e1 e2), by rw [hz4]; exact PJ2.out.siz, (hk4 _ (by have := HKK.out.c1; omega)).trans PJ2.out.cbx, (hk4 _ (by have := HKK.out.d1; omega)).trans PJ2.out.dbx⟩
          have PB3 : Hid (Bk X3) := by rw [hX3]; exact HBK.out _ _ PB2.out ((((KeepsOthers.setCell _ _ _).trans (KeepsOthers.setCell _ _ _)).trans (KeepsOthers.setCell _ _ _)).from _)
          have HL3 : Hid (OwnV X3 X1.heap.size (.slice (some ⟨G, 0, none⟩) N cL) N L) := by rw [hX3]; exact HL2.out.box_set3 HX2.out _ _ _
          have HX3 : Hid (Box X3 X0.heap.size 47 #[.int .i64 n, .int .i64 n, .slice (some ⟨G, 0, none⟩) N cL]) := by rw [hX3]; refine Lib.hid ?_; have e := ((HX2.out.set_ 0 (.int .i64 n)).set_ 1 (.int .i64 n)).set_ 2 (.slice (some ⟨G, 0, none⟩) N cL); simpa using e
          go_simp
          rw [← hX3]
          clear hX3 fc0 fc1 fc2 fs0 fs1 fs2 hk4 hz4
          refine hK.out _ _ ?_ (fun hHeld => ?_)
          · (try dsimp only); (exact (HMB.out _ PJ3.out.old).cell 0)
          clear hK KK
          (try simp only [Act.put, List.setIfInBounds_toArray])
          refine wpAnyL_one 5 (by kernel_rfl) (by decide) rfl (fun KK hK => ?_)
          refine step_make_full rfl (.tmp 13) (.tmp 13) 26 rfl X3.heap.size 30 i0 (.agg #[.bool false, .slice none 0 0, .slice none 0 0]) 3 Tryz.underlying26 hi hz0 hz1 _ _ _ _ n rfl rfl rfl rfl (by rw [hz2]; omega) (by unfold maxLen; omega) (Nat.le_refl _) ?_
          intro X4 ho9 hg9
          have hb9 : Below X3.heap.size X3 X4 := (Below.refl _ _).grown hg9 (Nat.le_refl _) (fun k hk => by cases hk)
          have HD4 : Hid (OwnV X4 X3.heap.size (.slice (some ⟨X3.heap.size, 0, none⟩) n n) n (List.replicate n El.zero)) := ⟨List.length_replicate, by rw [flat_zero] at ho9; exact ho9, fun y hy => by obtain rfl := List.eq_of_mem_replicate hy; exact El.own_zero _ _, far_zeros n⟩
          have hbD : W0.heap.size ≤ X3.heap.size := by omega
          have hGD : X3.heap.size < X4.heap.size := (HD4.out.lt _ (.inl rfl)).2
          have PJ4 := Lib.hid (PJ3.out.below hb9)
          have PB4 : Hid (Bk X4) := stays_below HBK.out PB3.out hb9
          have hs4 : X3.heap.size ≤ X4.heap.size := hb9.size
          have HL4 := Lib.hid (HL3.out.below hb9)
          have HX4 := Lib.hid (HX3.out.below hb9 HX3.out.lt)
          clear ho9 hg9 hb9
          refine hK.out _ _ ?_ (fun hHeld => ?_)
          · (try dsimp only); (exact (HMB.out _ PJ4.out.old).cell 0)
          clear hK KK
          (try simp only [Act.put, List.setIfInBounds_toArray])
          have HFJ : Hid (FJ n N rs w W0 bc bd X0.heap.size G cL X3.heap.size n (rowsP 0 0) 0 0 0 (.slice none 0 0) (.slice none 0 0) L (List.replicate n El.zero) X4) := FJ.start PJ4.out HL4.out HHL.out HD4.out HX4.out hbL hbD hbX (by omega)
          refine wpAnyL_last (by kernel_rfl) rfl (fun KK hK => ?_)
          go_simp
          refine hK.out _ _ ?_
          clear hK KK
          (try simp only [Act.put, List.setIfInBounds_toArray])
          refine wpAnyL_done (by kernel_rfl) ?_ _
          (try go_wp2_with fail)
          go_meet
          exact ⟨_, _, _, _, _, _, rfl, rfl, HFJ, PB4⟩
      · refine step_make_full rfl (.tmp 13) (.tmp 13) 26 rfl X1.heap.size 30 i0 (.agg #[.bool false, .slice none 0 0, .slice none 0 0]) 3 Tryz.underlying26 hi hz0 hz1 _ _ _ _ n rfl rfl rfl rfl (by rw [hz2]; omega) (by unfold maxLen; omega) (Nat.le_refl _) ?_
        intro X2 ho9 hg9
        have hb9 : Below X1.heap.size X1 X2 := (Below.refl _ _).grown hg9 (Nat.le_refl _) (fun k hk => by cases hk)
        have HD2 : Hid (OwnV X2 X1.heap.size (.slice (some ⟨X1.heap.size, 0, none⟩) n n) n (List.replicate n El.zero)) := ⟨List.length_replicate, by rw [flat_zero] at ho9; exact ho9, fun y hy => by obtain rfl := List.eq_of_mem_replicate hy; exact El.own_zero _ _, far_zeros n⟩
        have hbD : W0.heap.size ≤ X1.heap.size := by omega
        have hGD : X1.heap.size < X2.heap.size := (HD2.out.lt _ (.inl rfl)).2
        have PJ2 := Lib.hid (PJ1.out.below hb9)
        have PB2 : Hid (Bk X2) := stays_below HBK.out PB1.out hb9
        have hs2 : X1.heap.size ≤ X2.heap.size := hb9.size
        have HX2 := Lib.hid (HX1.out.below hb9 HX1.out.lt)
        clear ho9 hg9 hb9
        refine hK.out _ _ ?_ (fun hHeld => ?_)
        · (try dsimp only); (exact (HMB.out _ PJ2.out.old).cell 0)
        clear hK KK
        (try simp only [Act.put, List.setIfInBounds_toArray])
        refine wpAnyL_one 2 (by kernel_rfl) (by decide) rfl (fun KK hK => ?_)
        go_simp
        go_at_call 53
        (with_reducible refine (impl_identityMatrix0 n _ (by omega)).mono ?_)
        rintro e X3 ⟨p9, k9, r9, V9, rfl, hi9, hr9, hb9⟩
        obtain ⟨rfl, rfl, rfl⟩ := ident_at hn hi9
        obtain ⟨_, _, L, ho9, hh9⟩ := hr9
        rw [show (ident n).length = N from by rw [ident_len, HN.out]] at ho9
        obtain ⟨AL, cL, rfl⟩ := ho9.slice
        obtain ⟨G, rfl, hG0, hG1⟩ := own_at' ho9.2.1 hNp
        have HL3 : Hid (OwnV X3 X2.heap.size _ N L) := ho9
        have HHL : Hid (Has L (ident n)) := hh9
        have hbL : W0.heap.size ≤ X2.heap.size := by omega
        have PJ3 := Lib.hid (PJ2.out.below hb9)
        have PB3 : Hid (Bk X3) := stays_below HBK.out PB2.out hb9
        have hs3 : X2.heap.size ≤ X3.heap.size := hb9.size
        have HD3 := Lib.hid (HD2.out.below hb9)
        have HX3 := Lib.hid (HX2.out.below hb9 HX2.out.lt)
        clear hi9 ho9 hh9 hb9
        (try go_wp2_with fail)
        refine hK.out _ _ ?_ (fun hHeld => ?_)
        · (try dsimp only); (exact (HMB.out _ PJ3.out.old).cell 0)
        clear hK KK
        (try simp only [Act.put, List.setIfInBounds_toArray])
        refine wpAnyL_one 7 (by kernel_rfl) (by decide) rfl (fun KK hK => ?_)
        have fc0 := HX3.out.cell 0
        have fc1 := HX3.out.cell 1
        have fc2 := HX3.out.cell 2
        have fs0 := HX3.out.free 0
        have fs1 := HX3.out.free 1
        have fs2 := HX3.out.free 2
        simp at fc0 fc1 fc2 fs0 fs1 fs2
        have hXl := HX3.out.lt
        obtain ⟨X4, hX4⟩ : ∃ X, X = ((X3.setCell ⟨X0.heap.size, 0, none⟩ (.int .i64 n)).setCell ⟨X0.heap.size, 1, none⟩ (.int .i64 n)).setCell ⟨X0.heap.size, 2, none⟩ (.slice (some ⟨G, 0, none⟩) N cL) := ⟨_, rfl⟩
        have hk4 : ∀ k, k ≠ X0.heap.size → X4.heap[k]? = X3.heap[k]? := fun k hk => by rw [hX4]; exact set3_other hk
        have hz4 : X4.heap.size = X3.heap.size := by rw [hX4]; simp
        have hs4 : X3.heap.size ≤ X4.heap.size := by omega
        have PJ4 : Hid (J0Y w W0 bc bd X4) := ⟨by rw [hX4]; exact ((PJ3.out.bel.setCell (by have := HKK.out.w0; dsimp only; omega) _).setCell (by have := HKK.out.w0; dsimp only; omega) _).setCell (by have := HKK.out.w0; dsimp only; omega) _, fun k hk e1 e2 => (hk4 k (by omega)).trans (PJ3.out.old k hk e1 e2), by rw [hz4]; exact PJ3.out.siz, (hk4 _ (by have := HKK.out.c1; omega)).trans PJ3.out.cbx, (hk4 _ (by have := HKK.out.d1; omega)).trans PJ3.out.dbx⟩
        have PB4 : Hid (Bk X4) := by rw [hX4]; exact HBK.out _ _ PB3.out ((((KeepsOthers.setCell _ _ _).trans (KeepsOthers.setCell _ _ _)).trans (KeepsOthers.setCell _ _ _)).from _)
        have HL4 : Hid (OwnV X4 X2.heap.size (.slice (some ⟨G, 0, none⟩) N cL) N L) := by rw [hX4]; exact HL3.out.box_set3 HX3.out _ _ _
        have HD4 : Hid (OwnV X4 X1.heap.size (.slice (some ⟨X1.heap.size, 0, none⟩) n n) n (List.replicate n El.zero)) := by rw [hX4]; exact HD3.out.box_set3 HX3.out _ _ _
        have HX4 : Hid (Box X4 X0.heap.size 47 #[.int .i64 n, .int .i64 n, .slice (some ⟨G, 0, none⟩) N cL]) := by rw [hX4]; refine Lib.hid ?_; have e := ((HX3.out.set_ 0 (.int .i64 n)).set_ 1 (.int .i64 n)).set_ 2 (.slice (some ⟨G, 0, none⟩) N cL); simpa using e
        go_simp
        rw [← hX4]
        clear hX4 fc0 fc1 fc2 fs0 fs1 fs2 hk4 hz4
        refine hK.out _ _ ?_ (fun hHeld => ?_)
        · (try dsimp only); (exact (HMB.out _ PJ4.out.old).cell 0)
        clear hK KK
        (try simp only [Act.put, List.setIfInBounds_toArray])
        have HFJ : Hid (FJ n N rs w W0 bc bd X0.heap.size G cL X1.heap.size n (rowsP 0 0) 0 0 0 (.slice none 0 0) (.slice none 0 0) L (List.replicate n El.zero) X4) := FJ.start PJ4.out HL4.out HHL.out HD4.out HX4.out hbL hbD hbX (by omega)
        refine wpAnyL_last (by kernel_rfl) rfl (fun KK hK => ?_)
        go_simp
        refine hK.out _ _ ?_
        clear hK KK
        (try simp only [Act.put, List.setIfInBounds_toArray])
        refine wpAnyL_done (by kernel_rfl) ?_ _
        (try go_wp2_with fail)
        go_meet
        exact ⟨_, _, _, _, _, _, rfl, rfl, HFJ, PB4⟩
  obtain ⟨lb, G, cL, Gd, L0, D0, rfl, rfl, HF0, PB1⟩ := hcut
  obtain ⟨w1, rfl⟩ : ∃ q, q = wc := ⟨_, rfl⟩
  have HMB1 := Lib.hid (HMB.out _ HF0.out.old)
  have em0 := HMB1.out.cell 0
  simp at em0
  go_wp2_with fail
  clear em0
  go_loopw [17] (fun z wq => ∃ (i : Nat) (cv dv : Value) (L D : List El), i ≤ n ∧ z = .int .i64 i ∧ Hid (FJ n N rs w W0 bc bd lb G cL Gd n (rowsP i 0) i i i cv dv L D wq) ∧ Hid (∀ t, t < i → (fD n rs t).pos) ∧ Hid (Bk wq)) (fun z _ => n - (intOf z).toNat)
  case atStart => exact ⟨0, _, _, L0, D0, Nat.zero_le _, rfl, HF0, fun t ht => absurd ht (Nat.not_lt_zero t), PB1⟩
  case round =>
    obtain ⟨i, cv, dv, L, D, hle, rfl, HF, HP, HB⟩ := hrel
    by_cases hlt : i < n
    · have hii : (i : Int) < (n : Int) := by omega
      have hi24 : i ≤ 24 := by omega
      have hiN : i * n + n ≤ N := by
        rw [HN.out]
        have e := Nat.mul_le_mul_right n (show i + 1 ≤ n by omega)
        rw [Nat.add_mul] at e
        omega
      have hN20 : N ≤ 1048576 := by omega
      have hcL : N ≤ cL := own_le HF.out.own.2.1
      have HMr := Lib.hid (HMB.out _ HF.out.old)
      have em0 := HMr.out.cell 0
      have em1 := HMr.out.cell 1
      have em2 := HMr.out.cell 2
      have el0 := HF.out.lbx.cell 0
      have el1 := HF.out.lbx.cell 1
      have el2 := HF.out.lbx.cell 2
      simp at em0 em1 em2 el0 el1 el2
      obtain ⟨Wd, hWd⟩ : ∃ X, X = wr.drew := ⟨_, rfl⟩
      have HFd : Hid (FJ n N rs w W0 bc bd lb G cL Gd n (rowsP i 0) i i i cv dv L D Wd) := by rw [hWd]; exact HF.out.below (Below.refl _ _).drew
      have HBd : Hid (Bk Wd) := by rw [hWd]; exact stays_below HBK.out HB.out (Below.refl _ _).drew
      go_upto_region 4 with fail
      clear em0 em1 em2 el0 el1 el2
      have HMd := Lib.hid (HMB.out _ HFd.out.old)
      have hGA : Hid (0 < N → ∃ b o, (some ⟨G, 0, none⟩ : Option Addr) = some ⟨b, o, none⟩) := fun _ => ⟨_, _, rfl⟩
      have hAA : Hid (0 < N → ∃ b o, A = some ⟨b, o, none⟩) := fun _ => by obtain ⟨b, o, e, _⟩ := HV.out.at_ 0 hNp; exact ⟨b, o, e⟩
      refine wp_region_last (S := (fun w' => w'.cell? ⟨lb, 0, none⟩ = some (.int .i64 n) ∧ w'.cell? ⟨lb, 1, none⟩ = some (.int .i64 n) ∧ w'.cell? ⟨lb, 2, none⟩ = some (.slice (some ⟨G, 0, none⟩) N cL) ∧ w'.cell? ⟨mb, 0, none⟩ = some (.int .i64 n) ∧ w'.cell? ⟨mb, 1, none⟩ = some (.int .i64 n) ∧ w'.cell? ⟨mb, 2, none⟩ = some (.slice A N c))) 7 (by kernel_rfl) ?_ (fun hHeld => ?_)
      · (rw [← hWd]); (first | with_reducible exact rows_cells HFd HMd)
      rw [← hWd] at hHeld ⊢
      clear hWd
      refine wpAnyL_go (i := 0) (d := some 20) (v := ?_) (y := 6) [2, 0] (by rfl) (by kernel_rfl) (fun _ _ _ h => h) (by assumption) ?_ ?_
      rotate_left 1
      · (intro oS hoS wS hSw; obtain rfl := Option.some.inj hoS; (try dsimp only at hSw); go_simp; try with_reducible rfl)
      (try simp only [Act.put, List.setIfInBounds_toArray])
      refine wpAnyL_go (i := 1) (d := some 21) (v := ?_) (y := 6) [2, 1] (by rfl) (by kernel_rfl) (fun _ _ _ h => h) (by assumption) ?_ ?_
      rotate_left 1
      · (intro oS hoS wS hSw; obtain rfl := Option.some.inj hoS; (try dsimp only at hSw); go_simp; try with_reducible rfl)
      (try simp only [Act.put, List.setIfInBounds_toArray])
      refine wpAnyL_go (i := 3) (d := some 23) (v := ?_) (y := 5) [3] (by rfl) (by kernel_rfl) (fun _ _ _ h => h) (by assumption) ?_ ?_
      rotate_left 1
      · (intro oS hoS wS hSw; obtain rfl := Option.some.inj hoS; (try dsimp only at hSw); go_simp; try with_reducible rfl)
      (try simp only [Act.put, List.setIfInBounds_toArray])
      refine wpAnyL_go (i := 4) (d := some 24) (v := ?_) (y := 5) [4] (by rfl) (by kernel_rfl) (fun _ _ _ h => h) (by assumption) ?_ ?_
      rotate_left 1
      · (intro oS hoS wS hSw; obtain rfl := Option.some.inj hoS; (try dsimp only at hSw); go_simp; try with_reducible rfl)
      (try simp only [Act.put, List.setIfInBounds_toArray])
      refine wpAnyL_one 2 (by kernel_rfl) (by decide) rfl (fun KK hK => ?_)
      go_simp
      (go_at_call 96; (with_reducible refine (impl_rowAt n n i (some ⟨G, 0, none⟩) N cL _ hiN hN20 hcL hGA.out hi24 hn).mono ?_); rintro e w5 ⟨A1, c1, rfl, hc1, hr1, hb5⟩; have HR1 := Lib.hid hr1; replace HFd := Lib.hid (HFd.out.below hb5); replace HMd := Lib.hid (HMB.out _ HFd.out.old); replace HBd : Hid (Bk _) := stays_below HBK.out HBd.out hb5; clear hr1 hb5)
      (try go_wp2_with fail)
      refine hK.out _ _ ?_ (fun hHeld => ?_)
      · (try dsimp only); (first | with_reducible exact rows_cells HFd HMd)
      clear hK KK
      (try simp only [Act.put, List.setIfInBounds_toArray])
      refine wpAnyL_one 5 (by kernel_rfl) (by decide) rfl (fun KK hK => ?_)
      go_simp
      (go_at_call 96; (with_reducible refine (impl_rowAt n n i A N c _ hiN hN20 hcN hAA.out hi24 hn).mono ?_); rintro e w6 ⟨A2, c2, rfl, hc2, hr2, hb6⟩; have HR2 := Lib.hid hr2; replace HFd := Lib.hid (HFd.out.below hb6); replace HMd := Lib.hid (HMB.out _ HFd.out.old); replace HBd : Hid (Bk _) := stays_below HBK.out HBd.out hb6; clear hr2 hb6)
      (try go_wp2_with fail)
      refine hK.out _ _ ?_ (fun hHeld => ?_)
      · (try dsimp only); (first | with_reducible exact rows_cells HFd HMd)
      clear hK KK
      (try simp only [Act.put, List.setIfInBounds_toArray])
      refine wpAnyL_one 6 (by kernel_rfl) (by decide) rfl (fun KK hK => ?_)
      go_simp
      refine hK.out _ _ ?_ (fun hHeld => ?_)
      · (try dsimp only); (first | with_reducible exact rows_cells HFd HMd)
      clear hK KK
      (try simp only [Act.put, List.setIfInBounds_toArray])
      refine wpAnyL_last (by kernel_rfl) rfl (fun KK hK => ?_)
      go_simp
      refine hK.out _ _ ?_
      clear hK KK
      (try simp only [Act.put, List.setIfInBounds_toArray])
      refine wpAnyL_done (by kernel_rfl) ?_ _
      have hn0 : n ≠ 0 := by omega
      obtain ⟨b0, o0, e0, rfl⟩ := HR1.out.resolve_left hn0
      cases e0
      obtain ⟨bA, oA, rfl, rfl⟩ := HR2.out.resolve_left hn0
      obtain ⟨r0, hr0⟩ : ∃ r, r = 0 + i * n * 3 := ⟨_, rfl⟩
      obtain ⟨g0, hg0⟩ : ∃ r, r = oA + i * n * 3 := ⟨_, rfl⟩
      rw [← hr0, ← hg0]
      have HR0 : Hid (r0 = i * n * 3) := by rw [hr0, Nat.zero_add]; rfl
      have HRA : Hid (MRowAt (some ⟨G, 0, none⟩) (some ⟨G, r0, none⟩) n (i * n)) := .inr ⟨G, 0, rfl, by rw [hr0]⟩
      have HRG : Hid (MRowAt (some ⟨bA, oA, none⟩) (some ⟨bA, g0, none⟩) n (i * n)) := .inr ⟨bA, oA, rfl, by rw [hg0]⟩
      clear HR1 HR2 hr0 hg0 HMd
      go_wp2_with fail
      go_loopw [27] (fun z wq => ∃ (k : Nat) (L : List El), k ≤ i ∧ z = .int .i64 k ∧ Hid (FJ n N rs w W0 bc bd lb G cL Gd n (rowsP i k) i i i cv dv L D wq) ∧ Hid (Bk wq)) (fun z _ => i - (intOf z).toNat)
      case atStart => exact ⟨0, L, Nat.zero_le _, rfl, HFd, HBd⟩
      case round =>
        obtain ⟨k, L, hki', rfl, HFk, HBk'⟩ := hrel
        obtain ⟨Wd, hWd⟩ : ∃ X, X = wr.drew := ⟨_, rfl⟩
        have HF : Hid (FJ n N rs w W0 bc bd lb G cL Gd n (rowsP i k) i i i cv dv L D Wd) := by rw [hWd]; exact HFk.out.below (Below.refl _ _).drew
        have HB : Hid (Bk Wd) := by rw [hWd]; exact stays_below HBK.out HBk'.out (Below.refl _ _).drew
        have GDL : Hid (Goods (lowP n rs (rowsP i k))) := ⟨by rw [lowP_length, ← HN.out]; omega, lowP_good⟩
        have GDN : Hid (Goods (numP n rs i)) := ⟨by rw [numP_length]; omega, numP_good HOKS.out hrl⟩
        have IVL : Hid (InV Wd (some ⟨G, 0, none⟩) N (lowP n rs (rowsP i k))) := HF.out.own.in_ HF.out.has (by omega) GDL.out.fits
        have IVD : Hid (InV Wd (some ⟨Gd, 0, none⟩) n (numP n rs i)) := HF.out.dow.in_ HF.out.dha (by omega) GDN.out.fits
        have IVW : Hid (InV Wd (some ⟨G, r0, none⟩) n (mrow n (lowP n rs (rowsP i k)) i)) := IVL.out.row HRA.out hiN hn
        have hkn : k ≤ n := by omega
        have IVA : Hid (InV Wd (some ⟨G, r0, none⟩) k ((mrow n (lowP n rs (rowsP i k)) i).take k)) := inV_take IVW.out hkn
        have IVG : Hid (InV Wd (some ⟨bA, g0, none⟩) n (mrow n rs i)) := (HV.out.below HF.out.bel).row HRG.out hiN hn
        have hll : (lowP n rs (rowsP i k)).length = n * n := lowP_length _ _ _
        by_cases hki : k < i
        · have hk0 : (0 : Int) ≤ (k : Int) := by omega
          have hk1 : (k : Int) < (i : Int) := by omega
          have hk2 : (k : Int) < (n : Int) := by omega
          have hk3 : (k : Int) ≤ (n : Int) := by omega
          have hkc : (k : Int) ≤ (c1 : Int) := by omega
          have hk24 : k ≤ 24 := by omega
          have hkN : k * n + n ≤ N := by
            rw [HN.out]
            have e := Nat.mul_le_mul_right n (show k + 1 ≤ n by omega)
            rw [Nat.add_mul] at e
            omega
          have hjN : i * n + k < N := by rw [HN.out]; exact cell_lt hlt (by omega)
          obtain ⟨b4, o4, e4, hb4, r4, hr4, A4, n4, c4, B4, m4, d4, hat4, i4, ra4, j4, rb4⟩ := IVG.out.at_ k (by omega)
          cases e4
          have hrc4 : r4 = cell n rs i k := by
            have e := cell_at hrl hlt (show k < n by omega)
            rw [mrow_at (by omega)] at hr4
            rw [hr4] at e
            exact Option.some.inj e
          obtain ⟨fd, hfd⟩ : ∃ f, f = fD n rs k := ⟨_, rfl⟩
          obtain ⟨Ad, cd', Bd, dd', _, hod, hatd⟩ := HF.out.dow.elr HF.out.dha (show (numP n rs i)[k]? = some fd by rw [numP_at (by omega), if_pos hki, hfd])
          have hgd := HF.out.g0
          have fdk : fd.ok := by rw [hfd]; exact (HP.out k hki).1
          have grd := RD.gr (.inl fdk)
          have ID : Hid (InI Wd Ad fd.xs.length fd.xs) := in_gr grd.short.1 grd.nr hod.1
          have JD : Hid (InI Wd Bd fd.ds.length fd.ds) := in_gr grd.short.2 grd.dr hod.2.1
          have RA : Hid (Room Ad fd.xs.length cd') := room_own hod.1
          have RB : Hid (Room Bd fd.ds.length dd') := room_own hod.2.1
          have I4 := Lib.hid i4
          have J4 := Lib.hid j4
          have R4 : Hid (Room A4 n4 c4) := ra4
          have S4 : Hid (Room B4 m4 d4) := rb4
          have h4n := i4.2.1
          have h4m := j4.2.1
          have hdn := ID.out.2.1
          have hdm := JD.out.2.1
          have HCI : Hid ((cell n rs i k).ok ∨ cell n rs i k = RD.zero) := .inl (HOKS.out _ (cell_mem hrl hlt (by omega)))
          have H4G : Hid ((RD.mk r4.g r4.xs r4.ds).ok ∨ RD.mk r4.g r4.xs r4.ds = RD.zero) := by
            have e : RD.mk r4.g r4.xs r4.ds = cell n rs i k := hrc4
            rw [e]; exact HCI.out
          have HFD := Lib.hid hfd
          have IVB := Lib.hid IVL.out
          have HRC : Hid (restF ⟨r4.g, r4.xs, r4.ds⟩ (seq ((mrow n (lowP n rs (rowsP i k)) i).take k)) (seq (mrow n (lowP n rs (rowsP i k)) k)) (seq (numP n rs i)) k = restF (cell n rs i k) (fL n rs i) (fL n rs k) (fD n rs) k) := by
            have e : RD.mk r4.g r4.xs r4.ds = cell n rs i k := hrc4
            rw [e]
            refine restF_congr fun t ht => ⟨?_, ?_, ?_⟩
            · refine seq_of ?_
              rw [List.getElem?_take, if_pos ht, mrow_at (by omega), cell_at hll hlt (by omega), cell_lowP hlt (by omega) (by unfold rowsP; simp; omega)]
            · refine seq_of ?_
              rw [mrow_at (by omega), cell_at hll (by omega) (by omega), cell_lowP (by omega) ht (by unfold rowsP; simp; omega)]
            · refine seq_of ?_
              rw [numP_at (by omega), if_pos (by omega)]
          have HSET : Hid (∀ r c, r < n → c < r → (rowsP i (k + 1) r c = true ↔ rowsP i k r c = true ∨ (r = i ∧ c = k))) := fun r c _ _ => by
            unfold rowsP; simp only [decide_eq_true_eq]; omega
          have HAD : Hid ((i * n + k) * 3 = r0 + k * 3) := by have := HR0.out; unfold Hid; omega
          have CC : Hid (AtL Wd [(⟨lb, 0, none⟩, .int .i64 n), (⟨lb, 1, none⟩, .int .i64 n), (⟨lb, 2, none⟩, .slice (some ⟨G, 0, none⟩) N cL), (⟨bA, g0 + k * 3, none⟩, .bool r4.g), (⟨bA, g0 + k * 3 + 1, none⟩, .slice A4 n4 c4), (⟨bA, g0 + k * 3 + 2, none⟩, .slice B4 m4 d4), (⟨Gd, k * 3, none⟩, .bool fd.g), (⟨Gd, k * 3 + 1, none⟩, .slice Ad fd.xs.length cd'), (⟨Gd, k * 3 + 2, none⟩, .slice Bd fd.ds.length dd')]) :=
            AtL.append HF.out.lbx.atL3 (AtL.append (at3L hat4 hb4) (at3L hatd hgd.2.2.2))
          clear hr4 hrc4 hat4 i4 j4 ra4 rb4 hod hatd hgd fdk grd hfd hb4
          go_upto_region 8 with fail
          refine wp_region_last (S := (fun w' => w'.cell? ⟨lb, 0, none⟩ = some (.int .i64 n) ∧ w'.cell? ⟨lb, 1, none⟩ = some (.int .i64 n) ∧ w'.cell? ⟨lb, 2, none⟩ = some (.slice (some ⟨G, 0, none⟩) N cL) ∧ w'.cell? ⟨bA, g0 + k * 3, none⟩ = some (.bool r4.g) ∧ w'.cell? ⟨bA, g0 + k * 3 + 1, none⟩ = some (.slice A4 n4 c4) ∧ w'.cell? ⟨bA, g0 + k * 3 + 2, none⟩ = some (.slice B4 m4 d4) ∧ w'.cell? ⟨Gd, k * 3, none⟩ = some (.bool fd.g) ∧ w'.cell? ⟨Gd, k * 3 + 1, none⟩ = some (.slice Ad fd.xs.length cd') ∧ w'.cell? ⟨Gd, k * 3 + 2, none⟩ = some (.slice Bd fd.ds.length dd'))) 20 (by kernel_rfl) ?_ (fun hHeld => ?_)
          · (rw [← hWd]); (first | with_reducible exact atL9 CC)
          rw [← hWd] at hHeld ⊢
          clear hWd
          refine wpAnyL_go (i := 0) (d := some 30) (v := ?_) (y := 19) [0] (by rfl) (by kernel_rfl) (fun _ _ _ h => h) (by assumption) ?_ ?_
          rotate_left 1
          · (intro oS hoS wS hSw; obtain rfl := Option.some.inj hoS; (try dsimp only at hSw); go_simp; try with_reducible rfl)
          (try simp only [Act.put, List.setIfInBounds_toArray])
          refine wpAnyL_go (i := 1) (d := some 31) (v := ?_) (y := 19) [1] (by rfl) (by kernel_rfl) (fun _ _ _ h => h) (by assumption) ?_ ?_
          rotate_left 1
          · (intro oS hoS wS hSw; obtain rfl := Option.some.inj hoS; (try dsimp only at hSw); go_simp; try with_reducible rfl)
          (try simp only [Act.put, List.setIfInBounds_toArray])
          refine wpAnyL_go (i := 2) (d := some 32) (v := ?_) (y := 18) [13, 5, 4, 2] (by rfl) (by kernel_rfl) (fun _ _ _ h => h) (by assumption) ?_ ?_
          rotate_left 1
          · (intro oS hoS wS hSw; obtain rfl := Option.some.inj hoS; (try dsimp only at hSw); go_simp; try with_reducible rfl)
          (try simp only [Act.put, List.setIfInBounds_toArray])
          refine wpAnyL_go (i := 3) (d := some 33) (v := ?_) (y := 18) [13, 5, 4, 3] (by rfl) (by kernel_rfl) (fun _ _ _ h => h) (by assumption) ?_ ?_
          rotate_left 1
          · (intro oS hoS wS hSw; obtain rfl := Option.some.inj hoS; (try dsimp only at hSw); go_simp; try with_reducible rfl)
          (try simp only [Act.put, List.setIfInBounds_toArray])
          refine wpAnyL_go (i := 4) (d := some 34) (v := ?_) (y := 18) [13, 5, 4] (by rfl) (by kernel_rfl) (fun _ _ _ h => h) (by assumption) ?_ ?_
          rotate_left 1
          · (intro oS hoS wS hSw; obtain rfl := Option.some.inj hoS; (try dsimp only at hSw); go_simp; try with_reducible rfl)
          (try simp only [Act.put, List.setIfInBounds_toArray])
          refine wpAnyL_go (i := 5) (d := some 35) (v := ?_) (y := 18) [13, 5] (by rfl) (by kernel_rfl) (fun _ _ _ h => h) (by assumption) ?_ ?_
          rotate_left 1
          · (intro oS hoS wS hSw; obtain rfl := Option.some.inj hoS; (try dsimp only at hSw); go_simp; try with_reducible rfl)
          (try simp only [Act.put, List.setIfInBounds_toArray])
          refine wpAnyL_go (i := 6) (d := some 36) (v := ?_) (y := 18) [13, 8, 6] (by rfl) (by kernel_rfl) (fun _ _ _ h => h) (by assumption) ?_ ?_
          rotate_left 1
          · (intro oS hoS wS hSw; obtain rfl := Option.some.inj hoS; (try dsimp only at hSw); go_simp; try with_reducible rfl)
          (try simp only [Act.put, List.setIfInBounds_toArray])
          refine wpAnyL_go (i := 7) (d := some 37) (v := ?_) (y := 18) [13, 8, 7] (by rfl) (by kernel_rfl) (fun _ _ _ h => h) (by assumption) ?_ ?_
          rotate_left 1
          · (intro oS hoS wS hSw; obtain rfl := Option.some.inj hoS; (try dsimp only at hSw); go_simp; try with_reducible rfl)
          (try simp only [Act.put, List.setIfInBounds_toArray])
          refine wpAnyL_go (i := 8) (d := some 38) (v := ?_) (y := 18) [13, 8] (by rfl) (by kernel_rfl) (fun _ _ _ h => h) (by assumption) ?_ ?_
          rotate_left 1
          · (intro oS hoS wS hSw; obtain rfl := Option.some.inj hoS; (try dsimp only at hSw); go_simp; try with_reducible rfl)
          (try simp only [Act.put, List.setIfInBounds_toArray])
          refine wpAnyL_go (i := 9) (d := some 39) (v := ?_) (y := 18) [13, 11, 9] (by rfl) (by kernel_rfl) (fun _ _ _ h => h) (by assumption) ?_ ?_
          rotate_left 1
          · (intro oS hoS wS hSw; obtain rfl := Option.some.inj hoS; (try dsimp only at hSw); go_simp; try with_reducible rfl)
          (try simp only [Act.put, List.setIfInBounds_toArray])
          refine wpAnyL_go (i := 10) (d := some 40) (v := ?_) (y := 18) [13, 11, 10] (by rfl) (by kernel_rfl) (fun _ _ _ h => h) (by assumption) ?_ ?_
          rotate_left 1
          · (intro oS hoS wS hSw; obtain rfl := Option.some.inj hoS; (try dsimp only at hSw); go_simp; try with_reducible rfl)
          (try simp only [Act.put, List.setIfInBounds_toArray])
          refine wpAnyL_go (i := 12) (d := some 42) (v := ?_) (y := 18) [13, 12] (by rfl) (by kernel_rfl) (fun _ _ _ h => h) (by assumption) ?_ ?_
          rotate_left 1
          · (intro oS hoS wS hSw; obtain rfl := Option.some.inj hoS; (try dsimp only at hSw); go_simp; try with_reducible rfl)
          (try simp only [Act.put, List.setIfInBounds_toArray])
          refine wpAnyL_go (i := 14) (d := some 44) (v := ?_) (y := 18) [17, 16, 14] (by rfl) (by kernel_rfl) (fun _ _ _ h => h) (by assumption) ?_ ?_
          rotate_left 1
          · (intro oS hoS wS hSw; obtain rfl := Option.some.inj hoS; (try dsimp only at hSw); go_simp; try with_reducible rfl)
          (try simp only [Act.put, List.setIfInBounds_toArray])
          refine wpAnyL_go (i := 15) (d := some 45) (v := ?_) (y := 18) [17, 16, 15] (by rfl) (by kernel_rfl) (fun _ _ _ h => h) (by assumption) ?_ ?_
          rotate_left 1
          · (intro oS hoS wS hSw; obtain rfl := Option.some.inj hoS; (try dsimp only at hSw); go_simp; try with_reducible rfl)
          (try simp only [Act.put, List.setIfInBounds_toArray])
          refine wpAnyL_go (i := 16) (d := some 46) (v := ?_) (y := 18) [17, 16] (by rfl) (by kernel_rfl) (fun _ _ _ h => h) (by assumption) ?_ ?_
          rotate_left 1
          · (intro oS hoS wS hSw; obtain rfl := Option.some.inj hoS; (try dsimp only at hSw); go_simp; try with_reducible rfl)
          (try simp only [Act.put, List.setIfInBounds_toArray])
          refine wpAnyL_go (i := 17) (d := some 47) (v := ?_) (y := 18) [17] (by rfl) (by kernel_rfl) (fun _ _ _ h => h) (by assumption) ?_ ?_
          rotate_left 1
          · (intro oS hoS wS hSw; obtain rfl := Option.some.inj hoS; (try dsimp only at hSw); go_simp; try with_reducible rfl)
          (try simp only [Act.put, List.setIfInBounds_toArray])
          refine wpAnyL_one 11 (by kernel_rfl) (by decide) rfl (fun KK hK => ?_)
          go_simp
          (go_at_call 96; (with_reducible refine (impl_rowAt n n k (some ⟨G, 0, none⟩) N cL _ hkN hN20 hcL hGA.out hk24 hn).mono ?_); rintro e w5 ⟨A3, c3, rfl, hc3, hr3, hb5⟩; replace CC := Lib.hid (CC.out.below hb5); replace HF := Lib.hid (HF.out.below hb5); replace HB : Hid (Bk _) := stays_below HBK.out HB.out hb5; replace IVA := Lib.hid (IVA.out.below hb5); replace IVB := Lib.hid (IVB.out.below hb5); replace IVD := Lib.hid (IVD.out.below hb5); replace I4 := Lib.hid (I4.out.below hb5); replace J4 := Lib.hid (J4.out.below hb5); replace ID := Lib.hid (ID.out.below hb5); replace JD := Lib.hid (JD.out.below hb5); have IVR := Lib.hid (IVB.out.row hr3 hkN hn); clear hr3 hb5)
          (try go_wp2_with fail)
          refine hK.out _ _ ?_ (fun hHeld => ?_)
          · (try dsimp only); (first | with_reducible exact atL9 CC)
          clear hK KK
          (try simp only [Act.put, List.setIfInBounds_toArray])
          refine wpAnyL_one 13 (by kernel_rfl) (by decide) rfl (fun KK hK => ?_)
          go_simp
          (go_at_call 151; (with_reducible refine (impl_rest r4.g A4 n4 c4 r4.xs B4 m4 d4 r4.ds (some ⟨G, r0, none⟩) k _ ((mrow n (lowP n rs (rowsP i k)) i).take k) A3 n c3 (mrow n (lowP n rs (rowsP i k)) k) (some ⟨Gd, 0, none⟩) n n (numP n rs i) _ I4.out R4.out J4.out S4.out H4G.out IVA.out IVR.out IVD.out hkn hkn).mono ?_); rintro e w6 ⟨gz, rz, vz, dz, uz, rfl, hq6, q1, q2, hap6, hb6⟩; obtain ⟨Az, cz, rfl⟩ := own_slice q1.2; obtain ⟨Bz, ez, rfl⟩ := own_slice q2.2; have HQ6 : Hid (RD.mk gz rz dz = restF (cell n rs i k) (fL n rs i) (fL n rs k) (fD n rs) k) := hq6.trans HRC.out; have HO6 := Lib.hid q1.2; have HU6 := Lib.hid q2.2; have GZ : Hid (GRat gz rz dz) := RD.gr (r := ⟨gz, rz, dz⟩) (by rw [HQ6.out]; exact restF_good HCI.out _); have hz1 : rz.length ≤ 24 := GZ.out.short.1; have hz2 : dz.length ≤ 24 := GZ.out.short.2; replace CC := Lib.hid (CC.out.below hb6); replace HF := Lib.hid (HF.out.below hb6); replace HB : Hid (Bk _) := stays_below HBK.out HB.out hb6; replace IVA := Lib.hid (IVA.out.below hb6); replace IVB := Lib.hid (IVB.out.below hb6); replace IVD := Lib.hid (IVD.out.below hb6); replace I4 := Lib.hid (I4.out.below hb6); replace J4 := Lib.hid (J4.out.below hb6); replace ID := Lib.hid (ID.out.below hb6); replace JD := Lib.hid (JD.out.below hb6); clear hq6 q1 q2 hap6 hb6)
          (try go_wp2_with fail)
          refine hK.out _ _ ?_ (fun hHeld => ?_)
          · (try dsimp only); (first | with_reducible exact atL9 CC)
          clear hK KK
          (try simp only [Act.put, List.setIfInBounds_toArray])
          refine wpAnyL_one 18 (by kernel_rfl) (by decide) rfl (fun KK hK => ?_)
          go_simp
          (go_at_call 150; (with_reducible refine (impl_ratDiv0 gz Az rz.length cz rz Bz dz.length ez dz fd.g Ad fd.xs.length cd' fd.xs Bd fd.ds.length dd' fd.ds _ (in_gr hz1 GZ.out.nr HO6.out) (room_own HO6.out) (in_gr hz2 GZ.out.dr HU6.out) (room_own HU6.out) ID.out RA.out JD.out RB.out).mono ?_); rintro e w7 ⟨g8, r8, v8, d8, u8, rfl, hq7, q1, q2, hap7, hb7⟩; obtain ⟨A8, c8, rfl⟩ := own_slice q1.2; obtain ⟨B8, e8, rfl⟩ := own_slice q2.2; have HQ7 : Hid (RD.mk g8 r8 d8 = fL n rs i k) := (rdiv_of (r := ⟨gz, rz, dz⟩) (s := fd) hq7).trans (by rw [HQ6.out, HFD.out]; exact (fL_eq n rs i k).symm); have HB6 : Hid (∀ t, footV (.slice (some ⟨G, 0, none⟩) N cL) L t → t < w6.heap.size) := fun t ht => (HF.out.own.lt t ht).2; have HD6 : Hid (∀ t, footV (.slice (some ⟨Gd, 0, none⟩) n n) D t → t < w6.heap.size) := fun t ht => (HF.out.dow.lt t ht).2; have HW6 : Hid (W0.heap.size ≤ w6.heap.size) := HF.out.siz; replace CC := Lib.hid (CC.out.below hb7); replace HF := Lib.hid (HF.out.below hb7); replace HB : Hid (Bk _) := stays_below HBK.out HB.out hb7; replace IVA := Lib.hid (IVA.out.below hb7); replace IVB := Lib.hid (IVB.out.below hb7); replace IVD := Lib.hid (IVD.out.below hb7); replace I4 := Lib.hid (I4.out.below hb7); replace J4 := Lib.hid (J4.out.below hb7); replace ID := Lib.hid (ID.out.below hb7); replace JD := Lib.hid (JD.out.below hb7); have HST : Hid (FJ n N rs w W0 bc bd lb G cL Gd n (rowsP i (k + 1)) i i i cv dv _ D _) := HF.out.putL HKK.out (j := i * n + k) hjN (by omega) (by rw [HQ7.out]; exact lowP_set hlt hki HSET.out) q1.2 q2.2 hap7 HB6.out HD6.out HW6.out; rw [HAD.out] at HST; obtain ⟨x0, x1, x2, p0, p1, p2, f0, f1, f2⟩ := HF.out.own.room hjN; rw [HAD.out] at p0 p1 p2 f0 f1 f2; have HBT : Hid (Bk _) := HBK.out _ _ HB.out ((((KeepsOthers.setCell w7 ⟨G, r0 + k * 3, none⟩ (.bool g8)).trans (KeepsOthers.setCell _ ⟨G, r0 + k * 3 + 1, none⟩ (.slice A8 r8.length c8))).trans (KeepsOthers.setCell _ ⟨G, r0 + k * 3 + 2, none⟩ (.slice B8 d8.length e8))).from _); clear hq7 q1 q2 hap7 hb7)
          (try go_wp2_with fail)
          refine hK.out _ _ ?_ (fun hHeld => ?_)
          · (try dsimp only); (first | with_reducible exact atL9 CC)
          clear hK KK
          (try simp only [Act.put, List.setIfInBounds_toArray])
          refine wpAnyL_go (i := 19) (d := some 49) (v := ?_) (y := 19) [] (by rfl) (by kernel_rfl) (fun _ _ _ h => h) (by assumption) ?_ ?_
          rotate_left 1
          · (intro oS hoS wS hSw; obtain rfl := Option.some.inj hoS; (try dsimp only at hSw); go_simp; try with_reducible rfl)
          (try simp only [Act.put, List.setIfInBounds_toArray])
          refine wpAnyL_last (by kernel_rfl) rfl (fun KK hK => ?_)
          go_simp
          refine hK.out _ _ ?_
          clear hK KK
          (try simp only [Act.put, List.setIfInBounds_toArray])
          refine wpAnyL_done (by kernel_rfl) ?_ _
          clear p0 p1 p2 f0 f1 f2
          go_wp2_with fail
          go_roundw
          case rel => exact ⟨k + 1, _, by omega, by go_num, HST, HBT⟩
          case measure => simp [intOf]; omega
        · obtain rfl : i = k := by omega
          have hi0 : (0 : Int) ≤ (i : Int) := by omega
          have hic : (i : Int) ≤ (c1 : Int) := by omega
          have hin : i ≤ n := hle
          obtain ⟨b4, o4, e4, hb4, r4, hr4, A4, n4, c4, B4, m4, d4, hat4, i4, ra4, j4, rb4⟩ := IVG.out.at_ i hlt
          cases e4
          have hrc4 : r4 = cell n rs i i := by
            have e := cell_at hrl hlt hlt
            rw [mrow_at hlt] at hr4
            rw [hr4] at e
            exact Option.some.inj e
          have I4 := Lib.hid i4
          have J4 := Lib.hid j4
          have R4 : Hid (Room A4 n4 c4) := ra4
          have S4 : Hid (Room B4 m4 d4) := rb4
          have h4n := i4.2.1
          have h4m := j4.2.1
          have HCI : Hid ((cell n rs i i).ok ∨ cell n rs i i = RD.zero) := .inl (HOKS.out _ (cell_mem hrl hlt hlt))
          have H4G : Hid ((RD.mk r4.g r4.xs r4.ds).ok ∨ RD.mk r4.g r4.xs r4.ds = RD.zero) := by
            have e : RD.mk r4.g r4.xs r4.ds = cell n rs i i := hrc4
            rw [e]; exact HCI.out
          have IVR := Lib.hid IVW.out
          have HRC : Hid (restF ⟨r4.g, r4.xs, r4.ds⟩ (seq ((mrow n (lowP n rs (rowsP i i)) i).take i)) (seq (mrow n (lowP n rs (rowsP i i)) i)) (seq (numP n rs i)) i = restF (cell n rs i i) (fL n rs i) (fL n rs i) (fD n rs) i) := by
            have e : RD.mk r4.g r4.xs r4.ds = cell n rs i i := hrc4
            rw [e]
            refine restF_congr fun t ht => ⟨?_, ?_, ?_⟩
            · refine seq_of ?_
              rw [List.getElem?_take, if_pos ht, mrow_at (by omega), cell_at hll hlt (by omega), cell_lowP hlt (by omega) (by unfold rowsP; simp; omega)]
            · refine seq_of ?_
              rw [mrow_at (by omega), cell_at hll hlt (by omega), cell_lowP hlt (by omega) (by unfold rowsP; simp; omega)]
            · refine seq_of ?_
              rw [numP_at (by omega), if_pos (by omega)]
          have CC : Hid (AtL Wd [(⟨bA, g0 + i * 3, none⟩, .bool r4.g), (⟨bA, g0 + i * 3 + 1, none⟩, .slice A4 n4 c4), (⟨bA, g0 + i * 3 + 2, none⟩, .slice B4 m4 d4)]) := at3L hat4 hb4
          clear hr4 hrc4 hat4 i4 j4 ra4 rb4 hb4
          go_upto_region 10 with fail
          refine wp_region_last (S := (fun w' => w'.cell? ⟨bA, g0 + i * 3, none⟩ = some (.bool r4.g) ∧ w'.cell? ⟨bA, g0 + i * 3 + 1, none⟩ = some (.slice A4 n4 c4) ∧ w'.cell? ⟨bA, g0 + i * 3 + 2, none⟩ = some (.slice B4 m4 d4))) 13 (by kernel_rfl) ?_ (fun hHeld => ?_)
          · (rw [← hWd]); (first | with_reducible exact atL3 CC)
          rw [← hWd] at hHeld ⊢
          clear hWd
          refine wpAnyL_go (i := 0) (d := some 51) (v := ?_) (y := 12) [0] (by rfl) (by kernel_rfl) (fun _ _ _ h => h) (by assumption) ?_ ?_
          rotate_left 1
          · (intro oS hoS wS hSw; obtain rfl := Option.some.inj hoS; (try dsimp only at hSw); go_simp; try with_reducible rfl)
          (try simp only [Act.put, List.setIfInBounds_toArray])
          refine wpAnyL_go (i := 1) (d := some 52) (v := ?_) (y := 12) [1] (by rfl) (by kernel_rfl) (fun _ _ _ h => h) (by assumption) ?_ ?_
          rotate_left 1
          · (intro oS hoS wS hSw; obtain rfl := Option.some.inj hoS; (try dsimp only at hSw); go_simp; try with_reducible rfl)
          (try simp only [Act.put, List.setIfInBounds_toArray])
          refine wpAnyL_go (i := 2) (d := some 53) (v := ?_) (y := 11) [5, 4, 2] (by rfl) (by kernel_rfl) (fun _ _ _ h => h) (by assumption) ?_ ?_
          rotate_left 1
          · (intro oS hoS wS hSw; obtain rfl := Option.some.inj hoS; (try dsimp only at hSw); go_simp; try with_reducible rfl)
          (try simp only [Act.put, List.setIfInBounds_toArray])
          refine wpAnyL_go (i := 3) (d := some 54) (v := ?_) (y := 11) [5, 4, 3] (by rfl) (by kernel_rfl) (fun _ _ _ h => h) (by assumption) ?_ ?_
          rotate_left 1
          · (intro oS hoS wS hSw; obtain rfl := Option.some.inj hoS; (try dsimp only at hSw); go_simp; try with_reducible rfl)
          (try simp only [Act.put, List.setIfInBounds_toArray])
          refine wpAnyL_go (i := 4) (d := some 55) (v := ?_) (y := 11) [5, 4] (by rfl) (by kernel_rfl) (fun _ _ _ h => h) (by assumption) ?_ ?_
          rotate_left 1
          · (intro oS hoS wS hSw; obtain rfl := Option.some.inj hoS; (try dsimp only at hSw); go_simp; try with_reducible rfl)
          (try simp only [Act.put, List.setIfInBounds_toArray])
          refine wpAnyL_go (i := 5) (d := some 56) (v := ?_) (y := 11) [5] (by rfl) (by kernel_rfl) (fun _ _ _ h => h) (by assumption) ?_ ?_
          rotate_left 1
          · (intro oS hoS wS hSw; obtain rfl := Option.some.inj hoS; (try dsimp only at hSw); go_simp; try with_reducible rfl)
          (try simp only [Act.put, List.setIfInBounds_toArray])
          refine wpAnyL_go (i := 6) (d := some 57) (v := ?_) (y := 11) [8, 6] (by rfl) (by kernel_rfl) (fun _ _ _ h => h) (by assumption) ?_ ?_
          rotate_left 1
          · (intro oS hoS wS hSw; obtain rfl := Option.some.inj hoS; (try dsimp only at hSw); go_simp; try with_reducible rfl)
          (try simp only [Act.put, List.setIfInBounds_toArray])
          refine wpAnyL_go (i := 7) (d := some 58) (v := ?_) (y := 11) [8, 7] (by rfl) (by kernel_rfl) (fun _ _ _ h => h) (by assumption) ?_ ?_
          rotate_left 1
          · (intro oS hoS wS hSw; obtain rfl := Option.some.inj hoS; (try dsimp only at hSw); go_simp; try with_reducible rfl)
          (try simp only [Act.put, List.setIfInBounds_toArray])
          refine wpAnyL_go (i := 8) (d := some 59) (v := ?_) (y := 11) [8] (by rfl) (by kernel_rfl) (fun _ _ _ h => h) (by assumption) ?_ ?_
          rotate_left 1
          · (intro oS hoS wS hSw; obtain rfl := Option.some.inj hoS; (try dsimp only at hSw); go_simp; try with_reducible rfl)
          (try simp only [Act.put, List.setIfInBounds_toArray])
          refine wpAnyL_go (i := 9) (d := some 60) (v := ?_) (y := 11) [9] (by rfl) (by kernel_rfl) (fun _ _ _ h => h) (by assumption) ?_ ?_
          rotate_left 1
          · (intro oS hoS wS hSw; obtain rfl := Option.some.inj hoS; (try dsimp only at hSw); go_simp; try with_reducible rfl)
          (try simp only [Act.put, List.setIfInBounds_toArray])
          refine wpAnyL_go (i := 10) (d := some 61) (v := ?_) (y := 11) [10] (by rfl) (by kernel_rfl) (fun _ _ _ h => h) (by assumption) ?_ ?_
          rotate_left 1
          · (intro oS hoS wS hSw; obtain rfl := Option.some.inj hoS; (try dsimp only at hSw); go_simp; try with_reducible rfl)
          (try simp only [Act.put, List.setIfInBounds_toArray])
          refine wpAnyL_one 11 (by kernel_rfl) (by decide) rfl (fun KK hK => ?_)
          go_simp
          (go_at_call 151; (with_reducible refine (impl_rest r4.g A4 n4 c4 r4.xs B4 m4 d4 r4.ds (some ⟨G, r0, none⟩) i _ ((mrow n (lowP n rs (rowsP i i)) i).take i) (some ⟨G, r0, none⟩) n _ (mrow n (lowP n rs (rowsP i i)) i) (some ⟨Gd, 0, none⟩) n n (numP n rs i) _ I4.out R4.out J4.out S4.out H4G.out IVA.out IVR.out IVD.out hin hin).mono ?_); rintro e w6 ⟨g8, r8, v8, d8, u8, rfl, hq6, q1, q2, hap6, hb6⟩; obtain ⟨A8, c8, rfl⟩ := own_slice q1.2; obtain ⟨B8, e8, rfl⟩ := own_slice q2.2; have HQ7 : Hid (RD.mk g8 r8 d8 = fD n rs i) := (hq6.trans HRC.out).trans (fD_eq n rs i).symm; have HB6 : Hid (∀ t, footV (.slice (some ⟨G, 0, none⟩) N cL) L t → t < Wd.heap.size) := fun t ht => (HF.out.own.lt t ht).2; have HD6 : Hid (∀ t, footV (.slice (some ⟨Gd, 0, none⟩) n n) D t → t < Wd.heap.size) := fun t ht => (HF.out.dow.lt t ht).2; have HW6 : Hid (W0.heap.size ≤ Wd.heap.size) := HF.out.siz; replace CC := Lib.hid (CC.out.below hb6); replace HF := Lib.hid (HF.out.below hb6); replace HB : Hid (Bk _) := stays_below HBK.out HB.out hb6; have HST : Hid (FJ n N rs w W0 bc bd lb G cL Gd n (rowsP i i) (i + 1) i i cv dv L _ _) := HF.out.putD HKK.out hlt (Nat.le_refl _) HQ7.out q1.2 q2.2 hap6 HB6.out HD6.out HW6.out; obtain ⟨x0, x1, x2, p0, p1, p2, f0, f1, f2⟩ := HF.out.dow.room hlt; have HBT : Hid (Bk _) := HBK.out _ _ HB.out ((((KeepsOthers.setCell w6 ⟨Gd, i * 3, none⟩ (.bool g8)).trans (KeepsOthers.setCell _ ⟨Gd, i * 3 + 1, none⟩ (.slice A8 r8.length c8))).trans (KeepsOthers.setCell _ ⟨Gd, i * 3 + 2, none⟩ (.slice B8 d8.length e8))).from _); clear hq6 q1 q2 hap6 hb6)
          (try go_wp2_with fail)
          refine hK.out _ _ ?_ (fun hHeld => ?_)
          · (try dsimp only); (first | with_reducible exact atL3 CC)
          clear hK KK
          (try simp only [Act.put, List.setIfInBounds_toArray])
          refine wpAnyL_go (i := 12) (d := some 63) (v := ?_) (y := 12) [] (by rfl) (by kernel_rfl) (fun _ _ _ h => h) (by assumption) ?_ ?_
          rotate_left 1
          · (intro oS hoS wS hSw; obtain rfl := Option.some.inj hoS; (try dsimp only at hSw); go_simp; try with_reducible rfl)
          (try simp only [Act.put, List.setIfInBounds_toArray])
          refine wpAnyL_last (by kernel_rfl) rfl (fun KK hK => ?_)
          go_simp
          refine hK.out _ _ ?_
          clear hK KK
          (try simp only [Act.put, List.setIfInBounds_toArray])
          refine wpAnyL_done (by kernel_rfl) ?_ _
          clear p0 p1 p2 f0 f1 f2
          obtain ⟨W9, hW9⟩ : ∃ X, X = ((w6.setCell ⟨Gd, i * 3, none⟩ (.bool g8)).setCell ⟨Gd, i * 3 + 1, none⟩ (.slice A8 r8.length c8)).setCell ⟨Gd, i * 3 + 2, none⟩ (.slice B8 d8.length e8) := ⟨_, rfl⟩
          rw [← hW9] at HST HBT ⊢
          clear hW9
          obtain ⟨E9, hE9⟩ : ∃ x : El, x = ⟨g8, .slice A8 r8.length c8, r8.length, r8.map (.int .i64), .slice B8 d8.length e8, d8.length, d8.map (.int .i64)⟩ := ⟨_, rfl⟩
          rw [← hE9] at HST
          have hdl : i < (D.set i E9).length := by rw [HST.out.dow.1]; exact hlt
          have hcl := HST.out.dow.cells hdl
          rw [List.getElem_set_self] at hcl
          have hJy : JyY n N rs w W0 bc bd ⟨G, cL, Gd, n, lb, i, .slice (some ⟨G, r0, none⟩) n c1, E9, L, D.set i E9⟩ W9 := by
            refine ⟨hlt, ⟨cv, dv, HST.out.congr rowsP_next⟩, ⟨c1, ?_⟩, ?_, HP.out⟩
            · show Value.slice (some ⟨G, r0, none⟩) n c1 = .slice (some ⟨G, i * n * 3, none⟩) n c1
              rw [HR0.out]
            · show (D.set i E9)[i]? = some E9
              rw [List.getElem?_eq_getElem hdl, List.getElem_set_self]
          obtain ⟨fn9, tm9, as9, bo9, hy9, hR9⟩ := HYL.out _ W9 hJy HBT.out
          have HR9 := Lib.hid hR9
          have HY9 := Lib.hid hy9
          obtain ⟨q0, q1, q2⟩ := hcl
          rw [hE9] at q0 q1 q2
          dsimp only at q0 q1 q2
          clear hJy hR9 hy9
          go_upto_region 11 with fail
          have hy := HY9.out
          dsimp only [encY] at hy
          rw [hE9] at hy
          dsimp only at hy
          have hd1 : (1 : Nat) ≤ 3 := by omega
          refine (wpIn_wide (n := 3)).1 ?_
          gi_wp2
          refine HR9.out.mono ?_
          rintro e W10 (⟨rfl, hJn, hBk10⟩ | ⟨rfl, hJx, hBx10⟩)
          · obtain ⟨_, ⟨cv10, dv10, hF10⟩, hP10⟩ := hJn
            have HF10 := Lib.hid hF10
            have HP10 := Lib.hid hP10
            have HB10 := Lib.hid hBk10
            clear hF10 hP10 hBk10 q0 q1 q2 hy
            gi_wp2
            go_wp2_with fail
            go_roundw
            case rel => exact ⟨i + 1, cv10, dv10, L, _, hlt, by go_num, HF10, HP10, HB10⟩
            case measure => simp [intOf]; omega
          · have HRX := Lib.hid hJx
            have HBX := Lib.hid hBx10
            clear hJx hBx10 q0 q1 q2 hy
            gi_wp2
            go_wp2_with fail
            refine bodyPost_ret (results_none rfl _ _ _) rfl ?_
            exact ⟨⟨_, rfl⟩, .inr ⟨HRX.out, HBX.out⟩⟩
    · obtain rfl : n = i := by omega
      go_wp2_with fail
      go_end0
      exact ⟨⟨_, rfl⟩, .inl ⟨⟨⟨lb, G, cL, Gd, n, cv, dv, L, D, HF.out⟩, HP.out⟩, HB.out⟩⟩
end Go.Proofs.YtdehcddjkcpnfaaGreat
