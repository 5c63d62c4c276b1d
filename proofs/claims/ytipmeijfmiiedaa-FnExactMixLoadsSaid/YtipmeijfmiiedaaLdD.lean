/- Loads as data: what the functions on loads answer. -/
import Derived.Test.YtipmeijfmiiedaaStO4
import Derived.Test.YtipmeijfmiiedaaLpD
namespace Go.Proofs.Ytipmeijfmiiedaa
set_option maxRecDepth 100000
open Go.RowKit

/-- A load of a structure. -/
def LdOk (js : List JD) (ms : List MD) (l : List Int) : Prop := TOk js ms ∧ l.length = 2 * js.length ∧ Ent l
def LoadOkIs (js : List JD) (ms : List MD) (l : List Int) (b : Bool) : Prop := b = true ↔ LdOk js ms l
theorem loadOk_unique {js : List JD} {ms : List MD} {l : List Int} {b b' : Bool} (h : LoadOkIs js ms l b) (h' : LoadOkIs js ms l b') : b = b' := by
  unfold LoadOkIs at h h'
  cases b <;> cases b' <;> simp_all
theorem TOk.six {js : List JD} {ms : List MD} (h : TOk js ms) : js.length ≤ 6 := h.1.1
theorem Ent.at_ {l : List Int} (h : Ent l) (i : Nat) : -100 ≤ (l[i]?).getD 0 ∧ (l[i]?).getD 0 ≤ 100 := by
  by_cases hi : i < l.length
  · rw [List.getElem?_eq_getElem hi]
    exact h _ (List.getElem_mem hi)
  · rw [List.getElem?_eq_none (by omega)]
    exact ⟨by decide, by decide⟩
def noload (n : Nat) : List Int := List.replicate (2 * n) 0
def NoLoadIs (js : List JD) (ms : List MD) (r : List Int) : Prop := (TOk js ms ∧ r = noload js.length) ∨ (¬ TOk js ms ∧ r = [])
theorem noLoad_unique {js : List JD} {ms : List MD} {r r' : List Int} (h : NoLoadIs js ms r) (h' : NoLoadIs js ms r') : r = r' := by
  rcases h with ⟨h1, rfl⟩ | ⟨h1, rfl⟩ <;> rcases h' with ⟨h2, rfl⟩ | ⟨h2, rfl⟩
  · rfl
  · exact absurd h1 h2
  · exact absurd h2 h1
  · rfl
/-- x and y added to the force on joint k, as the machine adds. -/
def putl (l : List Int) (k : Nat) (x y : Int) : List Int := (l.set (2 * k) (IntKind.i64.wrap ((l[2 * k]?).getD 0 + x))).set (2 * k + 1) (IntKind.i64.wrap ((l[2 * k + 1]?).getD 0 + y))
theorem putl_length (l : List Int) (k : Nat) (x y : Int) : (putl l k x y).length = l.length := by simp [putl]
def PutOk (js : List JD) (ms : List MD) (l : List Int) (k x y : Int) : Prop := LdOk js ms l ∧ (0 ≤ k ∧ k < js.length) ∧ LdOk js ms (putl l k.toNat x y)
def PutLoadIs (js : List JD) (ms : List MD) (l : List Int) (k x y : Int) (r : List Int) (b : Bool) : Prop := (PutOk js ms l k x y ∧ r = putl l k.toNat x y ∧ b = true) ∨ (¬ PutOk js ms l k x y ∧ r = [] ∧ b = false)
theorem putLoad_unique {js : List JD} {ms : List MD} {l : List Int} {k x y : Int} {r r' : List Int} {b b' : Bool} (h : PutLoadIs js ms l k x y r b) (h' : PutLoadIs js ms l k x y r' b') : r = r' ∧ b = b' := by
  rcases h with ⟨h1, rfl, rfl⟩ | ⟨h1, rfl, rfl⟩ <;> rcases h' with ⟨h2, rfl, rfl⟩ | ⟨h2, rfl, rfl⟩
  · exact ⟨rfl, rfl⟩
  · exact absurd h1 h2
  · exact absurd h2 h1
  · exact ⟨rfl, rfl⟩
/-- Numbers beyond twice the limit can't end within it. -/
theorem put_far {js : List JD} {ms : List MD} {l : List Int} {k : Nat} {x y : Int} (hx : -9223372036854775808 ≤ x ∧ x ≤ 9223372036854775807) (hy : -9223372036854775808 ≤ y ∧ y ≤ 9223372036854775807)
    (h : LdOk js ms l) (hk : k < js.length) (hp : LdOk js ms (putl l k x y)) : (-200 ≤ x ∧ x ≤ 200) ∧ -200 ≤ y ∧ y ≤ 200 := by
  have hl := h.2.1
  have e0 := h.2.2.at_ (2 * k)
  have e1 := h.2.2.at_ (2 * k + 1)
  have m0 : IntKind.i64.wrap ((l[2 * k]?).getD 0 + x) ∈ putl l k x y := by
    refine List.mem_of_getElem? (i := 2 * k) ?_
    unfold putl
    rw [List.getElem?_set_ne (by omega), List.getElem?_set_self (by omega)]
  have m1 : IntKind.i64.wrap ((l[2 * k + 1]?).getD 0 + y) ∈ putl l k x y := by
    refine List.mem_of_getElem? (i := 2 * k + 1) ?_
    unfold putl
    rw [List.getElem?_set_self (by rw [List.length_set]; omega)]
  have b0 := hp.2.2 _ m0
  have b1 := hp.2.2 _ m1
  rw [IntKind.wrap_i64] at b0 b1
  generalize (l[2 * k]?).getD 0 = u at *
  generalize (l[2 * k + 1]?).getD 0 = v at *
  omega
/-- The sums of every second number. -/
def tot2 (l : List Int) (o : Nat) : Nat → Int
  | 0 => 0
  | k + 1 => tot2 l o k + (l[2 * k + o]?).getD 0
theorem tot2_bound {l : List Int} (h : Ent l) (o : Nat) : ∀ k : Nat, -(100 * k : Int) ≤ tot2 l o k ∧ tot2 l o k ≤ 100 * k
  | 0 => by simp [tot2]
  | k + 1 => by
    have h1 := tot2_bound h o k
    have h2 := h.at_ (2 * k + o)
    unfold tot2
    omega
def TotalOfIs (js : List JD) (ms : List MD) (l : List Int) (x y : Int) : Prop := (LdOk js ms l ∧ x = tot2 l 0 js.length ∧ y = tot2 l 1 js.length) ∨ (¬ LdOk js ms l ∧ x = 0 ∧ y = 0)
theorem totalOf_unique {js : List JD} {ms : List MD} {l : List Int} {x y x' y' : Int} (h : TotalOfIs js ms l x y) (h' : TotalOfIs js ms l x' y') : x = x' ∧ y = y' := by
  rcases h with ⟨h1, rfl, rfl⟩ | ⟨h1, rfl, rfl⟩ <;> rcases h' with ⟨h2, rfl, rfl⟩ | ⟨h2, rfl, rfl⟩
  · exact ⟨rfl, rfl⟩
  · exact absurd h1 h2
  · exact absurd h2 h1
  · exact ⟨rfl, rfl⟩
def jx (js : List JD) (k : Nat) : Int := ((js[k]?).map JD.x).getD 0
def jy (js : List JD) (k : Nat) : Int := ((js[k]?).map JD.y).getD 0
theorem jx_of {js : List JD} {k : Nat} {s : ByteArray} {x y : Int} {f : Bool} (h : js[k]? = some ⟨s, x, y, f⟩) : jx js k = x := by unfold jx; rw [h]; rfl
theorem jy_of {js : List JD} {k : Nat} {s : ByteArray} {x y : Int} {f : Bool} (h : js[k]? = some ⟨s, x, y, f⟩) : jy js k = y := by unfold jy; rw [h]; rfl
def mom (js : List JD) (l : List Int) (x y : Int) : Nat → Int
  | 0 => 0
  | k + 1 => mom js l x y k + (jx js k - x) * (l[2 * k + 1]?).getD 0 - (jy js k - y) * (l[2 * k]?).getD 0
theorem mul_le_of {a b : Int} {m n : Nat} (ha : -(m : Int) ≤ a ∧ a ≤ m) (hb : -(n : Int) ≤ b ∧ b ≤ n) : -((m * n : Nat) : Int) ≤ a * b ∧ a * b ≤ ((m * n : Nat) : Int) := by
  have h1 : (a * b).natAbs = a.natAbs * b.natAbs := Int.natAbs_mul a b
  have h2 := Nat.mul_le_mul (show a.natAbs ≤ m by omega) (show b.natAbs ≤ n by omega)
  omega
theorem mom_parts {js : List JD} {ms : List MD} {l : List Int} (h : LdOk js ms l) {x y : Int} (hx : -1000 ≤ x ∧ x ≤ 1000) (hy : -1000 ≤ y ∧ y ≤ 1000) (k : Nat) :
    (-1050 ≤ jx js k - x ∧ jx js k - x ≤ 1050) ∧ (-1050 ≤ jy js k - y ∧ jy js k - y ≤ 1050) ∧ (-105000 ≤ (jx js k - x) * (l[2 * k + 1]?).getD 0 ∧ (jx js k - x) * (l[2 * k + 1]?).getD 0 ≤ 105000) ∧ -105000 ≤ (jy js k - y) * (l[2 * k]?).getD 0 ∧ (jy js k - y) * (l[2 * k]?).getD 0 ≤ 105000 := by
  have hj : (-50 ≤ jx js k ∧ jx js k ≤ 50) ∧ -50 ≤ jy js k ∧ jy js k ≤ 50 := by
    unfold jx jy
    cases hq : js[k]? with
    | none => simp
    | some j => exact (h.1.1.2.1 j (List.mem_of_getElem? hq)).2
  have h1 : -1050 ≤ jx js k - x ∧ jx js k - x ≤ 1050 := by omega
  have h2 : -1050 ≤ jy js k - y ∧ jy js k - y ≤ 1050 := by omega
  exact ⟨h1, h2, mul_le_of (m := 1050) (n := 100) h1 (h.2.2.at_ _), mul_le_of (m := 1050) (n := 100) h2 (h.2.2.at_ _)⟩
theorem mom_bound {js : List JD} {ms : List MD} {l : List Int} (h : LdOk js ms l) {x y : Int} (hx : -1000 ≤ x ∧ x ≤ 1000) (hy : -1000 ≤ y ∧ y ≤ 1000) : ∀ k : Nat, -(210000 * k : Int) ≤ mom js l x y k ∧ mom js l x y k ≤ 210000 * k
  | 0 => by simp [mom]
  | k + 1 => by
    have h1 := mom_bound h hx hy k
    have h2 := mom_parts h hx hy k
    unfold mom
    omega
def MomOk (js : List JD) (ms : List MD) (l : List Int) (x y : Int) : Prop := LdOk js ms l ∧ (-1000 ≤ x ∧ x ≤ 1000) ∧ -1000 ≤ y ∧ y ≤ 1000
def MomentOfIs (js : List JD) (ms : List MD) (l : List Int) (x y r : Int) : Prop := (MomOk js ms l x y ∧ r = mom js l x y js.length) ∨ (¬ MomOk js ms l x y ∧ r = 0)
theorem momentOf_unique {js : List JD} {ms : List MD} {l : List Int} {x y r r' : Int} (h : MomentOfIs js ms l x y r) (h' : MomentOfIs js ms l x y r') : r = r' := by
  rcases h with ⟨h1, rfl⟩ | ⟨h1, rfl⟩ <;> rcases h' with ⟨h2, rfl⟩ | ⟨h2, rfl⟩
  · rfl
  · exact absurd h1 h2
  · exact absurd h2 h1
  · rfl
/-- One component of a mix of the first t cases. -/
def wsum (cs : List (List Int)) (ws : List Int) (i : Nat) : Nat → Int
  | 0 => 0
  | t + 1 => wsum cs ws i t + (ws[t]?).getD 0 * (((cs[t]?).getD [])[i]?).getD 0
def mixTo (cs : List (List Int)) (ws : List Int) (n t : Nat) : List Int := (List.range n).map fun i => wsum cs ws i t
theorem mixTo_length (cs : List (List Int)) (ws : List Int) (n t : Nat) : (mixTo cs ws n t).length = n := by simp [mixTo]
theorem mixTo_at (cs : List (List Int)) (ws : List Int) {n i : Nat} (t : Nat) (hi : i < n) : (mixTo cs ws n t)[i]? = some (wsum cs ws i t) := by simp [mixTo, hi]
theorem mixTo_zero (cs : List (List Int)) (ws : List Int) (n : Nat) : mixTo cs ws n 0 = List.replicate n 0 := by
  unfold mixTo wsum
  rw [List.map_const', List.length_range]
def WOk (ws : List Int) : Prop := ∀ z ∈ ws, 0 ≤ z ∧ z ≤ 100
theorem WOk.at_ {ws : List Int} (h : WOk ws) (i : Nat) : 0 ≤ (ws[i]?).getD 0 ∧ (ws[i]?).getD 0 ≤ 100 := by
  by_cases hi : i < ws.length
  · rw [List.getElem?_eq_getElem hi]
    exact h _ (List.getElem_mem hi)
  · rw [List.getElem?_eq_none (by omega)]
    exact ⟨by decide, by decide⟩
theorem wsum_step {cs : List (List Int)} {ws : List Int} (t : Nat) (hw : 0 ≤ (ws[t]?).getD 0 ∧ (ws[t]?).getD 0 ≤ 100) (hc : ∀ c, cs[t]? = some c → Ent c) (i : Nat) :
    -10000 ≤ (ws[t]?).getD 0 * (((cs[t]?).getD [])[i]?).getD 0 ∧ (ws[t]?).getD 0 * (((cs[t]?).getD [])[i]?).getD 0 ≤ 10000 := by
  refine mul_le_of (m := 100) (n := 100) (by omega) ?_
  cases hq : cs[t]? with
  | none => simp
  | some c => exact (hc c hq).at_ i
theorem wsum_bound {cs : List (List Int)} {ws : List Int} : ∀ {t : Nat} (_ : ∀ u, u < t → (0 ≤ (ws[u]?).getD 0 ∧ (ws[u]?).getD 0 ≤ 100) ∧ ∀ c, cs[u]? = some c → Ent c) (i : Nat), -(10000 * t : Int) ≤ wsum cs ws i t ∧ wsum cs ws i t ≤ 10000 * t
  | 0, _, _ => by simp [wsum]
  | t + 1, h, i => by
    have h1 := wsum_bound (fun u hu => h u (Nat.lt_succ_of_lt hu)) i
    have h2 := wsum_step t (h t (Nat.lt_succ_self t)).1 (h t (Nat.lt_succ_self t)).2 i
    unfold wsum
    omega
def MixIn (js : List JD) (ms : List MD) (cs : List (List Int)) (ws : List Int) : Prop := TOk js ms ∧ cs.length = ws.length ∧ cs.length ≤ 10 ∧ (∀ c ∈ cs, LdOk js ms c) ∧ WOk ws
def mixAll (js : List JD) (cs : List (List Int)) (ws : List Int) : List Int := mixTo cs ws (2 * js.length) cs.length
def MixOk (js : List JD) (ms : List MD) (cs : List (List Int)) (ws : List Int) : Prop := MixIn js ms cs ws ∧ LdOk js ms (mixAll js cs ws)
def MixLoadsIs (js : List JD) (ms : List MD) (cs : List (List Int)) (ws : List Int) (r : List Int) (b : Bool) : Prop := (MixOk js ms cs ws ∧ r = mixAll js cs ws ∧ b = true) ∨ (¬ MixOk js ms cs ws ∧ r = [] ∧ b = false)
theorem mixLoads_unique {js : List JD} {ms : List MD} {cs : List (List Int)} {ws : List Int} {r r' : List Int} {b b' : Bool} (h : MixLoadsIs js ms cs ws r b) (h' : MixLoadsIs js ms cs ws r' b') : r = r' ∧ b = b' := by
  rcases h with ⟨h1, rfl, rfl⟩ | ⟨h1, rfl, rfl⟩ <;> rcases h' with ⟨h2, rfl, rfl⟩ | ⟨h2, rfl, rfl⟩
  · exact ⟨rfl, rfl⟩
  · exact absurd h1 h2
  · exact absurd h2 h1
  · exact ⟨rfl, rfl⟩
def SameLoadsIs (a b : List Int) (r : Bool) : Prop := r = true ↔ a = b
theorem sameLoads_unique {a b : List Int} {r r' : Bool} (h : SameLoadsIs a b r) (h' : SameLoadsIs a b r') : r = r' := by
  unfold SameLoadsIs at h h'
  cases r <;> cases r' <;> simp_all
/-- Lists that a function of loads hands back, with true; or none. -/
def LdEnd (Q : List Int → Bool → Prop) (w w' : World) (e : Ending) : Prop := ∃ r v b, e = .returned (.tuple #[v, .bool b]) ∧ Q r b ∧ ResI w w' v r ∧ Below w.heap.size w w'
def TwoEnd (Q : Int → Int → Prop) (w w' : World) (e : Ending) : Prop := ∃ x y, e = .returned (.tuple #[.int .i64 x, .int .i64 y]) ∧ Q x y ∧ Below w.heap.size w w'
def NumEnd (Q : Int → Prop) (w w' : World) (e : Ending) : Prop := ∃ r, e = .returned (.int .i64 r) ∧ Q r ∧ Below w.heap.size w w'
end Go.Proofs.Ytipmeijfmiiedaa
