/- A law on append: what a slice of ints that is read (nil or not) holds, behind a slice of the call's own. -/
import Derived.Test.YtjggdbakbhacjaaMemI
import Derived.Maps.AppendAt
import Derived.Deep.AppendSrc
namespace Go.Proofs.Ytjggdbakbhacjaa
set_option maxRecDepth 100000
open Go.RowKit

theorem run_append_none {P : Program} (w : World) (base : Nat) (t ty e : TypeId) (i : TypeInfo) (ht : P.underlying t = some (.slice e)) (hi : P.info? e = some i) (v : Value) (n : Nat) (xs : List Value) (hown : w.ownsRow base e i.size v n xs) (c : Nat) :
    (Builtin.append_ #[t, t] ty #[v, .slice none 0 c]).run P w = .ok v w := by
  rcases hown.2 with ⟨rfl, rfl⟩ | ⟨g, cap, cur, rfl, hbg, hg, hnc, hcm, hcs, htake⟩
  · simp [Builtin.append_, run_underlying ht, sizeOf, typeInfo, hi, Builtin.lenOf, Builtin.firstCells]
  · have h := run_append_room_src (P := P) w t t ty e i ht hi g 0 n cap (.slice none 0 c) 0 [] (Src.ofNil w ht c) (by omega) (by simp) (by simp)
    rw [h]; rfl

theorem wpList_append_reads {P : Program} {w : World} {ops : Array Oper} {rest : List Oper} {o : Oper} {a : Act} {Q : Exit → Act → World → Prop} (hgd : o.guard = none) (s x : Operand) (t : TypeId)
    (ho : o.op = .call { callee := .builtin .append, args := #[s, x], argTypes := #[t, t] })
    (base : Nat) (e : TypeId) (i : TypeInfo) (z : Value) (bytes : Nat) (ht : P.underlying t = some (.slice e)) (hi : P.info? e = some i) (hz : i.zero = some z)
    (hsize : i.size = 1) (hby : i.bytes = bytes) (hzs : z.cells.size = 1)
    (v : Value) (n : Nat) (xs : List Value) (hs : a.eval s = v) (hown : w.ownsRow base e 1 v n xs)
    (A : Option Addr) (m c : Nat) (news : List Value) (hx : a.eval x = .slice A m c) (hl : news.length = m) (hr : Reads w A news) (h1 : ∀ u ∈ news, u.oneCell' = true)
    (h63 : n + m ≤ maxLen) (hbytes : (n + m) * bytes ≤ 140737488355328) (hbase : base ≤ w.heap.size)
    (h : ∀ v' w', w'.ownsRow base e 1 v' (n + m) (xs ++ news) → w.grownBy w' v.ownBlock → wpList P ops Q rest (a.put o.dst v') w') : wpList P ops Q (o :: rest) a w := by
  cases A with
  | some ad =>
    refine wpList_append_own w hgd s x t ho base e i z 1 bytes ht hi hz hsize hby hzs (by decide) v n xs hs hown ad m c news hx (by omega) (fun j u hu => ?_) h1 h63 hbytes hbase (fun v' w' h2 h3 _ => h v' w' h2 h3)
    rcases hr with rfl | ⟨b, o, he, _, hc⟩
    · simp at hu
    · cases he
      obtain ⟨hj, rfl⟩ := List.getElem?_eq_some_iff.1 hu
      have := hc j hj
      simpa [Addr.add_lit] using this
  | none =>
    have hn : news = [] := by
      rcases hr with rfl | ⟨b, o, he, _⟩
      · rfl
      · cases he
    subst hn
    obtain rfl : m = 0 := by simpa using hl.symm
    have hrun := run_append_none (P := P) w base t o.type e i ht hi v n xs (by rw [hsize]; exact hown) c
    refine wpList_plain hgd fun K hK => ?_
    unfold Oper.wp execOp
    simp only [ho, resolve, invoke, builtin, Sem.run_bind, Sem.run_pure, Result.andThen_ok, List.map_toArray, List.map_cons, List.map_nil, hs, hx, hrun]
    exact hK _ _ (h v w (by simpa using hown) (World.grownBy.refl _ _))

/-- A copy of a list of ints. -/
def CloneEnd (xs : List Int) (w w' : World) (e : Ending) : Prop := ∃ v, e = .returned v ∧ w'.ownsRow w.heap.size 3 1 v xs.length (xs.map (.int .i64)) ∧ Below w.heap.size w w'
set_option maxHeartbeats 400000 in
theorem clone_any (A : Option Addr) (n c : Nat) (xs : List Int) (w : World) (hn : xs.length = n) (hm : n ≤ 1048576) (hr : Reads w A (xs.map (.int .i64))) :
    Calls Try.prog 139 #[.slice A n c] w fun e w' => CloneEnd xs w w' e := by
  obtain ⟨i0, hi, hz0, hz1, hz2⟩ := info_parts Try.infoI
  have heq := fun wx => Lib.run_eql_slice_nil (P := Try.prog) wx 22 3 A n c 0 0 Try.underlying22
  have Hn := Lib.hid hn
  have Hr := Lib.hid hr
  clear hn hr
  cases A with
  | none =>
    have hx : Hid (xs = []) := by
      rcases Hr.out with h | ⟨b, o, he, _⟩
      · exact List.map_eq_nil_iff.1 h
      · cases he
    go_enter Try.func139, Try.ntmps139
    go_wp2_with fail
    go_ret
    exact ⟨_, rfl, by rw [hx.out]; exact World.ownsRow_nil _ _ _ _, Below.refl _ _⟩
  | some ad =>
    go_enter Try.func139, Try.ntmps139
    have hrd : Reads (w.alloc (.cells #[] 3)) (some ad) (xs.map (.int .i64)) := Hr.out.below ((Below.refl _ _).alloc (Nat.le_refl _) _)
    have hlen : (xs.map (Value.int .i64)).length = n := by rw [List.length_map, Hn.out]
    have h63 : 0 + n ≤ maxLen := by unfold maxLen; omega
    have hby : (0 + n) * 8 ≤ 140737488355328 := by omega
    have hbs : w.heap.size ≤ (w.alloc (.cells #[] 3)).heap.size := by simp
    have HL := Lib.hid hlen
    have HR := Lib.hid hrd
    clear hlen hrd
    go_wp2_with (at_builtin; refine wpList_append_reads rfl _ _ 22 rfl w.heap.size 3 i0 (.int .i64 0) 8 Try.underlying22 hi hz0 hz1 hz2 rfl _ _ _ rfl (World.ownsRow_lit w #[] 0 (Nat.le_refl _) (by simp) (by simp)) (some ad) n c (xs.map (.int .i64)) rfl HL.out HR.out (by simp [Value.oneCell']) h63 hby hbs ?_)
    intro v' w' hown hg
    have hfin : Hid (CloneEnd xs w w' (.returned v')) := by
      refine ⟨v', rfl, by simpa [Hn.out] using hown, ?_⟩
      exact ((Below.refl w.heap.size w).alloc (Nat.le_refl _) _).grown hg (by simp) (fun k hk => by simp [Value.ownBlock] at hk; omega)
    clear hown hg
    go_wp2_with fail
    go_ret
    exact hfin.out
end Go.Proofs.Ytjggdbakbhacjaa
