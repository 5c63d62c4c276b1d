/- Contracts of fractions: RatAdd, RatOf, RatFromInt by the model; equality. -/
import Derived.Test.YthjbfdifeffilaaGreatRatS5
import Derived.Test.YthjbfdifeffilaaGreatGE
import Derived.BigQuiet
import Derived.Test.YthjbfdifeffilaaGreatGD
import Derived.Deep.DeepCutAuto
namespace Go.Proofs.YthjbfdifeffilaaGreat
set_option maxRecDepth 100000
open Go.RowKit

theorem bigOf_ok {n : Int} {g : Bool} {l : List Int} (h : BigIntOfIs n g l) (h0 : -9223372036854775808 ≤ n) (h1 : n ≤ 9223372036854775807) : BOk g l ∧ bval g l = n := by
  have hp : pw 60 > 9223372036854775808 := by decide
  exact bRep_small h (by omega) (by omega)
theorem ratOf_mk {n m : Int} {ga gb : Bool} {la lb : List Int} {g : Bool} {l d : List Int} (ha : BOk ga la ∧ bval ga la = n) (hb : BOk gb lb ∧ bval gb lb = m) (h : RatMakeIs ga la gb lb g l d) : RatOfIs n m g l d := by
  unfold RatMakeIs at h
  rw [ha.2, hb.2] at h
  exact rIs_prop h ⟨ha.1, hb.1⟩ trivial
set_option maxHeartbeats 1600000 in
theorem impl_ratOf (n m : Int) (w : World) (hn : -9223372036854775808 ≤ n ∧ n ≤ 9223372036854775807) (hm : -9223372036854775808 ≤ m ∧ m ≤ 9223372036854775807) :
    Calls Tryz.prog 124 #[.int .i64 n, .int .i64 m] w fun e w' => RatEnd (RatOfIs n m) w w' e := by
  obtain ⟨W0, hW0⟩ : ∃ W, W = (w.alloc (.cells #[.bool false, .slice none 0 0, .slice none 0 0] 35)) := ⟨_, rfl⟩
  have hs_0 : Hid (Box W0 (w.heap.size) 35 #[.bool false, .slice none 0 0, .slice none 0 0]) := by rw [hW0]; exact (Box.at' (by simp))
  have BW_0 : Hid (Below w.heap.size w W0) := by rw [hW0]; exact ((Below.refl w.heap.size w).alloc (by simp) _)
  have hsz0 : w.heap.size + 1 ≤ W0.heap.size := by rw [hW0]; simp
  go_enter Tryz.func124, Tryz.ntmps124
  go_wp2_with fail
  rw [← hW0]
  clear hW0
  refine (impl_bigOf' n _ hn).mono ?_
  rintro e wa ⟨ga, la, va, rfl, hq, ⟨hla, ho⟩, hb⟩
  have HCa := Lib.hid (bigOf_ok hq hn.1 hn.2)
  have hs_1 := Lib.hid (hs_0.out.below hb hs_0.out.lt)
  have BW_1 := Lib.hid (BW_0.out.trans (hb.mono BW_0.out.size))
  clear hb
  obtain ⟨Aa, ca, rfl⟩ := own_slice ho
  obtain ⟨na, hna⟩ : ∃ N, N = la.length := ⟨_, rfl⟩
  rw [← hna] at hla ho ⊢
  have HNa := Lib.hid hna
  have HOa := Lib.hid ho
  clear ho hna
  have hsa : na ≤ 60 := by have := HCa.out.1.1.2; rwa [← HNa.out] at this
  clear hq
  go_wp2_with fail
  refine (impl_bigOf' m _ hm).mono ?_
  rintro e wb ⟨gb, lb, vb, rfl, hq, ⟨hlb, ho⟩, hb⟩
  have HCb := Lib.hid (bigOf_ok hq hm.1 hm.2)
  have hs_2 := Lib.hid (hs_1.out.below hb hs_1.out.lt)
  have BW_2 := Lib.hid (BW_1.out.trans (hb.mono BW_1.out.size))
  replace HOa := Lib.hid (own_below HOa.out hb)
  clear hb
  obtain ⟨Ab, cb, rfl⟩ := own_slice ho
  obtain ⟨nb, hnb⟩ : ∃ N, N = lb.length := ⟨_, rfl⟩
  rw [← hnb] at hlb ho ⊢
  have HNb := Lib.hid hnb
  have HOb := Lib.hid ho
  clear ho hnb
  have hsb : nb ≤ 60 := by have := HCb.out.1.1.2; rwa [← HNb.out] at this
  clear hq
  go_wp2_with fail
  refine (impl_ratMake0 ga Aa na ca la gb Ab nb cb lb _ ⟨HNa.out.symm, by omega, Reads.of_own HOa.out, limbs_bd HCa.out.1.1.1.1⟩ ⟨HNb.out.symm, by omega, Reads.of_own HOb.out, limbs_bd HCb.out.1.1.1.1⟩).mono ?_
  rintro e wz ⟨s, r, v, dd, u, rfl, hq, ⟨hl1, ho1⟩, ⟨hl2, ho2⟩, hap, hb⟩
  have HQ := Lib.hid (ratOf_mk HCa.out HCb.out hq)
  have HAP := Lib.hid hap
  have hszl := BW_2.out.size
  have hs_3 := Lib.hid (hs_2.out.below hb hs_2.out.lt)
  have BW_3 := Lib.hid (BW_2.out.trans (hb.mono BW_2.out.size))
  clear hb
  clear hq hap
  obtain ⟨A9, c9, rfl⟩ := own_slice ho1
  obtain ⟨B9, d9, rfl⟩ := own_slice ho2
  obtain ⟨N9, hN9⟩ : ∃ N, N = r.length := ⟨_, rfl⟩
  obtain ⟨M9, hM9⟩ : ∃ N, N = dd.length := ⟨_, rfl⟩
  rw [← hN9] at hl1 ho1 HAP ⊢
  rw [← hM9] at hl2 ho2 HAP ⊢
  have HN := Lib.hid hN9.symm
  have HM := Lib.hid hM9.symm
  have HO := Lib.hid ho1
  have HU := Lib.hid ho2
  clear ho1 ho2 hN9 hM9
  have ehs0 := hs_3.out.cell 0
  have ehs1 := hs_3.out.cell 1
  have ehs2 := hs_3.out.cell 2
  have fhs0 := hs_3.out.free 0
  have fhs1 := hs_3.out.free 1
  have fhs2 := hs_3.out.free 2
  simp at ehs0 ehs1 ehs2
  go_wp2_with fail
  refine bodyPost_ret (v := .agg #[.bool s, .slice A9 N9 c9, .slice B9 M9 d9]) (by simp [results, Tryz.results124, ehs0, ehs1, ehs2, go_sem]) rfl ?_
  exact ratEnd_store hs_3.out (by omega) BW_3.out HQ.out HN.out HM.out (by omega) (by omega) HO.out (by omega) HU.out (by omega) HAP.out
set_option maxHeartbeats 800000 in
theorem impl_ratFromInt (n : Int) (w : World) (hn : -9223372036854775808 ≤ n ∧ n ≤ 9223372036854775807) :
    Calls Tryz.prog 67 #[.int .i64 n] w fun e w' => RatEnd (RatFromIntIs n) w w' e := by
  obtain ⟨W0, hW0⟩ : ∃ W, W = (w.alloc (.cells #[.bool false, .slice none 0 0, .slice none 0 0] 35)) := ⟨_, rfl⟩
  have hs_0 : Hid (Box W0 (w.heap.size) 35 #[.bool false, .slice none 0 0, .slice none 0 0]) := by rw [hW0]; exact (Box.at' (by simp))
  have BW_0 : Hid (Below w.heap.size w W0) := by rw [hW0]; exact ((Below.refl w.heap.size w).alloc (by simp) _)
  have hsz0 : w.heap.size + 1 ≤ W0.heap.size := by rw [hW0]; simp
  go_enter Tryz.func67, Tryz.ntmps67
  go_wp2_with fail
  rw [← hW0]
  clear hW0
  refine (impl_ratOf n 1 _ hn ⟨by omega, by omega⟩).mono ?_
  rintro e wz ⟨s, r, v, dd, u, rfl, hq, ⟨hl1, ho1⟩, ⟨hl2, ho2⟩, hap, hb⟩
  have HQ : Hid (RatFromIntIs n s r dd) := hq
  have HAP := Lib.hid hap
  have hszl := BW_0.out.size
  have hs_1 := Lib.hid (hs_0.out.below hb hs_0.out.lt)
  have BW_1 := Lib.hid (BW_0.out.trans (hb.mono BW_0.out.size))
  clear hb
  clear hq hap
  obtain ⟨A9, c9, rfl⟩ := own_slice ho1
  obtain ⟨B9, d9, rfl⟩ := own_slice ho2
  obtain ⟨N9, hN9⟩ : ∃ N, N = r.length := ⟨_, rfl⟩
  obtain ⟨M9, hM9⟩ : ∃ N, N = dd.length := ⟨_, rfl⟩
  rw [← hN9] at hl1 ho1 HAP ⊢
  rw [← hM9] at hl2 ho2 HAP ⊢
  have HN := Lib.hid hN9.symm
  have HM := Lib.hid hM9.symm
  have HO := Lib.hid ho1
  have HU := Lib.hid ho2
  clear ho1 ho2 hN9 hM9
  have ehs0 := hs_1.out.cell 0
  have ehs1 := hs_1.out.cell 1
  have ehs2 := hs_1.out.cell 2
  have fhs0 := hs_1.out.free 0
  have fhs1 := hs_1.out.free 1
  have fhs2 := hs_1.out.free 2
  simp at ehs0 ehs1 ehs2
  go_wp2_with fail
  refine bodyPost_ret (v := .agg #[.bool s, .slice A9 N9 c9, .slice B9 M9 d9]) (by simp [results, Tryz.results67, ehs0, ehs1, ehs2, go_sem]) rfl ?_
  exact ratEnd_store hs_1.out (by omega) BW_1.out HQ.out HN.out HM.out (by omega) (by omega) HO.out (by omega) HU.out (by omega) HAP.out
set_option maxHeartbeats 800000 in
theorem spec_ratFromInt (n : Int) (w : World) (hn : -9223372036854775808 ≤ n ∧ n ≤ 9223372036854775807) :
    Calls Tryz.prog 103 #[.int .i64 n] w fun e w' => RatEnd (RatFromIntIs n) w w' e := by
  obtain ⟨W0, hW0⟩ : ∃ W, W = (w.alloc (.cells #[.bool false, .slice none 0 0, .slice none 0 0] 35)) := ⟨_, rfl⟩
  have hs_0 : Hid (Box W0 (w.heap.size) 35 #[.bool false, .slice none 0 0, .slice none 0 0]) := by rw [hW0]; exact (Box.at' (by simp))
  have BW_0 : Hid (Below w.heap.size w W0) := by rw [hW0]; exact ((Below.refl w.heap.size w).alloc (by simp) _)
  have hsz0 : w.heap.size + 1 ≤ W0.heap.size := by rw [hW0]; simp
  go_enter Tryz.func103, Tryz.ntmps103
  go_wp2_with fail
  rw [← hW0]
  clear hW0
  refine (spec_bigOf' n _ hn).mono ?_
  rintro e wz ⟨s, r, v, rfl, hq, ⟨hl1, ho1⟩, hb⟩
  have HQ : Hid (RatFromIntIs n s r [1]) := rfrom_mk hq hn.1 hn.2
  have hszl := BW_0.out.size
  have hszm := hb.size
  have hs_1 := Lib.hid ((hs_0.out.below hb hs_0.out.lt).alloc (.cells #[.int .i64 1] 3))
  have BW_1 := Lib.hid ((BW_0.out.trans (hb.mono BW_0.out.size)).alloc (Nat.le_trans BW_0.out.size hb.size) (.cells #[.int .i64 1] 3))
  obtain ⟨A9, c9, rfl⟩ := own_slice ho1
  obtain ⟨N9, hN9⟩ : ∃ N, N = r.length := ⟨_, rfl⟩
  rw [← hN9] at hl1 ho1 ⊢
  have HN := Lib.hid hN9.symm
  have HO := Lib.hid (ho1.alloc (.cells #[.int .i64 1] 3))
  have hlit : (wz.alloc (.cells #[.int .i64 1] 3)).ownsRow wz.heap.size 3 1 (.slice (some ⟨wz.heap.size, 0, none⟩) 1 1) 1 [.int .i64 1] := World.ownsRow_lit wz #[.int .i64 1] 1 (Nat.le_refl _) (by decide) (by rfl)
  have HU : Hid ((wz.alloc (.cells #[.int .i64 1] 3)).ownsRow wz.heap.size 3 1 (.slice (some ⟨wz.heap.size, 0, none⟩) 1 1) 1 ([1].map (.int .i64))) := hlit
  have HAP := Lib.hid (apart_older' ho1 HU.out)
  have HM : Hid (([1] : List Int).length = 1) := rfl
  clear hq ho1 hN9 hb hlit
  have ehs0 := hs_1.out.cell 0
  have ehs1 := hs_1.out.cell 1
  have ehs2 := hs_1.out.cell 2
  have fhs0 := hs_1.out.free 0
  have fhs1 := hs_1.out.free 1
  have fhs2 := hs_1.out.free 2
  simp at ehs0 ehs1 ehs2
  go_wp2_with fail
  refine bodyPost_ret (v := .agg #[.bool s, .slice A9 N9 c9, .slice (some ⟨wz.heap.size, 0, none⟩) 1 1]) (by simp [results, Tryz.results103, ehs0, ehs1, ehs2, go_sem]) rfl ?_
  exact ratEnd_store hs_1.out (by omega) BW_1.out HQ.out HN.out HM.out (by omega) (by omega) HO.out (by omega) HU.out (by omega) HAP.out
def BoolEndI (Q : Bool → Prop) (w w' : World) (e : Ending) : Prop := ∃ b, e = .returned (.bool b) ∧ Q b ∧ Below w.heap.size w w'
end Go.Proofs.YthjbfdifeffilaaGreat
namespace Go.Proofs.YthjbfdifeffilaaGreat
set_option maxRecDepth 100000
open Go.RowKit Go.Deep

section
variable {w W W' : World} {g B : Nat} {t : TypeId} {cs : Array Value}
theorem hNew (W : World) {B : Nat} (t : TypeId) (cs : Array Value) (h : B = W.heap.size) : Hid (Box (W.alloc (.cells cs t)) B t cs) := by subst h; exact Lib.hid (Box.new _ _ _)
theorem hNew1 (W : World) (o : Obj) (t : TypeId) (cs : Array Value) : Hid (Box ((W.alloc o).alloc (.cells cs t)) (W.heap.size + 1) t cs) := hNew _ _ _ (by simp)
theorem hBelow (hb : Below W.heap.size W W') (h : Hid (Box W g t cs)) : Hid (Box W' g t cs) := Lib.hid (h.out.below hb h.out.lt)
theorem hGrown {row : Option Nat} (hg : W.grownBy W' row) (hn : some g ≠ row) (h : Hid (Box W g t cs)) : Hid (Box W' g t cs) := Lib.hid (h.out.grown hg hn)
theorem box_ne {t' : TypeId} {cs' : Array Value} (h : Hid (Box W g t cs)) (k : Hid (Box W B t' cs')) (hne : t' ≠ t) : some g ≠ some B := by
  intro e
  have e : g = B := by simpa using e
  subst e
  have h1 : W.heap[g]? = some (.cells cs t (0, 0)) := h.out
  have h2 : W.heap[g]? = some (.cells cs' t' (0, 0)) := k.out
  rw [h1] at h2
  injection h2 with h2
  injection h2 with _ h2
  exact hne h2.symm
theorem bDrew (h : Hid (Below w.heap.size w W)) : Hid (Below w.heap.size w W.drew) := Lib.hid h.out.drew
theorem bAlloc (h : Hid (Below w.heap.size w W)) (o : Obj) : Hid (Below w.heap.size w (W.alloc o)) := Lib.hid (h.out.alloc h.out.size o)
theorem bBelow (hb : Below W.heap.size W W') (h : Hid (Below w.heap.size w W)) : Hid (Below w.heap.size w W') := Lib.hid (h.out.trans (hb.mono h.out.size))
theorem bGrown (hg : W.grownBy W' (some B)) (hB : w.heap.size ≤ B) (h : Hid (Below w.heap.size w W)) : Hid (Below w.heap.size w W') := by
  refine Lib.hid (h.out.grown hg h.out.size (fun k hk => ?_))
  have : B = k := by simpa using hk
  omega
variable {base n : Nat} {v : Value} {xs : List Value}
theorem oDrew (h : Hid (W.ownsRow base 3 1 v n xs)) : Hid (W.drew.ownsRow base 3 1 v n xs) := Lib.hid (own_drew h.out)
theorem oAlloc (h : Hid (W.ownsRow base 3 1 v n xs)) (o : Obj) : Hid ((W.alloc o).ownsRow base 3 1 v n xs) := Lib.hid (h.out.alloc o)
theorem oGrown (hg : W.grownBy W' (some B)) (hn : ∀ k, v.ownBlock = some k → k ≠ B) (h : Hid (W.ownsRow base 3 1 v n xs)) : Hid (W'.ownsRow base 3 1 v n xs) := Lib.hid (h.out.kept hg (by
  cases hv : v.ownBlock with
  | none => exact .inl rfl
  | some k => exact .inr (by have := hn k hv; simpa using this)))
end
theorem own_of_box {w : World} {B : Nat} {e : TypeId} (h : Hid (Box w B e #[])) : w.ownsRow B e 1 (.slice (some ⟨B, 0, none⟩) 0 0) 0 [] := by
  refine ⟨rfl, .inr ⟨B, 0, #[], rfl, Nat.le_refl _, h.out, Nat.le_refl _, by decide, rfl, rfl⟩⟩
/-- Two rows whose blocks are told lie apart. -/
theorem apart_told {u v : Value} {lo hi B H : Nat} (hv : ∀ k, v.ownBlock = some k → lo ≤ k ∧ k < hi) (hu : ∀ k, u.ownBlock = some k → k = B ∨ k = H) (h1 : B < lo ∨ hi ≤ B) (h2 : H < lo ∨ hi ≤ H) : Apart u v := by
  intro k hk hk'
  have a := hv k hk'
  have b := hu k hk
  omega
theorem step_append_lit {P : Program} {w : World} {ops : Array Oper} {o : Oper} {a : Act} {K : Act → World → Prop} {Q : Exit → Act → World → Prop} {E : Prop} (hgd : o.guard = none) (s x : Operand) (t : TypeId)
    (ho : o.op = .call { callee := .builtin .append, args := #[s, x], argTypes := #[t, t] })
    (e : TypeId) (i : TypeInfo) (z : Value) (bytes : Nat) (ht : P.underlying t = some (.slice e)) (hi : P.info? e = some i) (hz : i.zero = some z)
    (hsize : i.size = 1) (hby : i.bytes = bytes) (hzs : z.cells.size = 1)
    (B : Nat) (hs : a.eval s = .slice (some ⟨B, 0, none⟩) 0 0) (A : Option Addr) (m c : Nat) (news : List Value) (hx : a.eval x = .slice A m c) (hB : Hid (Box w B e #[])) (hr : Reads w A news) (hl : news.length = m) (h1 : ∀ u ∈ news, u.oneCell' = true)
    (h63 : m ≤ maxLen) (hbytes : m * bytes ≤ 140737488355328)
    (h : ∀ v' w', w'.ownsRow B e 1 v' m news → w.grownBy w' (some B) → (∀ k, v'.ownBlock = some k → k = B ∨ k = w.heap.size) → (∀ k, v'.ownBlock = some k → k < w'.heap.size) → Hid (Box w B e #[]) → B < w.heap.size → w.heap.size ≤ w'.heap.size → K (a.put o.dst v') w') :
    if Region.wanted o (yielded ops a.tmps) = true then Oper.wp P o a w K Q else E := by
  have hw : Region.wanted o (yielded ops a.tmps) = true := by simp [Region.wanted, hgd]
  rw [if_pos hw]
  have hown := own_of_box hB
  have hlt := hB.out.lt
  have hob : (Value.slice (some ⟨B, 0, none⟩) 0 0).ownBlock = some B := by simp [Value.ownBlock]
  cases A with
  | some ad =>
    obtain ⟨v', w', hrun, h2, h3, _, h5⟩ := run_append_own_at (P := P) w B t o.type e i z 1 bytes ht hi hz hsize hby hzs (by decide) _ 0 [] hown ad m c news (by omega) (fun j u hu => by
      rcases hr with rfl | ⟨b, o, he, _, hc⟩
      · simp at hu
      · cases he
        obtain ⟨hj, rfl⟩ := List.getElem?_eq_some_iff.1 hu
        have := hc j hj
        simpa [Addr.add_lit] using this) h1 (by omega) (by rw [Nat.zero_add]; exact hbytes) (by omega)
    rw [hob] at h3 h5
    unfold Oper.wp execOp
    simp only [ho, resolve, invoke, builtin, Sem.run_bind, Sem.run_pure, Result.andThen_ok, List.map_toArray, List.map_cons, List.map_nil, hs, hx, hrun]
    have h2' : w'.ownsRow B e 1 v' m news := by simpa using h2
    refine h v' w' h2' h3 (fun k hk => ?_) (fun k hk => (h2'.lt k hk).2) hB hlt h3.size
    rcases h5 with h5 | h5 <;> rw [h5] at hk <;> simp at hk <;> omega
  | none =>
    have hn : news = [] := by
      rcases hr with rfl | ⟨b, o, he, _⟩
      · rfl
      · cases he
    subst hn
    obtain rfl : m = 0 := by simpa using hl.symm
    have hrun := run_append_none (P := P) w B t o.type e i ht hi _ 0 [] (by rw [hsize]; exact hown) c
    unfold Oper.wp execOp
    simp only [ho, resolve, invoke, builtin, Sem.run_bind, Sem.run_pure, Result.andThen_ok, List.map_toArray, List.map_cons, List.map_nil, hs, hx, hrun]
    refine h _ w hown (World.grownBy.refl _ _) (fun k hk => ?_) (fun k hk => ?_) hB hlt (Nat.le_refl _)
    · rw [hob] at hk; simp at hk; omega
    · rw [hob] at hk; simp at hk; omega
theorem drew_size (W : World) : W.drew.heap.size = W.heap.size := rfl
theorem own_told {w : World} {base : Nat} {E : TypeId} {size n : Nat} {v : Value} {xs : List Value} (h : w.ownsRow base E size v n xs) : ∃ lo, lo = base ∧ ∀ k, v.ownBlock = some k → lo ≤ k ∧ k < w.heap.size := ⟨base, rfl, fun k hk => h.lt k hk⟩
theorem blk_told {p : Nat → Prop} {B S : Nat} (h : ∀ k, p k → k = B ∨ k = S) : ∃ H, H = S ∧ ∀ k, p k → k = B ∨ k = H := ⟨S, rfl, h⟩
theorem neg_fin {g s : Bool} {xs es r : List Int} (k : ROk g xs es) (q : BigIntNegIs g xs s r) : RatNegIs g xs es s r es := by
  obtain ⟨h1, h2⟩ := neg_ok k.1 q
  have h3 : bval (sgn (!g) xs) xs = - bval g xs := by
    rw [sgn_bval _ k.1.1.1]; cases g <;> simp [bval]
  obtain ⟨rfl, rfl⟩ := bok_unique h1 (sgn_bok (!g) k.1.1) (h2.trans h3.symm)
  exact rneg_mk k
theorem neg_ok2 {g h : Bool} {l d r e : List Int} (k : ROk g l d) (q : RatNegIs g l d h r e) : r = l ∧ e = d ∧ ROk h l d ∧ bval h l = - bval g l := by
  obtain ⟨rfl, rfl, rfl⟩ := ratNeg_unique (rneg_mk k) q
  refine ⟨rfl, rfl, ⟨sgn_bok _ k.1.1, k.2⟩, ?_⟩
  rw [sgn_bval _ k.1.1.1]; cases g <;> simp [bval]
end Go.Proofs.YthjbfdifeffilaaGreat
namespace Go.Proofs.YthjbfdifeffilaaGreat
set_option maxRecDepth 100000
open Go.RowKit Go.Deep

set_option maxHeartbeats 3200000 in
theorem impl_ratNeg0 (g1 : Bool) (A1 : Option Addr) (n1 c1 : Nat) (xs : List Int) (B1 : Option Addr) (m1 d1 : Nat) (es : List Int) (w : World) (h1 : InI w A1 n1 xs) (r1 : Room A1 n1 c1) (k1 : InI w B1 m1 es) (s1 : Room B1 m1 d1) :
    Calls Tryz.prog 158 #[.agg #[.bool g1, .slice A1 n1 c1, .slice B1 m1 d1]] w fun e w' => RatEnd (RatNegIs g1 xs es) w w' e := by
  have hn1 := h1.2.1
  have hm1 := k1.2.1
  obtain ⟨W0, hW0⟩ : ∃ W, W = ((w.alloc (.cells #[.bool g1, .slice A1 n1 c1, .slice B1 m1 d1] 35)).alloc (.cells #[.bool false, .slice none 0 0, .slice none 0 0] 35)) := ⟨_, rfl⟩
  have hy0_0 : Hid (Box W0 (w.heap.size) 35 #[.bool g1, .slice A1 n1 c1, .slice B1 m1 d1]) := by rw [hW0]; exact ((Box.at' (by simp)).alloc _)
  have hs_0 : Hid (Box W0 (w.heap.size + 1) 35 #[.bool false, .slice none 0 0, .slice none 0 0]) := by rw [hW0]; exact (Box.at' (by simp))
  have BW_0 : Hid (Below w.heap.size w W0) := by rw [hW0]; exact (((Below.refl w.heap.size w).alloc (by simp) _).alloc (by simp) _)
  have hsz0 : w.heap.size + 1 + 1 ≤ W0.heap.size := by rw [hW0]; simp
  have HI1 := Lib.hid (h1.below BW_0.out)
  have HJ1 := Lib.hid (k1.below BW_0.out)
  have R1 := Lib.hid r1
  have S1 := Lib.hid s1
  clear h1 k1 r1 s1
  go_enter Tryz.func158, Tryz.ntmps158
  go_wp2_with fail
  rw [← hW0]
  clear hW0
  refine (impl_ratOk' g1 A1 n1 c1 xs B1 m1 d1 es _ HI1.out HJ1.out).mono ?_
  rintro e wa ⟨⟨b, rfl, hi⟩, hb⟩
  have hy0_1 := Lib.hid (hy0_0.out.below hb hy0_0.out.lt)
  have hs_1 := Lib.hid (hs_0.out.below hb hs_0.out.lt)
  have BW_1 := Lib.hid (BW_0.out.trans (hb.mono BW_0.out.size))
  replace HI1 := Lib.hid (HI1.out.below hb)
  replace HJ1 := Lib.hid (HJ1.out.below hb)
  clear hb
  have ehy00 := hy0_1.out.cell 0
  have ehy01 := hy0_1.out.cell 1
  have ehy02 := hy0_1.out.cell 2
  have ehs0 := hs_1.out.cell 0
  have ehs1 := hs_1.out.cell 1
  have ehs2 := hs_1.out.cell 2
  have fhs0 := hs_1.out.free 0
  have fhs1 := hs_1.out.free 1
  have fhs2 := hs_1.out.free 2
  simp at ehy00 ehy01 ehy02 ehs0 ehs1 ehs2
  cases b
  · have hno : ¬ ROk g1 xs es := fun h => by have := hi.2 h; cases this
    clear hi
    have HZ : Hid (RatNegIs g1 xs es false [] []) := rIs_no hno
    go_wp2_with fail
    refine bodyPost_ret (v := .agg #[.bool false, .slice none 0 0, .slice none 0 0]) (by simp [results, Tryz.results158, ehs0, ehs1, ehs2, go_sem]) rfl ?_
    exact ratEnd_zero HZ.out (below_store3 BW_1.out (by omega) _ _ _)
  have K1 := Lib.hid (hi.1 rfl)
  clear hi
  have hn1 : n1 ≤ 24 := by have := K1.out.2.2.2.2.1; rwa [HI1.out.1] at this
  have hm1 : m1 ≤ 24 := by have := K1.out.2.2.2.2.2; rwa [HJ1.out.1] at this
  go_wp2_with fail
  clear ehy00 ehy01 ehy02 ehs0 fhs0 ehs1 fhs1 ehs2 fhs2
  have hy0_2 := Lib.hid hy0_1.out.drew
  have hs_2 := Lib.hid hs_1.out.drew
  have BW_2 := Lib.hid BW_1.out.drew
  replace HI1 := Lib.hid HI1.out.drew
  replace HJ1 := Lib.hid HJ1.out.drew
  have cvhy00 : Hid ((#[.bool g1, .slice A1 n1 c1, .slice B1 m1 d1] : Array Value)[0]? = some (.bool g1)) := rfl
  have cvhy01 : Hid ((#[.bool g1, .slice A1 n1 c1, .slice B1 m1 d1] : Array Value)[1]? = some (.slice A1 n1 c1)) := rfl
  have cvhy02 : Hid ((#[.bool g1, .slice A1 n1 c1, .slice B1 m1 d1] : Array Value)[2]? = some (.slice B1 m1 d1)) := rfl
  go_region_held3 (fun w' => w'.cell? ⟨w.heap.size, 0, none⟩ = some (.bool g1) ∧ w'.cell? ⟨w.heap.size, 1, none⟩ = some (.slice A1 n1 c1) ∧ w'.cell? ⟨w.heap.size, 2, none⟩ = some (.slice B1 m1 d1)) (first | with_reducible exact ⟨cellS hy0_4 cvhy00, cellS hy0_4 cvhy01, cellS hy0_4 cvhy02⟩ | with_reducible exact ⟨cellS (hFar (hFar (hFar hy0_4 (by dsimp only; omega) _) (by dsimp only; omega) _) (by dsimp only; omega) _) cvhy00, cellS (hFar (hFar (hFar hy0_4 (by dsimp only; omega) _) (by dsimp only; omega) _) (by dsimp only; omega) _) cvhy01, cellS (hFar (hFar (hFar hy0_4 (by dsimp only; omega) _) (by dsimp only; omega) _) (by dsimp only; omega) _) cvhy02⟩ | with_reducible exact ⟨cellS hy0_3 cvhy00, cellS hy0_3 cvhy01, cellS hy0_3 cvhy02⟩ | with_reducible exact ⟨cellS hy0_2 cvhy00, cellS hy0_2 cvhy01, cellS hy0_2 cvhy02⟩) (first | (go_at_call 129; (with_reducible refine (clone_any B1 m1 d1 es _ HJ1.out.len HJ1.out.le HJ1.out.rd).mono ?_); rintro e w4 ⟨u, rfl, ho, hb⟩; have HAP0 := apart_older' HO.out ho; have hz4 := BW_3.out.size; have hy0_4 := Lib.hid (hy0_3.out.below hb hy0_3.out.lt); have hs_4 := Lib.hid (hs_3.out.below hb hs_3.out.lt); have BW_4 := Lib.hid (BW_3.out.trans (hb.mono BW_3.out.size)); replace HO := Lib.hid (own_below HO.out hb); clear hb; obtain ⟨B9, d9, rfl⟩ := own_slice ho; obtain ⟨M9, hM⟩ : ∃ N, N = es.length := ⟨_, rfl⟩; rw [← hM] at ho HAP0 ⊢; have HAP := Lib.hid HAP0; have HM := Lib.hid hM.symm; have HU := Lib.hid ho; have hm9 : M9 ≤ 24 := (by have := K1.out.2.2.2.2.2; rwa [← hM] at this); clear ho hM HAP0; have ehs0 := hs_4.out.cell 0; have ehs1 := hs_4.out.cell 1; have ehs2 := hs_4.out.cell 2; have fhs0 := hs_4.out.free 0; have fhs1 := hs_4.out.free 1; have fhs2 := hs_4.out.free 2; simp at ehs0 ehs1 ehs2) | (go_at_call 192; refine (impl_bigNeg' g1 A1 n1 c1 xs _ HI1.out).mono ?_; rintro e w3 ⟨s, r, v, rfl, hq, ⟨hl1, ho⟩, hb⟩; have HQ := Lib.hid (neg_fin K1.out hq); have hz3 := BW_2.out.size; have hy0_3 := Lib.hid (hy0_2.out.below hb hy0_2.out.lt); have hs_3 := Lib.hid (hs_2.out.below hb hs_2.out.lt); have BW_3 := Lib.hid (BW_2.out.trans (hb.mono BW_2.out.size)); replace HI1 := Lib.hid (HI1.out.below hb); replace HJ1 := Lib.hid (HJ1.out.below hb); clear hb; obtain ⟨A9, c9, rfl⟩ := own_slice ho; obtain ⟨N9, hN9⟩ : ∃ N, N = r.length := ⟨_, rfl⟩; rw [← hN9] at hl1 ho ⊢; have HN0 := Lib.hid hN9; have HO := Lib.hid ho; clear ho hN9; have HN := Lib.hid HN0.out.symm; clear hq))
  go_wp2_with fail
  refine bodyPost_ret (v := .agg #[.bool s, .slice A9 N9 c9, .slice B9 M9 d9]) (by simp [results, Tryz.results158, ehs0, ehs1, ehs2, go_sem]) rfl ?_
  exact ratEnd_store hs_4.out (by omega) BW_4.out HQ.out HN.out HM.out (by omega) (by omega) HO.out (by omega) HU.out (by omega) HAP.out
theorem impl_ratNeg (g1 : Bool) (A1 : Option Addr) (n1 c1 : Nat) (xs : List Int) (B1 : Option Addr) (m1 d1 : Nat) (es : List Int) (w : World) (h1 : InI w A1 n1 xs) (r1 : Room A1 n1 c1) (k1 : InI w B1 m1 es) (s1 : Room B1 m1 d1) :
    Calls Tryz.prog 158 #[.agg #[.bool g1, .slice A1 n1 c1, .slice B1 m1 d1]] w fun e w' => ∃ g r v d u, e = .returned (.agg #[.bool g, v, u]) ∧ RatNegIs g1 xs es g r d ∧ ResI w w' v r ∧ ResI w w' u d ∧ Apart u v ∧ Below w.heap.size w w' :=
  (impl_ratNeg0 g1 A1 n1 c1 xs B1 m1 d1 es w h1 r1 k1 s1).mono fun _ _ h => h
theorem grat_zero_bad {g : Bool} {l : List Int} : ¬ ROk g l [] := fun h => by have h1 := h.2.2.1; simp [val] at h1
theorem rneg_mkG {g : Bool} {l d : List Int} (h : GRat g l d) : RatNegIs g l d (sgn (!g) l) l d := by
  rcases h with h | ⟨rfl, rfl, rfl⟩
  · exact rneg_mk h
  · exact rIs_no grat_zero_bad
theorem neg_okG {g h : Bool} {l d r e : List Int} (k : GRat g l d) (q : RatNegIs g l d h r e) : r = l ∧ e = d ∧ GRat h l d ∧ bval h l = - bval g l := by
  rcases k with k | ⟨rfl, rfl, rfl⟩
  · obtain ⟨a, b, c, e⟩ := neg_ok2 k q
    exact ⟨a, b, .inl c, e⟩
  · obtain ⟨rfl, rfl, rfl⟩ := ratNeg_unique (rIs_no grat_zero_bad) q
    exact ⟨rfl, rfl, .inr ⟨rfl, rfl, rfl⟩, by simp [bval, val]⟩
theorem sub_of_addG {g1 g2 : Bool} {l1 d1 l2 d2 : List Int} {g h : Bool} {l d r : List Int} (k2 : GRat g2 l2 d2) (q : RatAddIs g1 l1 d1 h r d2 g l d) (k : GRat h r d2) (e : bval h r = - bval g2 l2) : RatSubIs g1 l1 d1 g2 l2 d2 g l d := by
  rcases k2 with k2 | ⟨rfl, rfl, rfl⟩
  · rcases k with k | ⟨_, _, rfl⟩
    · exact sub_of_add k2 q k e
    · exact absurd k2 grat_zero_bad
  · rcases q with ⟨⟨_, k⟩, _⟩ | ⟨_, rfl, rfl, rfl⟩
    · exact absurd k grat_zero_bad
    · exact rIs_no fun k => grat_zero_bad k.2
set_option maxHeartbeats 3200000 in
theorem spec_l04NegG (g1 : Bool) (A1 : Option Addr) (n1 c1 : Nat) (xs : List Int) (B1 : Option Addr) (m1 d1 : Nat) (es : List Int) (w : World) (h1 : InI w A1 n1 xs) (r1 : Room A1 n1 c1) (k1 : InI w B1 m1 es) (s1 : Room B1 m1 d1) (q1 : GRat g1 xs es) :
    Calls Tryz.prog 104 #[.agg #[.bool g1, .slice A1 n1 c1, .slice B1 m1 d1]] w fun e w' => RatEnd (RatNegIs g1 xs es) w w' e := by
  obtain ⟨i0, hi, hz0, hz1, hz2⟩ := info_parts Tryz.infoI
  have hn1 := h1.2.1
  have hm1 := k1.2.1
  obtain ⟨W0, hW0⟩ : ∃ W, W = ((w.alloc (.cells #[.bool g1, .slice A1 n1 c1, .slice B1 m1 d1] 35)).alloc (.cells #[.bool false, .slice none 0 0, .slice none 0 0] 35)) := ⟨_, rfl⟩
  have hy0_0 : Hid (Box W0 (w.heap.size) 35 #[.bool g1, .slice A1 n1 c1, .slice B1 m1 d1]) := by rw [hW0]; exact ((Box.at' (by simp)).alloc _)
  have hs_0 : Hid (Box W0 (w.heap.size + 1) 35 #[.bool false, .slice none 0 0, .slice none 0 0]) := by rw [hW0]; exact (Box.at' (by simp))
  have BW_0 : Hid (Below w.heap.size w W0) := by rw [hW0]; exact (((Below.refl w.heap.size w).alloc (by simp) _).alloc (by simp) _)
  have hsz0 : w.heap.size + 1 + 1 ≤ W0.heap.size := by rw [hW0]; simp
  have HI1 := Lib.hid (h1.below BW_0.out)
  have HJ1 := Lib.hid (k1.below BW_0.out)
  have R1 := Lib.hid r1
  have S1 := Lib.hid s1
  have HH1 := Lib.hid h1
  have HK1 := Lib.hid k1
  clear h1 k1 r1 s1
  go_enter Tryz.func104, Tryz.ntmps104
  go_wp2_with fail
  rw [← hW0]
  clear hW0
  have K1 := Lib.hid q1
  clear q1
  have hn1 : n1 ≤ 24 := by have := K1.out.short.1; rwa [HI1.out.1] at this
  have hm1 : m1 ≤ 24 := by have := K1.out.short.2; rwa [HJ1.out.1] at this
  have HQ := Lib.hid (rneg_mkG K1.out)
  obtain ⟨s, hs0⟩ : ∃ s, s = sgn (!g1) xs := ⟨_, rfl⟩
  rw [← hs0] at HQ
  have HS0 := Lib.hid hs0
  clear hs0
  have cvhy00 : Hid ((#[.bool g1, .slice A1 n1 c1, .slice B1 m1 d1] : Array Value)[0]? = some (.bool g1)) := rfl
  have cvhy01 : Hid ((#[.bool g1, .slice A1 n1 c1, .slice B1 m1 d1] : Array Value)[1]? = some (.slice A1 n1 c1)) := rfl
  have cvhy02 : Hid ((#[.bool g1, .slice A1 n1 c1, .slice B1 m1 d1] : Array Value)[2]? = some (.slice B1 m1 d1)) := rfl
  go_region_held3 (fun w' => w'.cell? ⟨w.heap.size, 0, none⟩ = some (.bool g1) ∧ w'.cell? ⟨w.heap.size, 1, none⟩ = some (.slice A1 n1 c1) ∧ w'.cell? ⟨w.heap.size, 2, none⟩ = some (.slice B1 m1 d1)) (first | with_reducible exact ⟨cellS (t := 35) (by (first | (first | assumption | (with_reducible refine hDrew ?_; (first | assumption | (with_reducible refine hDrew ?_; (first | assumption | (with_reducible refine hDrew ?_; (first | assumption)) | (with_reducible refine hAlloc ?_ _; (first | assumption)))) | (with_reducible refine hAlloc ?_ _; (first | assumption | (with_reducible refine hDrew ?_; (first | assumption)) | (with_reducible refine hAlloc ?_ _; (first | assumption)))))) | (with_reducible refine hAlloc ?_ _; (first | assumption | (with_reducible refine hDrew ?_; (first | assumption | (with_reducible refine hDrew ?_; (first | assumption)) | (with_reducible refine hAlloc ?_ _; (first | assumption)))) | (with_reducible refine hAlloc ?_ _; (first | assumption | (with_reducible refine hDrew ?_; (first | assumption)) | (with_reducible refine hAlloc ?_ _; (first | assumption))))))) | (with_reducible refine hFar (hFar (hFar ?_ (by dsimp only; omega) _) (by dsimp only; omega) _) (by dsimp only; omega) _; (first | assumption | (with_reducible refine hDrew ?_; (first | assumption)) | (with_reducible refine hAlloc ?_ _; (first | assumption)))))) cvhy00, cellS (t := 35) (by (first | (first | assumption | (with_reducible refine hDrew ?_; (first | assumption | (with_reducible refine hDrew ?_; (first | assumption | (with_reducible refine hDrew ?_; (first | assumption)) | (with_reducible refine hAlloc ?_ _; (first | assumption)))) | (with_reducible refine hAlloc ?_ _; (first | assumption | (with_reducible refine hDrew ?_; (first | assumption)) | (with_reducible refine hAlloc ?_ _; (first | assumption)))))) | (with_reducible refine hAlloc ?_ _; (first | assumption | (with_reducible refine hDrew ?_; (first | assumption | (with_reducible refine hDrew ?_; (first | assumption)) | (with_reducible refine hAlloc ?_ _; (first | assumption)))) | (with_reducible refine hAlloc ?_ _; (first | assumption | (with_reducible refine hDrew ?_; (first | assumption)) | (with_reducible refine hAlloc ?_ _; (first | assumption))))))) | (with_reducible refine hFar (hFar (hFar ?_ (by dsimp only; omega) _) (by dsimp only; omega) _) (by dsimp only; omega) _; (first | assumption | (with_reducible refine hDrew ?_; (first | assumption)) | (with_reducible refine hAlloc ?_ _; (first | assumption)))))) cvhy01, cellS (t := 35) (by (first | (first | assumption | (with_reducible refine hDrew ?_; (first | assumption | (with_reducible refine hDrew ?_; (first | assumption | (with_reducible refine hDrew ?_; (first | assumption)) | (with_reducible refine hAlloc ?_ _; (first | assumption)))) | (with_reducible refine hAlloc ?_ _; (first | assumption | (with_reducible refine hDrew ?_; (first | assumption)) | (with_reducible refine hAlloc ?_ _; (first | assumption)))))) | (with_reducible refine hAlloc ?_ _; (first | assumption | (with_reducible refine hDrew ?_; (first | assumption | (with_reducible refine hDrew ?_; (first | assumption)) | (with_reducible refine hAlloc ?_ _; (first | assumption)))) | (with_reducible refine hAlloc ?_ _; (first | assumption | (with_reducible refine hDrew ?_; (first | assumption)) | (with_reducible refine hAlloc ?_ _; (first | assumption))))))) | (with_reducible refine hFar (hFar (hFar ?_ (by dsimp only; omega) _) (by dsimp only; omega) _) (by dsimp only; omega) _; (first | assumption | (with_reducible refine hDrew ?_; (first | assumption)) | (with_reducible refine hAlloc ?_ _; (first | assumption)))))) cvhy02⟩) (first | (go_at_call 116; (with_reducible refine (spec_make (!g1) A1 n1 c1 xs _ HH1.out.len (by omega) R1.out ((HH1.out.below (Hid.out (by (first | assumption | (with_reducible refine bDrew ?_; (first | assumption | (with_reducible refine bDrew ?_; (first | assumption | (with_reducible refine bDrew ?_; (first | assumption)) | (with_reducible refine bAlloc ?_ _; (first | assumption)))) | (with_reducible refine bAlloc ?_ _; (first | assumption | (with_reducible refine bDrew ?_; (first | assumption)) | (with_reducible refine bAlloc ?_ _; (first | assumption)))))) | (with_reducible refine bAlloc ?_ _; (first | assumption | (with_reducible refine bDrew ?_; (first | assumption | (with_reducible refine bDrew ?_; (first | assumption)) | (with_reducible refine bAlloc ?_ _; (first | assumption)))) | (with_reducible refine bAlloc ?_ _; (first | assumption | (with_reducible refine bDrew ?_; (first | assumption)) | (with_reducible refine bAlloc ?_ _; (first | assumption)))))))))).rd) K1.out.nr).mono ?_); rintro e wm ⟨r, v, rfl, hm, ⟨hl, ho⟩, hb⟩; have er : xs = r := made_same K1.out.bok.1 hm; subst er; have hzm := hb.size; (try simp only [drew_size] at hzm); (try simp at hzm); (try (have hL := hBelow (g := W0.heap.size) (t := 3) (cs := #[]) hb (by (first | assumption | with_reducible exact hNew _ _ _ rfl | with_reducible exact hNew1 _ _ _ _ | (with_reducible refine hDrew ?_; (first | assumption | with_reducible exact hNew _ _ _ rfl | with_reducible exact hNew1 _ _ _ _ | (with_reducible refine hDrew ?_; (first | assumption | with_reducible exact hNew _ _ _ rfl | with_reducible exact hNew1 _ _ _ _ | (with_reducible refine hDrew ?_; (first | assumption | with_reducible exact hNew _ _ _ rfl | with_reducible exact hNew1 _ _ _ _)) | (with_reducible refine hAlloc ?_ _; (first | assumption | with_reducible exact hNew _ _ _ rfl | with_reducible exact hNew1 _ _ _ _)))) | (with_reducible refine hAlloc ?_ _; (first | assumption | with_reducible exact hNew _ _ _ rfl | with_reducible exact hNew1 _ _ _ _ | (with_reducible refine hDrew ?_; (first | assumption | with_reducible exact hNew _ _ _ rfl | with_reducible exact hNew1 _ _ _ _)) | (with_reducible refine hAlloc ?_ _; (first | assumption | with_reducible exact hNew _ _ _ rfl | with_reducible exact hNew1 _ _ _ _)))))) | (with_reducible refine hAlloc ?_ _; (first | assumption | with_reducible exact hNew _ _ _ rfl | with_reducible exact hNew1 _ _ _ _ | (with_reducible refine hDrew ?_; (first | assumption | with_reducible exact hNew _ _ _ rfl | with_reducible exact hNew1 _ _ _ _ | (with_reducible refine hDrew ?_; (first | assumption | with_reducible exact hNew _ _ _ rfl | with_reducible exact hNew1 _ _ _ _)) | (with_reducible refine hAlloc ?_ _; (first | assumption | with_reducible exact hNew _ _ _ rfl | with_reducible exact hNew1 _ _ _ _)))) | (with_reducible refine hAlloc ?_ _; (first | assumption | with_reducible exact hNew _ _ _ rfl | with_reducible exact hNew1 _ _ _ _ | (with_reducible refine hDrew ?_; (first | assumption | with_reducible exact hNew _ _ _ rfl | with_reducible exact hNew1 _ _ _ _)) | (with_reducible refine hAlloc ?_ _; (first | assumption | with_reducible exact hNew _ _ _ rfl | with_reducible exact hNew1 _ _ _ _)))))))))); have hy0x := hBelow (g := w.heap.size) (t := 35) (cs := #[.bool g1, .slice A1 n1 c1, .slice B1 m1 d1]) hb (by (first | (first | assumption | (with_reducible refine hDrew ?_; (first | assumption | (with_reducible refine hDrew ?_; (first | assumption | (with_reducible refine hDrew ?_; (first | assumption)) | (with_reducible refine hAlloc ?_ _; (first | assumption)))) | (with_reducible refine hAlloc ?_ _; (first | assumption | (with_reducible refine hDrew ?_; (first | assumption)) | (with_reducible refine hAlloc ?_ _; (first | assumption)))))) | (with_reducible refine hAlloc ?_ _; (first | assumption | (with_reducible refine hDrew ?_; (first | assumption | (with_reducible refine hDrew ?_; (first | assumption)) | (with_reducible refine hAlloc ?_ _; (first | assumption)))) | (with_reducible refine hAlloc ?_ _; (first | assumption | (with_reducible refine hDrew ?_; (first | assumption)) | (with_reducible refine hAlloc ?_ _; (first | assumption))))))) | (with_reducible refine hFar (hFar (hFar ?_ (by dsimp only; omega) _) (by dsimp only; omega) _) (by dsimp only; omega) _; (first | assumption | (with_reducible refine hDrew ?_; (first | assumption)) | (with_reducible refine hAlloc ?_ _; (first | assumption)))))); have hsx := hBelow (g := w.heap.size + 1) (t := 35) (cs := #[.bool false, .slice none 0 0, .slice none 0 0]) hb (by (first | (first | assumption | (with_reducible refine hDrew ?_; (first | assumption | (with_reducible refine hDrew ?_; (first | assumption | (with_reducible refine hDrew ?_; (first | assumption)) | (with_reducible refine hAlloc ?_ _; (first | assumption)))) | (with_reducible refine hAlloc ?_ _; (first | assumption | (with_reducible refine hDrew ?_; (first | assumption)) | (with_reducible refine hAlloc ?_ _; (first | assumption)))))) | (with_reducible refine hAlloc ?_ _; (first | assumption | (with_reducible refine hDrew ?_; (first | assumption | (with_reducible refine hDrew ?_; (first | assumption)) | (with_reducible refine hAlloc ?_ _; (first | assumption)))) | (with_reducible refine hAlloc ?_ _; (first | assumption | (with_reducible refine hDrew ?_; (first | assumption)) | (with_reducible refine hAlloc ?_ _; (first | assumption))))))) | (with_reducible refine hFar (hFar (hFar ?_ (by dsimp only; omega) _) (by dsimp only; omega) _) (by dsimp only; omega) _; (first | assumption | (with_reducible refine hDrew ?_; (first | assumption)) | (with_reducible refine hAlloc ?_ _; (first | assumption)))))); have BWx : Hid (Below w.heap.size w _) := bBelow hb (by (first | assumption | (with_reducible refine bDrew ?_; (first | assumption | (with_reducible refine bDrew ?_; (first | assumption | (with_reducible refine bDrew ?_; (first | assumption)) | (with_reducible refine bAlloc ?_ _; (first | assumption)))) | (with_reducible refine bAlloc ?_ _; (first | assumption | (with_reducible refine bDrew ?_; (first | assumption)) | (with_reducible refine bAlloc ?_ _; (first | assumption)))))) | (with_reducible refine bAlloc ?_ _; (first | assumption | (with_reducible refine bDrew ?_; (first | assumption | (with_reducible refine bDrew ?_; (first | assumption)) | (with_reducible refine bAlloc ?_ _; (first | assumption)))) | (with_reducible refine bAlloc ?_ _; (first | assumption | (with_reducible refine bDrew ?_; (first | assumption)) | (with_reducible refine bAlloc ?_ _; (first | assumption)))))))); have ehs0 := hsx.out.cell 0; have ehs1 := hsx.out.cell 1; have ehs2 := hsx.out.cell 2; have fhs0 := hsx.out.free 0; have fhs1 := hsx.out.free 1; have fhs2 := hsx.out.free 2; simp at ehs0 ehs1 ehs2; obtain ⟨lo, hlo, hiv⟩ := own_told ho; (try simp only [drew_size] at hlo); (try simp at hlo); obtain ⟨A9, c9, rfl⟩ := own_slice ho; obtain ⟨N9, hN⟩ : ∃ N, N = xs.length := ⟨_, rfl⟩; rw [← hN] at ho hl hiv ⊢; have UO := Lib.hid hiv; rw [← HS0.out]; have HN := Lib.hid hN.symm; have HO := Lib.hid ho; clear hm ho hb hN hiv) | (refine step_append_lit rfl _ _ 31 rfl 3 i0 (.int .i64 0) 8 Tryz.underlying31 hi hz0 hz1 hz2 rfl _ rfl B1 m1 d1 (es.map (.int .i64)) rfl (by (first | assumption | with_reducible exact hNew _ _ _ rfl | with_reducible exact hNew1 _ _ _ _ | (with_reducible refine hDrew ?_; (first | assumption | with_reducible exact hNew _ _ _ rfl | with_reducible exact hNew1 _ _ _ _ | (with_reducible refine hDrew ?_; (first | assumption | with_reducible exact hNew _ _ _ rfl | with_reducible exact hNew1 _ _ _ _ | (with_reducible refine hDrew ?_; (first | assumption | with_reducible exact hNew _ _ _ rfl | with_reducible exact hNew1 _ _ _ _)) | (with_reducible refine hAlloc ?_ _; (first | assumption | with_reducible exact hNew _ _ _ rfl | with_reducible exact hNew1 _ _ _ _)))) | (with_reducible refine hAlloc ?_ _; (first | assumption | with_reducible exact hNew _ _ _ rfl | with_reducible exact hNew1 _ _ _ _ | (with_reducible refine hDrew ?_; (first | assumption | with_reducible exact hNew _ _ _ rfl | with_reducible exact hNew1 _ _ _ _)) | (with_reducible refine hAlloc ?_ _; (first | assumption | with_reducible exact hNew _ _ _ rfl | with_reducible exact hNew1 _ _ _ _)))))) | (with_reducible refine hAlloc ?_ _; (first | assumption | with_reducible exact hNew _ _ _ rfl | with_reducible exact hNew1 _ _ _ _ | (with_reducible refine hDrew ?_; (first | assumption | with_reducible exact hNew _ _ _ rfl | with_reducible exact hNew1 _ _ _ _ | (with_reducible refine hDrew ?_; (first | assumption | with_reducible exact hNew _ _ _ rfl | with_reducible exact hNew1 _ _ _ _)) | (with_reducible refine hAlloc ?_ _; (first | assumption | with_reducible exact hNew _ _ _ rfl | with_reducible exact hNew1 _ _ _ _)))) | (with_reducible refine hAlloc ?_ _; (first | assumption | with_reducible exact hNew _ _ _ rfl | with_reducible exact hNew1 _ _ _ _ | (with_reducible refine hDrew ?_; (first | assumption | with_reducible exact hNew _ _ _ rfl | with_reducible exact hNew1 _ _ _ _)) | (with_reducible refine hAlloc ?_ _; (first | assumption | with_reducible exact hNew _ _ _ rfl | with_reducible exact hNew1 _ _ _ _)))))))) ((HK1.out.below (Hid.out (by (first | assumption | (with_reducible refine bDrew ?_; (first | assumption | (with_reducible refine bDrew ?_; (first | assumption | (with_reducible refine bDrew ?_; (first | assumption)) | (with_reducible refine bAlloc ?_ _; (first | assumption)))) | (with_reducible refine bAlloc ?_ _; (first | assumption | (with_reducible refine bDrew ?_; (first | assumption)) | (with_reducible refine bAlloc ?_ _; (first | assumption)))))) | (with_reducible refine bAlloc ?_ _; (first | assumption | (with_reducible refine bDrew ?_; (first | assumption | (with_reducible refine bDrew ?_; (first | assumption)) | (with_reducible refine bAlloc ?_ _; (first | assumption)))) | (with_reducible refine bAlloc ?_ _; (first | assumption | (with_reducible refine bDrew ?_; (first | assumption)) | (with_reducible refine bAlloc ?_ _; (first | assumption)))))))))).rd) (by rw [List.length_map]; exact HK1.out.len) (by simp [Value.oneCell']) (by unfold maxLen; omega) (by omega) ?_; intro ue wne hown hg hblk hblt hB hBlt hsz; obtain ⟨He, hHe, hblk⟩ := blk_told hblk; (try simp only [drew_size] at hBlt hsz hHe); (try simp at hBlt hsz hHe); have hUe := Lib.hid hblk; have hVe := Lib.hid hblt; have hBle := hBlt; have hSze := hsz; (try (have HO := oGrown (v := .slice A9 N9 c9) (n := N9) (xs := xs.map (.int .i64)) hg (fun k hk => by have := UO.out k hk; omega) (by first | exact HO | exact oAlloc HO _ | exact oDrew (oAlloc HO _)))); have hy0x := hGrown (g := w.heap.size) (t := 35) (cs := #[.bool g1, .slice A1 n1 c1, .slice B1 m1 d1]) hg (box_ne (g := w.heap.size) (t := 35) (cs := #[.bool g1, .slice A1 n1 c1, .slice B1 m1 d1]) (by (first | (first | assumption | (with_reducible refine hDrew ?_; (first | assumption | (with_reducible refine hDrew ?_; (first | assumption | (with_reducible refine hDrew ?_; (first | assumption)) | (with_reducible refine hAlloc ?_ _; (first | assumption)))) | (with_reducible refine hAlloc ?_ _; (first | assumption | (with_reducible refine hDrew ?_; (first | assumption)) | (with_reducible refine hAlloc ?_ _; (first | assumption)))))) | (with_reducible refine hAlloc ?_ _; (first | assumption | (with_reducible refine hDrew ?_; (first | assumption | (with_reducible refine hDrew ?_; (first | assumption)) | (with_reducible refine hAlloc ?_ _; (first | assumption)))) | (with_reducible refine hAlloc ?_ _; (first | assumption | (with_reducible refine hDrew ?_; (first | assumption)) | (with_reducible refine hAlloc ?_ _; (first | assumption))))))) | (with_reducible refine hFar (hFar (hFar ?_ (by dsimp only; omega) _) (by dsimp only; omega) _) (by dsimp only; omega) _; (first | assumption | (with_reducible refine hDrew ?_; (first | assumption)) | (with_reducible refine hAlloc ?_ _; (first | assumption)))))) hB (by decide)) (by (first | (first | assumption | (with_reducible refine hDrew ?_; (first | assumption | (with_reducible refine hDrew ?_; (first | assumption | (with_reducible refine hDrew ?_; (first | assumption)) | (with_reducible refine hAlloc ?_ _; (first | assumption)))) | (with_reducible refine hAlloc ?_ _; (first | assumption | (with_reducible refine hDrew ?_; (first | assumption)) | (with_reducible refine hAlloc ?_ _; (first | assumption)))))) | (with_reducible refine hAlloc ?_ _; (first | assumption | (with_reducible refine hDrew ?_; (first | assumption | (with_reducible refine hDrew ?_; (first | assumption)) | (with_reducible refine hAlloc ?_ _; (first | assumption)))) | (with_reducible refine hAlloc ?_ _; (first | assumption | (with_reducible refine hDrew ?_; (first | assumption)) | (with_reducible refine hAlloc ?_ _; (first | assumption))))))) | (with_reducible refine hFar (hFar (hFar ?_ (by dsimp only; omega) _) (by dsimp only; omega) _) (by dsimp only; omega) _; (first | assumption | (with_reducible refine hDrew ?_; (first | assumption)) | (with_reducible refine hAlloc ?_ _; (first | assumption)))))); have hsx := hGrown (g := w.heap.size + 1) (t := 35) (cs := #[.bool false, .slice none 0 0, .slice none 0 0]) hg (box_ne (g := w.heap.size + 1) (t := 35) (cs := #[.bool false, .slice none 0 0, .slice none 0 0]) (by (first | (first | assumption | (with_reducible refine hDrew ?_; (first | assumption | (with_reducible refine hDrew ?_; (first | assumption | (with_reducible refine hDrew ?_; (first | assumption)) | (with_reducible refine hAlloc ?_ _; (first | assumption)))) | (with_reducible refine hAlloc ?_ _; (first | assumption | (with_reducible refine hDrew ?_; (first | assumption)) | (with_reducible refine hAlloc ?_ _; (first | assumption)))))) | (with_reducible refine hAlloc ?_ _; (first | assumption | (with_reducible refine hDrew ?_; (first | assumption | (with_reducible refine hDrew ?_; (first | assumption)) | (with_reducible refine hAlloc ?_ _; (first | assumption)))) | (with_reducible refine hAlloc ?_ _; (first | assumption | (with_reducible refine hDrew ?_; (first | assumption)) | (with_reducible refine hAlloc ?_ _; (first | assumption))))))) | (with_reducible refine hFar (hFar (hFar ?_ (by dsimp only; omega) _) (by dsimp only; omega) _) (by dsimp only; omega) _; (first | assumption | (with_reducible refine hDrew ?_; (first | assumption)) | (with_reducible refine hAlloc ?_ _; (first | assumption)))))) hB (by decide)) (by (first | (first | assumption | (with_reducible refine hDrew ?_; (first | assumption | (with_reducible refine hDrew ?_; (first | assumption | (with_reducible refine hDrew ?_; (first | assumption)) | (with_reducible refine hAlloc ?_ _; (first | assumption)))) | (with_reducible refine hAlloc ?_ _; (first | assumption | (with_reducible refine hDrew ?_; (first | assumption)) | (with_reducible refine hAlloc ?_ _; (first | assumption)))))) | (with_reducible refine hAlloc ?_ _; (first | assumption | (with_reducible refine hDrew ?_; (first | assumption | (with_reducible refine hDrew ?_; (first | assumption)) | (with_reducible refine hAlloc ?_ _; (first | assumption)))) | (with_reducible refine hAlloc ?_ _; (first | assumption | (with_reducible refine hDrew ?_; (first | assumption)) | (with_reducible refine hAlloc ?_ _; (first | assumption))))))) | (with_reducible refine hFar (hFar (hFar ?_ (by dsimp only; omega) _) (by dsimp only; omega) _) (by dsimp only; omega) _; (first | assumption | (with_reducible refine hDrew ?_; (first | assumption)) | (with_reducible refine hAlloc ?_ _; (first | assumption)))))); have BWx : Hid (Below w.heap.size w _) := bGrown hg (by omega) (by (first | assumption | (with_reducible refine bDrew ?_; (first | assumption | (with_reducible refine bDrew ?_; (first | assumption | (with_reducible refine bDrew ?_; (first | assumption)) | (with_reducible refine bAlloc ?_ _; (first | assumption)))) | (with_reducible refine bAlloc ?_ _; (first | assumption | (with_reducible refine bDrew ?_; (first | assumption)) | (with_reducible refine bAlloc ?_ _; (first | assumption)))))) | (with_reducible refine bAlloc ?_ _; (first | assumption | (with_reducible refine bDrew ?_; (first | assumption | (with_reducible refine bDrew ?_; (first | assumption)) | (with_reducible refine bAlloc ?_ _; (first | assumption)))) | (with_reducible refine bAlloc ?_ _; (first | assumption | (with_reducible refine bDrew ?_; (first | assumption)) | (with_reducible refine bAlloc ?_ _; (first | assumption)))))))); have ehs0 := hsx.out.cell 0; have ehs1 := hsx.out.cell 1; have ehs2 := hsx.out.cell 2; have fhs0 := hsx.out.free 0; have fhs1 := hsx.out.free 1; have fhs2 := hsx.out.free 2; simp at ehs0 ehs1 ehs2; have HU := Lib.hid hown; obtain ⟨Be9, de9, rfl⟩ := own_slice hown; clear hown hg hblk hblt hBlt hsz))
  all_goals
    have HAP := Lib.hid (apart_told UO.out hUe.out (by omega) (by omega))
    have HM : Hid (es.length = m1) := HK1.out.1
    go_wp2_with fail
    refine bodyPost_ret (v := .agg #[.bool s, .slice A9 N9 c9, .slice Be9 m1 de9]) (by simp [results, Tryz.results104, ehs0, ehs1, ehs2, go_sem]) rfl ?_
    exact ratEnd_store hsx.out (by omega) BWx.out HQ.out HN.out HM.out (by omega) (by omega) HO.out (by first | omega | (simp only [drew_size]; simp; omega) | (simp only [drew_size]; omega)) HU.out (by first | omega | (simp only [drew_size]; simp; omega) | (simp only [drew_size]; omega)) HAP.out
theorem spec_l04Neg (g1 : Bool) (A1 : Option Addr) (n1 c1 : Nat) (xs : List Int) (B1 : Option Addr) (m1 d1 : Nat) (es : List Int) (w : World) (h1 : InI w A1 n1 xs) (r1 : Room A1 n1 c1) (k1 : InI w B1 m1 es) (s1 : Room B1 m1 d1) (q1 : ROk g1 xs es) :
    Calls Tryz.prog 104 #[.agg #[.bool g1, .slice A1 n1 c1, .slice B1 m1 d1]] w fun e w' => RatEnd (RatNegIs g1 xs es) w w' e := spec_l04NegG g1 A1 n1 c1 xs B1 m1 d1 es w h1 r1 k1 s1 (.inl q1)
end Go.Proofs.YthjbfdifeffilaaGreat
namespace Go.Proofs.YthjbfdifeffilaaGreat
set_option maxRecDepth 100000
open Go.RowKit

end Go.Proofs.YthjbfdifeffilaaGreat
