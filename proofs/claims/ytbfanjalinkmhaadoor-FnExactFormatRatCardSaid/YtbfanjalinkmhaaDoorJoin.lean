/- Contracts of Join: the model's and the program's. -/
import Derived.Test.YtbfanjalinkmhaaDoorMem
import Derived.Test.YtbfanjalinkmhaaDoorShelf
import Derived.Lib.Join
namespace Go.Proofs.YtbfanjalinkmhaaDoor
set_option maxRecDepth 100000
open Go.RowKit

/-- The text of the first k strings, d between them. -/
def jb (xs : List ByteArray) (d : ByteArray) (k : Nat) : List UInt8 := Lib.join ((xs.take k).map (·.data.toList)) d.data.toList
theorem jb_zero (xs : List ByteArray) (d : ByteArray) : jb xs d 0 = [] := rfl
theorem jb_one (xs : List ByteArray) (d : ByteArray) (h : 0 < xs.length) : jb xs d 1 = xs[0].data.toList := by
  match xs, h with
  | x :: r, _ => simp [jb, Lib.join_one]
theorem jb_succ (xs : List ByteArray) (d : ByteArray) (k : Nat) (h0 : 0 < k) (h : k < xs.length) : jb xs d (k + 1) = jb xs d k ++ d.data.toList ++ xs[k].data.toList := by
  match xs, k, h0, h with
  | x :: r, m + 1, _, h =>
    have hm : m < r.length := by simpa using h
    unfold jb
    rw [List.take_succ_cons, List.take_succ_cons, List.map_cons, List.map_cons, Lib.join_cons, Lib.join_cons, List.map_take, List.map_take,
      Lib.joinTail_take_succ d.data.toList (r.map (·.data.toList)) m r[m].data.toList (by simp [hm])]
    simp
theorem jb_le (xs : List ByteArray) (d : ByteArray) : ∀ k, k ≤ xs.length → (jb xs d k).length ≤ szTo xs k + k * d.size
  | 0, _ => by simp [jb_zero]
  | k + 1, h => by
    have ih := jb_le xs d k (by omega)
    have hs := szTo_succ xs k (by omega)
    rw [Nat.succ_mul]
    by_cases h0 : k = 0
    · subst h0
      rw [jb_one xs d (by omega), len_size]; omega
    · rw [jb_succ xs d k (by omega) (by omega)]
      simp only [List.length_append, len_size]; omega
def joinB (xs : List ByteArray) (d : ByteArray) (k : Nat) : ByteArray := ⟨(jb xs d k).toArray⟩
theorem joinB_size (xs : List ByteArray) (d : ByteArray) (k : Nat) : (joinB xs d k).size = (jb xs d k).length := by
  show (jb xs d k).toArray.size = _; simp
theorem bytes_eta (s : ByteArray) : (⟨s.data.toList.toArray⟩ : ByteArray) = s := by simp
theorem joinB_one (xs : List ByteArray) (d : ByteArray) (h : 0 < xs.length) : joinB xs d 0 ++ xs[0] = joinB xs d 1 := by
  have e : xs[0] = ⟨xs[0].data.toList.toArray⟩ := (bytes_eta _).symm
  unfold joinB
  rw [jb_one xs d h, jb_zero]
  conv => lhs; rw [e]
  rw [ByteArray.mk_append_mk]; rfl
theorem joinB_succ (xs : List ByteArray) (d : ByteArray) (k : Nat) (h0 : 0 < k) (h : k < xs.length) : joinB xs d k ++ d ++ xs[k] = joinB xs d (k + 1) := by
  have e : xs[k] = ⟨xs[k].data.toList.toArray⟩ := (bytes_eta _).symm
  have e2 : d = ⟨d.data.toList.toArray⟩ := (bytes_eta _).symm
  unfold joinB
  rw [jb_succ xs d k h0 h]
  conv => lhs; rw [e]; arg 1; arg 2; rw [e2]
  rw [ByteArray.mk_append_mk, ByteArray.mk_append_mk]


theorem impl_joinWith (A : Option Addr) (n c : Nat) (xs : List ByteArray) (d : ByteArray) (w : World) (hn : xs.length = n) (hcap : n ≤ c) (hJ : szTo xs n + n * d.size ≤ 140737488355328) (hm : n ≤ 1048576) (hr : Reads w A (xs.map .string)) :
    Calls Tryd.prog 58 #[.string d, .slice A n c] w fun e w' => e = .returned (.string (joinB xs d n)) ∧ Below w.heap.size w w' := by
  have hlen := jb_le xs d n (by omega)
  have hall : jb xs d n = Lib.join (xs.map (·.data.toList)) d.data.toList := by unfold jb; rw [List.take_of_length_le (by omega)]
  by_cases h0 : n = 0
  · subst h0
    go_enter Tryd.func58, Tryd.ntmps58
    go_wp2_with fail
    refine (Tryd.strings_Join_none A c d _).mono ?_
    rintro e w' ⟨rfl, rfl⟩
    go_wp2_with fail
    go_ret
    exact ⟨ret_str (by unfold joinB; rw [jb_zero]), Below.refl _ _⟩
  · obtain ⟨b, o, rfl, hb, hc⟩ := hr.at_ (by simp; omega)
    subst hn
    have hcells : ∀ (j : Nat) x, xs[j]? = some x → w.cell? ⟨b, o + j, none⟩ = some (.string x) := fun j x hx => by
      obtain ⟨hj, he⟩ := List.getElem?_eq_some_iff.1 hx
      rw [hc j (by simpa using hj)]; simp [he]
    have con := Tryd.strings_Join b o c xs d w hcells hb (by omega) hcap (by rw [← hall]; omega)
    have hjj : Hid ((⟨(Lib.join (xs.map (·.data.toList)) d.data.toList).toArray⟩ : ByteArray) = joinB xs d xs.length) := by unfold Hid joinB; rw [hall]
    have Hcon := Lib.hid con
    clear con hall hcells hc hr
    go_enter Tryd.func58, Tryd.ntmps58
    go_wp2_with fail
    refine Hcon.out.mono ?_
    rintro e w' ⟨rfl, hbel⟩
    have HB := Lib.hid hbel
    clear hbel
    go_wp2_with fail
    go_ret
    exact ⟨ret_str hjj.out, HB.out⟩

theorem impl_join (A : Option Addr) (n c : Nat) (xs : List ByteArray) (d : ByteArray) (w : World) (hn : xs.length = n) (hcap : n ≤ c) (hJ : szTo xs n + n * d.size ≤ 140737488355328) (hm : n ≤ 1048576) (hr : Reads w A (xs.map .string)) :
    Calls Tryd.prog 44 #[.slice A n c, .string d] w fun e w' => e = .returned (.string (joinB xs d n)) ∧ Below w.heap.size w w' := by
  have Hcon := Lib.hid (impl_joinWith A n c xs d w hn hcap hJ hm hr)
  clear hn hr hJ
  go_enter Tryd.func44, Tryd.ntmps44
  go_wp2_with fail
  refine Hcon.out.mono ?_
  rintro e w' ⟨rfl, hbel⟩
  have HB := Lib.hid hbel
  clear hbel
  go_wp2_with fail
  go_ret
  exact ⟨rfl, HB.out⟩
end Go.Proofs.YtbfanjalinkmhaaDoor
