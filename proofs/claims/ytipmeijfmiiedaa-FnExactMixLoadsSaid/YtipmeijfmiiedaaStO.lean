/- Valid joints, by the program: areJoints. -/
import Derived.Test.YtipmeijfmiiedaaStN3
import Derived.Maps.RangeWalk
namespace Go.Proofs.Ytipmeijfmiiedaa
set_option maxRecDepth 100000
open Go.RowKit
open Go.Maps (Keyed)

/-- Valid joints with different names, not too many. -/
def JsOk (js : List JD) : Prop := js.length ≤ 6 ∧ (∀ j ∈ js, JOk j) ∧ (js.map JD.name).Nodup
theorem first_of_nodup {js : List JD} (h : (js.map JD.name).Nodup) {k : Nat} {j : JD} (hk : js[k]? = some j) : FirstFrom js 0 j.name k := by
  refine ⟨Nat.zero_le _, ⟨j, hk, rfl⟩, fun k' _ hlt j' hj' he => ?_⟩
  obtain ⟨h1, h2⟩ := List.getElem?_eq_some_iff.1 hk
  obtain ⟨h3, h4⟩ := List.getElem?_eq_some_iff.1 hj'
  have hp := List.pairwise_iff_getElem.1 h k' k (by simpa using h3) (by simpa using h1) hlt
  simp only [List.getElem_map] at hp
  exact hp (by rw [h4, h2, he])
section
variable {H : Type} {P : Program} (w : World) {ops : Array Oper} {rest : List Oper} {o : Oper} {a : Act} {Q : Exit → Act → World → Prop}
/-- The step of a range over a map of names and integers. -/
theorem wpList_next_ranges_si (hg : o.guard = none) (it : Operand) (hop : o.op = Op.next it false) (k e : TypeId) (K : Keyed P k) (hk : P.underlying k = some .string) (he : P.underlying e = some (.int .i64))
    (b r n : Nat) (D : DataW H) (left : Lit → Bool) (cnt : Nat) (hit : a.eval it = .pointer (some ⟨r, 0, none⟩)) (h : w.ranges P k (plainElem P e) b r n D left cnt)
    (hDone : cnt = 0 → (∀ kl, left kl = false) → wpList P ops Q rest (a.put o.dst (.tuple #[.bool false])) w)
    (hMore : ∀ (x : ByteArray) (c : Int) (w' : World) (cnt' : Nat), left (keyT x) = true → (∀ zd, D.atKey (keyT x) zd = .lit (.int .i64 c)) → w'.ranges P k (plainElem P e) b r n D (fun z => left z && !z.sameKey (keyT x)) cnt' → cnt' < cnt →
      w.grownBy w' (some r) → w'.heap.size = w.heap.size → (Instr.entry (.pointer (some ⟨r, 0, none⟩))).run P w' = .ok (.tuple #[.string x, .int .i64 c]) w' → wpList P ops Q rest (a.put o.dst (.tuple #[.bool true, .string x, .int .i64 c])) w') :
    wpList P ops Q (o :: rest) a w :=
  wpList_next_ranges w hg it hop k K (plainElem P e) Value.string (Value.int .i64) (fun key kl hkey => by obtain ⟨x, rfl, _⟩ := WideMaps.string_of_keyOf hk hkey; exact ⟨x, rfl⟩) (fun v y hv => by obtain ⟨c, rfl, _⟩ := plainElem_int_inv he hv; exact ⟨c, rfl⟩)
    b r n D left cnt hit h hDone (fun x c kl y w' cnt' hkey hlk hv hat hrg hlt hgr hsz hen => by
      obtain ⟨x', ex, rfl, hwx⟩ := WideMaps.string_of_keyOf hk hkey
      cases ex
      obtain ⟨c', ec, rfl, hwc⟩ := plainElem_int_inv he hv
      cases ec
      exact hMore x c w' cnt' hlk hat hrg hlt hgr hsz hen)
end
set_option maxHeartbeats 3200000 in
theorem impl_areJoints (A : Option Addr) (n c : Nat) (js : List JD) (w : World) (h : InJ w A n js) :
    Calls Try.prog 75 #[.slice A n c] w fun e w' => YesEnd (JsOk js) w w' e := by
  have hm := h.2.1
  have HV := Lib.hid h
  have HLN : Hid (js.length = n) := h.1
  clear h
  by_cases h6 : 6 < n
  · have HF : Hid (YesEnd (JsOk js) w w (.returned (.bool false))) := yes_no (fun q => by have := q.1; have := HLN.out; omega) (Below.refl _ _)
    have h6' : (6 : Int) < (n : Int) := by omega
    go_enter Try.func75, Try.ntmps75
    go_wp2_with fail
    go_ret
    exact HF.out
  have h6' : ¬ (6 : Int) < (n : Int) := by omega
  go_enter Try.func75, Try.ntmps75
  go_wp2_with fail
  refine (impl_firstByName js A n c _ HV.out).mono ?_
  rintro e w1 ⟨M, D, rfl, hM, hown, hmap, hb⟩
  have B1 := Lib.hid hb
  have HMP := Lib.hid hmap
  have HO := Lib.hid hown
  clear hmap hb hown
  go_wp2_with (first | (at_range; refine wpList_range_own _ rfl _ 111 rfl 9 3 strKeyed Try.underlying111 _ M n D rfl HO.out ?_; intro w2 hrg0 hg0 hs0) | go_in)
  go_frame
  obtain ⟨r, hr⟩ : ∃ r, r = w1.heap.size := ⟨_, rfl⟩
  have B2 : Hid (Below w.heap.size w w2) := B1.out.grown hg0 B1.out.size (fun k hk => by cases hk)
  rw [← hr] at hrg0 ⊢
  have hrw : w.heap.size ≤ r := by have := B1.out.size; omega
  have HRG := Lib.hid hrg0
  clear hrg0 hg0 hs0 hr
  have HST : Hid (∀ s k, FirstFrom js 0 s k → Maps.has D (keyT s) = false → ∀ j, js[k]? = some j → JOk j) := fun s k hf hl => by
    have := (HMP.out.keys (keyT s)).2 (by obtain ⟨_, ⟨j, h1, h2⟩, _⟩ := hf; exact ⟨k, j, Nat.zero_le _, h1, by rw [h2]⟩)
    rw [this] at hl; cases hl
  go_loopw [5] (fun _ wr => ∃ (left : Lit → Bool) (cnt : Nat), Hid (wr.ranges Try.prog 9 (plainElem Try.prog 3) M r n D left cnt) ∧ Hid (∀ s k, FirstFrom js 0 s k → left (keyT s) = false → ∀ j, js[k]? = some j → JOk j) ∧ Hid (Below w.heap.size w wr)) (fun _ wr => wr.rangeLeft M r)
  case atStart => exact ⟨_, _, HRG, HST, B2⟩
  case round =>
    obtain ⟨left, cnt, HRG, HOK, HB⟩ := hrel
    go_wp2_with (first | (at_next; refine wpList_next_ranges_si _ rfl _ rfl 9 3 strKeyed Try.underlying9 Try.underlying3 M r n D left cnt rfl HRG.out ?done ?more) | go_in)
    case done =>
      intro hc0 hl0
      have HO2 := Lib.hid HRG.out.owns
      have HALL : Hid (∀ s k, FirstFrom js 0 s k → ∀ j, js[k]? = some j → JOk j) := fun s k hf j hj => HOK.out s k hf (hl0 _) j hj
      clear hc0 hl0 HOK
      by_cases hsz : Maps.size D = n
      · have hq : ((Maps.size D : Int) == (n : Int)) = true := by simp [hsz]
        have hnd : (js.map JD.name).Nodup := by
          have := HMP.out.nd.1 (by rw [HLN.out]; exact hsz)
          simpa using this
        have HF : Hid (YesEnd (JsOk js) w wr (.returned (.bool true))) := yes_yes ⟨by rw [HLN.out]; omega, fun j hj => by
          obtain ⟨k, hk⟩ := List.getElem?_of_mem hj
          exact HALL.out _ k (first_of_nodup hnd hk) j hk, hnd⟩ HB.out
        clear hsz hnd
        go_wp2_with (first | (at_len; refine wpList_len_own _ rfl _ 111 rfl 9 3 Try.underlying111 _ M n D rfl HO2.out ?_) | go_in)
        go_ret
        exact HF.out
      · have hq : ((Maps.size D : Int) == (n : Int)) = false := by simp; omega
        have HF : Hid (YesEnd (JsOk js) w wr (.returned (.bool false))) := yes_no (fun q => hsz (by
          have := HMP.out.nd.2 (by simpa using q.2.2)
          rw [this, HLN.out, Nat.sub_zero])) HB.out
        clear hsz
        go_wp2_with (first | (at_len; refine wpList_len_own _ rfl _ 111 rfl 9 3 Try.underlying111 _ M n D rfl HO2.out ?_) | go_in)
        go_ret
        exact HF.out
    case more =>
      intro x ci w3 cnt3 hlx hat hrg3 hlt hg3 hs3 hen
      obtain ⟨k0, j0, _, hk0, he0⟩ := (HMP.out.keys (keyT x)).1 (Maps.has_true_of_atKey hat)
      obtain ⟨k, hf⟩ := firstFrom_ex (js := js) (i := 0) (s := x) (k := k0) (Nat.zero_le _) ⟨j0, hk0, (keyT_inj he0).symm⟩
      obtain rfl : ci = (k : Int) := by
        have h1 := HMP.out.val x k hf .nil
        rw [hat] at h1
        injection h1 with h2
        injection h2
      obtain ⟨j, hj, hjx⟩ := hf.2.1
      have hkn : k < n := by have := (List.getElem?_eq_some_iff.1 hj).1; have := HLN.out; omega
      have HB3 : Hid (Below w.heap.size w w3) := HB.out.grown hg3 HB.out.size (fun q hq => by have := Option.some.inj hq; omega)
      obtain ⟨b, o, rfl, hbs, ⟨s', x', y', f'⟩, hj', ⟨e0, e1, e2, e3⟩, hft⟩ := (HV.out.below HB3.out).at_ k hkn
      simp only at e0 e1 e2 e3
      obtain rfl : j = ⟨s', x', y', f'⟩ := by rw [hj] at hj'; exact Option.some.inj hj'
      have hi0 : (0 : Int) ≤ (k : Int) := by omega
      have hi1 : (k : Int) < (n : Int) := by omega
      have hsm : s'.size ≤ maxLen := by have := hft.1; simp only at this; unfold maxLen; omega
      have HRG3 := Lib.hid hrg3
      have HFF := Lib.hid hf
      have HJJ := Lib.hid hj
      have HJX : Hid (s' = x) := hjx
      have HLT := Lib.hid hlt
      have HCN := Lib.hid HRG.out.left_eq
      clear hat hrg3 hlt hg3 hs3 hf hj hj' hjx he0 hk0 hft hlx
      go_wp2_with fail
      refine (impl_jointOk s' x' y' f' _ hsm).mono ?_
      rintro e w4 ⟨bb, rfl, hq, hb4⟩
      have HB4 := Lib.hid (HB3.out.trans (hb4.mono HB3.out.size))
      have HRG4 := Lib.hid (HRG3.out.kept (grownBy_of_below hb4 none) (by simp) (by simp))
      have HQ := Lib.hid hq
      clear hb4 hq e0 e1 e2 e3 hen
      cases bb
      case false =>
        have HF : Hid (YesEnd (JsOk js) w w4 (.returned (.bool false))) := yes_no (fun q => by have := HQ.out.2 (q.2.1 _ (List.mem_of_getElem? HJJ.out)); cases this) HB4.out
        clear HOK
        go_wp2_with fail
        go_ret
        exact HF.out
      have HJO : Hid (JOk ⟨s', x', y', f'⟩) := HQ.out.1 rfl
      have HOK4 : Hid (∀ s k, FirstFrom js 0 s k → (fun z => left z && !z.sameKey (keyT x)) (keyT s) = false → ∀ j, js[k]? = some j → JOk j) := fun s k' hf' hl j hj => by
        simp only [Bool.and_eq_false_iff, Bool.not_eq_false'] at hl
        rcases hl with hl | hl
        · exact HOK.out s k' hf' hl j hj
        · have he := keyT_inj (WideAt.sameKey_eq hl)
          subst he
          have hkk := firstFrom_unique hf' HFF.out
          rw [hkk, HJJ.out] at hj
          rw [← Option.some.inj hj]
          exact HJO.out
      clear HOK
      go_wp2_with fail
      go_roundw
      case rel => exact ⟨_, cnt3, HRG4, HOK4, HB4⟩
      case measure =>
        rw [HRG4.out.left_eq, HCN.out]
        exact HLT.out
end Go.Proofs.Ytipmeijfmiiedaa
