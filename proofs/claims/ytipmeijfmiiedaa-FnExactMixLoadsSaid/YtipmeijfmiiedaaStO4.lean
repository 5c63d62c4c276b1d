/- StructureOk, by the model. -/
import Derived.Test.YtipmeijfmiiedaaStO3
namespace Go.Proofs.Ytipmeijfmiiedaa
set_option maxRecDepth 100000
open Go.RowKit

theorem jsOk_of {js : List JD} {n : Nat} (hn : js.length = n) (h6 : n ≤ 6) (h : ∀ k j, k < n → js[k]? = some j → JOk j ∧ FirstFrom js 0 j.name k) : JsOk js := by
  refine ⟨by omega, fun j hj => ?_, ?_⟩
  · obtain ⟨k, hk⟩ := List.getElem?_of_mem hj
    exact (h k j (by have := (List.getElem?_eq_some_iff.1 hk).1; omega) hk).1
  · unfold List.Nodup
    rw [List.pairwise_iff_getElem]
    intro i k hi hk hik he
    simp only [List.length_map] at hi hk
    simp only [List.getElem_map] at he
    exact (h k js[k] (by omega) (List.getElem?_eq_getElem hk)).2.2.2 i (Nat.zero_le _) hik js[i] (List.getElem?_eq_getElem hi) he
set_option maxHeartbeats 6400000 in
theorem spec_structureOk0 (A : Option Addr) (n c : Nat) (js : List JD) (B : Option Addr) (m d : Nat) (ms : List MD) (w : World) (h : InT w A n js B m ms) :
    Calls Try.prog 57 #[.agg #[.slice A n c, .slice B m d]] w fun e w' => YesEnd (TOk js ms) w w' e := by
  have hmn := h.1.2.1
  have hmm := h.2.2.1
  have HLN : Hid (js.length = n) := h.1.1
  have HLM : Hid (ms.length = m) := h.2.1
  obtain ⟨W1, hW⟩ : ∃ W, W = w.alloc (.cells #[.slice A n c, .slice B m d] 26) := ⟨_, rfl⟩
  have X0 : Hid (Box W1 w.heap.size 26 #[.slice A n c, .slice B m d]) := by rw [hW]; exact Box.new _ _ _
  have B0 : Hid (Below w.heap.size w W1) := by rw [hW]; exact (Below.refl _ _).alloc (Nat.le_refl _) _
  have HJ := Lib.hid h.1
  have HM := Lib.hid h.2
  clear h
  by_cases h6 : 6 < n
  · have h6' : (6 : Int) < (n : Int) := by omega
    have HF : Hid (YesEnd (TOk js ms) w W1 (.returned (.bool false))) := yes_no (fun q => by have := q.1.1; have := HLN.out; omega) B0.out
    go_enter Try.func57, Try.ntmps57
    go_wp2_with fail
    rw [← hW]
    go_ret
    exact HF.out
  have h6' : ¬ (6 : Int) < (n : Int) := by omega
  by_cases h8 : 8 < m
  · have h8' : (8 : Int) < (m : Int) := by omega
    have HF : Hid (YesEnd (TOk js ms) w W1 (.returned (.bool false))) := yes_no (fun q => by have := q.2.1; have := HLM.out; omega) B0.out
    go_enter Try.func57, Try.ntmps57
    go_wp2_with fail
    rw [← hW]
    go_ret
    exact HF.out
  have h8' : ¬ (8 : Int) < (m : Int) := by omega
  go_enter Try.func57, Try.ntmps57
  go_wp2_with fail
  rw [← hW]
  clear hW
  go_loopw [23] (fun y wr => ∃ k : Nat, k ≤ n ∧ y = .int .i64 k ∧ Hid (∀ i j, i < k → js[i]? = some j → JOk j ∧ FirstFrom js 0 j.name i) ∧ Hid (Below w.heap.size w wr) ∧ Hid (Box wr w.heap.size 26 #[.slice A n c, .slice B m d])) (fun y _ => n - (intOf y).toNat)
  case atStart => exact ⟨0, Nat.zero_le _, rfl, fun i mm h => absurd h (Nat.not_lt_zero _), B0, X0⟩
  case round =>
    obtain ⟨k, hk, rfl, HOK, HB, HX⟩ := hrel
    by_cases hlt : k < n
    · obtain ⟨b1, o1, rfl, hb1, ⟨s, x, y, f⟩, hx, ⟨e0, e1, e2, e3⟩, hft⟩ := (HJ.out.below HB.out).at_ k hlt
      simp only at e0 e1 e2 e3
      have hk0 : (0 : Int) ≤ (k : Int) := by omega
      have hk1 : (k : Int) < (n : Int) := by omega
      have HXX := Lib.hid hx
      have hsm : s.size ≤ maxLen := by have := hft.1; simp only at this; unfold maxLen; omega
      obtain ⟨wa, hwa⟩ : ∃ W, W = wr.alloc (.cells #[.string s, .int .i64 x, .int .i64 y, .bool f] 79) := ⟨_, rfl⟩
      obtain ⟨ga, hga⟩ : ∃ g, g = wr.heap.size := ⟨_, rfl⟩
      have hba : Below wr.heap.size wr wa := by rw [hwa]; exact (Below.refl _ _).alloc (Nat.le_refl _) _
      have XA : Hid (Box wa ga 79 #[.string s, .int .i64 x, .int .i64 y, .bool f]) := by rw [hwa, hga]; exact Box.new _ _ _
      have HXA := Lib.hid (HX.out.below hba HX.out.lt)
      have HBA := Lib.hid (HB.out.trans (hba.mono HB.out.size))
      clear hx hft hba HB HX
      go_upto_region 6 with fail
      rw [← hwa, ← hga]
      clear hwa hga e0 e1 e2 e3
      have a0 := XA.out.cell 0
      have a1 := XA.out.cell 1
      have a2 := XA.out.cell 2
      have a3 := XA.out.cell 3
      simp at a0 a1 a2 a3
      go_wp2_with fail
      clear a0 a1 a2 a3
      refine (spec_jointOk s x y f _ hsm).mono ?_
      rintro e w2 ⟨b, rfl, hq, hb⟩
      have XA2 := Lib.hid (XA.out.below hb XA.out.lt)
      have HX2 := Lib.hid (HXA.out.below hb HXA.out.lt)
      have HB2 := Lib.hid (HBA.out.trans (hb.mono HBA.out.size))
      have HQ2 := Lib.hid hq
      clear hb hq
      cases b
      case false =>
        have HF : Hid (YesEnd (TOk js ms) w w2 (.returned (.bool false))) := yes_no (fun q => by have := HQ2.out.2 (q.1.2.1 _ (List.mem_of_getElem? HXX.out)); cases this) HB2.out
        clear HOK
        go_wp2_with fail
        go_ret
        exact HF.out
      have HJO : Hid (JOk ⟨s, x, y, f⟩) := HQ2.out.1 rfl
      have a0 := XA2.out.cell 0
      have q0 := HX2.out.cell 0
      have q1 := HX2.out.cell 1
      simp at a0 q0 q1
      go_wp2_with fail
      clear a0 q0 q1
      refine (spec_jointNamed0 _ n c js B m d s _ (HJ.out.below HB2.out)).mono ?_
      rintro e w3 ⟨r, rfl, hq, hb⟩
      have HX3 := Lib.hid (HX2.out.below hb HX2.out.lt)
      have HB3 := Lib.hid (HB2.out.trans (hb.mono HB2.out.size))
      have HQ3 := Lib.hid hq
      clear hb hq
      by_cases hrk : r = (k : Int)
      case neg =>
        have hrn : (r != (k : Int)) = true := by simpa using hrk
        have HF : Hid (YesEnd (TOk js ms) w w3 (.returned (.bool false))) := yes_no (fun q => hrk (jointNamed0_unique HQ3.out (.inl ⟨k, first_of_nodup q.1.2.2 HXX.out, rfl⟩))) HB3.out
        clear HOK hrk
        go_wp2_with fail
        go_ret
        exact HF.out
      subst hrk
      have hrn : ((k : Int) != (k : Int)) = false := by simp
      have HFF : Hid (FirstFrom js 0 s k) := by
        rcases HQ3.out with ⟨k', h1, h2⟩ | ⟨_, h2⟩
        · obtain rfl : k = k' := by omega
          exact h1
        · omega
      have HOK2 : Hid (∀ i j, i < k + 1 → js[i]? = some j → JOk j ∧ FirstFrom js 0 j.name i) := fun i j h1 h2 => by
        by_cases hik : i = k
        · subst hik
          rw [HXX.out] at h2
          rw [← Option.some.inj h2]
          exact ⟨HJO.out, HFF.out⟩
        · exact HOK.out i j (by omega) h2
      clear HOK
      go_wp2_with fail
      go_roundw
      case rel => exact ⟨k + 1, by omega, by go_num, HOK2, HB3, HX3⟩
      case measure => simp [intOf]; omega
    · have HJS : Hid (JsOk js) := jsOk_of HLN.out (by omega) fun k' j h1 h2 => HOK.out k' j (by omega) h2
      have q0 := HX.out.cell 0
      have q1 := HX.out.cell 1
      simp at q0 q1
      clear HOK
      go_wp2_with fail
      clear q0 q1
      go_loopw [47] (fun y wr => ∃ k : Nat, k ≤ m ∧ y = .int .i64 k ∧ Hid (∀ i mm, i < k → ms[i]? = some mm → TmOk js mm) ∧ Hid (Below w.heap.size w wr) ∧ Hid (Box wr w.heap.size 26 #[.slice A n c, .slice B m d])) (fun y _ => m - (intOf y).toNat)
      case atStart => exact ⟨0, Nat.zero_le _, rfl, fun i mm h => absurd h (Nat.not_lt_zero _), HB, HX⟩
      case round =>
        clear HB HX
        obtain ⟨k, hk, rfl, HOK, HB, HX⟩ := hrel
        by_cases hlt : k < m
        · obtain ⟨b1, o1, rfl, hb1, ⟨ma, mc, mk⟩, hx, ⟨e0, e1, e2⟩, hft⟩ := (HM.out.below HB.out).at_ k hlt
          simp only at e0 e1 e2
          have hk0 : (0 : Int) ≤ (k : Int) := by omega
          have hk1 : (k : Int) < (m : Int) := by omega
          have HXX := Lib.hid hx
          obtain ⟨wa, hwa⟩ : ∃ W, W = wr.alloc (.cells #[.int .i64 ma, .int .i64 mc, .int .i64 mk] 99) := ⟨_, rfl⟩
          obtain ⟨ga, hga⟩ : ∃ g, g = wr.heap.size := ⟨_, rfl⟩
          have hba : Below wr.heap.size wr wa := by rw [hwa]; exact (Below.refl _ _).alloc (Nat.le_refl _) _
          have XA : Hid (Box wa ga 99 #[.int .i64 ma, .int .i64 mc, .int .i64 mk]) := by rw [hwa, hga]; exact Box.new _ _ _
          have HXA := Lib.hid (HX.out.below hba HX.out.lt)
          have HBA := Lib.hid (HB.out.trans (hba.mono HB.out.size))
          clear hx hft hba HB HX
          go_upto_region 13 with fail
          rw [← hwa, ← hga]
          clear hwa hga e0 e1 e2
          have a0 := XA.out.cell 0
          have a1 := XA.out.cell 1
          have a2 := XA.out.cell 2
          simp at a0 a1 a2
          go_wp2_with fail
          by_cases ha : 0 ≤ ma ∧ ma ≤ (n : Int) - 1
          case neg =>
            have HF : Hid (YesEnd (TOk js ms) w wa (.returned (.bool false))) := yes_no (fun q => ha (by
              obtain ⟨p, q', ja, jb, h1, _, h3, _⟩ := q.2.2 _ (List.mem_of_getElem? HXX.out)
              have := (List.getElem?_eq_some_iff.1 h3).1
              have := HLN.out
              simp only at h1
              omega)) HBA.out
            refine (l01In_no ma 0 ((n : Int) - 1) _ ha).mono ?_
            rintro e w2 ⟨rfl, rfl⟩
            clear ha HOK
            go_wp2_with fail
            go_ret
            exact HF.out
          refine (l01In_yes ma 0 ((n : Int) - 1) _ ha.1 ha.2).mono ?_
          rintro e w2 ⟨rfl, rfl⟩
          go_wp2_with fail
          by_cases hb : 0 ≤ mc ∧ mc ≤ (n : Int) - 1
          case neg =>
            have HF : Hid (YesEnd (TOk js ms) w w2 (.returned (.bool false))) := yes_no (fun q => hb (by
              obtain ⟨p, q', ja, jb, _, h2, _, h4, _⟩ := q.2.2 _ (List.mem_of_getElem? HXX.out)
              have := (List.getElem?_eq_some_iff.1 h4).1
              have := HLN.out
              simp only at h2
              omega)) HBA.out
            refine (l01In_no mc 0 ((n : Int) - 1) _ hb).mono ?_
            rintro e w3 ⟨rfl, rfl⟩
            clear ha hb HOK
            go_wp2_with fail
            go_ret
            exact HF.out
          refine (l01In_yes mc 0 ((n : Int) - 1) _ hb.1 hb.2).mono ?_
          rintro e w3 ⟨rfl, rfl⟩
          go_wp2_with fail
          by_cases hkk : 1 ≤ mk ∧ mk ≤ 3
          case neg =>
            have HF : Hid (YesEnd (TOk js ms) w w3 (.returned (.bool false))) := yes_no (fun q => hkk (by
              obtain ⟨p, q', ja, jb, _, _, _, _, h5, _⟩ := q.2.2 _ (List.mem_of_getElem? HXX.out)
              exact h5)) HBA.out
            refine (l01In_no mk 1 3 _ hkk).mono ?_
            rintro e w4 ⟨rfl, rfl⟩
            clear ha hb hkk HOK
            go_wp2_with fail
            go_ret
            exact HF.out
          refine (l01In_yes mk 1 3 _ hkk.1 hkk.2).mono ?_
          rintro e w4 ⟨rfl, rfl⟩
          obtain ⟨p, rfl⟩ : ∃ p : Nat, ma = p := ⟨ma.toNat, by omega⟩
          obtain ⟨q, rfl⟩ : ∃ q : Nat, mc = q := ⟨mc.toNat, by omega⟩
          have hpn : p < n := by omega
          have hqn : q < n := by omega
          have HKK := Lib.hid hkk
          clear ha hb hkk
          obtain ⟨b2, o2, rfl, hlt2, ⟨s, x, y, f⟩, hj1, hat1, _⟩ := (HJ.out.below HBA.out).at_ p hpn
          obtain ⟨b3, o3, he3, _, ⟨s', x', y', f'⟩, hj2, hat2, _⟩ := (HJ.out.below HBA.out).at_ q hqn
          cases he3
          have HJ1 := Lib.hid hj1
          have HJ2 := Lib.hid hj2
          have hp0 : (0 : Int) ≤ (p : Int) := by omega
          have hp1 : (p : Int) < (n : Int) := by omega
          have hq0 : (0 : Int) ≤ (q : Int) := by omega
          have hq1 : (q : Int) < (n : Int) := by omega
          obtain ⟨e0, e1, e2, e3⟩ := hat1
          simp only at e0 e1 e2 e3
          have q0 := HXA.out.cell 0
          simp at q0
          obtain ⟨wb, hwb⟩ : ∃ W, W = w4.alloc (.cells #[.string s, .int .i64 x, .int .i64 y, .bool f] 79) := ⟨_, rfl⟩
          obtain ⟨gb, hgb⟩ : ∃ g, g = w4.heap.size := ⟨_, rfl⟩
          have hbb : Below w4.heap.size w4 wb := by rw [hwb]; exact (Below.refl _ _).alloc (Nat.le_refl _) _
          have YA0 : Hid (Box wb gb 79 #[.string s, .int .i64 x, .int .i64 y, .bool f]) := by rw [hwb, hgb]; exact Box.new _ _ _
          have HXB0 := Lib.hid (HXA.out.below hbb HXA.out.lt)
          have HBB0 := Lib.hid (HBA.out.trans (hbb.mono HBA.out.size))
          have XAB := Lib.hid (XA.out.below hbb XA.out.lt)
          have AT2 := Lib.hid (hat2.below hlt2 hbb)
          clear hj1 hj2 hbb HXA HBA
          go_upto_region 16 with fail
          rw [← hwb, ← hgb]
          clear hwb hgb e0 e1 e2 e3 q0 a0 a1 a2 hat2
          obtain ⟨g0, g1, g2, g3⟩ := AT2.out
          simp only at g0 g1 g2 g3
          have q0 := HXB0.out.cell 0
          have a1 := XAB.out.cell 1
          simp at q0 a1
          obtain ⟨wb', hwb⟩ : ∃ W, W = wb.alloc (.cells #[.string s', .int .i64 x', .int .i64 y', .bool f'] 79) := ⟨_, rfl⟩
          obtain ⟨gc, hgc⟩ : ∃ g, g = wb.heap.size := ⟨_, rfl⟩
          have hbb : Below wb.heap.size wb wb' := by rw [hwb]; exact (Below.refl _ _).alloc (Nat.le_refl _) _
          have YA := Lib.hid (YA0.out.below hbb YA0.out.lt)
          have YB : Hid (Box wb' gc 79 #[.string s', .int .i64 x', .int .i64 y', .bool f']) := by rw [hwb, hgc]; exact Box.new _ _ _
          have HXB := Lib.hid (HXB0.out.below hbb HXB0.out.lt)
          have HBB := Lib.hid (HBB0.out.trans (hbb.mono HBB0.out.size))
          clear hbb HXB0 HBB0
          go_upto_region 17 with fail
          rw [← hwb, ← hgc]
          clear hwb hgc g0 g1 g2 g3 q0 a1
          have a1 := YA.out.cell 1
          have a2 := YA.out.cell 2
          have a3 := YA.out.cell 3
          have b1' := YB.out.cell 1
          have b2' := YB.out.cell 2
          have b3' := YB.out.cell 3
          simp at a1 a2 a3 b1' b2' b3'
          by_cases hx : x = x'
          case neg =>
            have HXN := Lib.hid hx
            have hxb : (x == x') = false := by simpa using hx
            clear hx
            cases f
            case false =>
              have HOK2 : Hid (∀ i mm, i < k + 1 → ms[i]? = some mm → TmOk js mm) := fun i mm h1 h2 => by
                by_cases hik : i = k
                · subst hik
                  rw [HXX.out] at h2
                  rw [← Option.some.inj h2]
                  exact ⟨p, q, _, _, rfl, rfl, HJ1.out, HJ2.out, HKK.out, (fun h => HXN.out h.1), (fun h => by cases h.1)⟩
                · exact HOK.out i mm (by omega) h2
              clear HOK
              go_wp2_with fail
              go_roundw
              case rel => exact ⟨k + 1, by omega, by go_num, HOK2, HBB, HXB⟩
              case measure => simp [intOf]; omega
            case true =>
              cases f'
              case false =>
                have HOK2 : Hid (∀ i mm, i < k + 1 → ms[i]? = some mm → TmOk js mm) := fun i mm h1 h2 => by
                  by_cases hik : i = k
                  · subst hik
                    rw [HXX.out] at h2
                    rw [← Option.some.inj h2]
                    exact ⟨p, q, _, _, rfl, rfl, HJ1.out, HJ2.out, HKK.out, (fun h => HXN.out h.1), (fun h => by cases h.2)⟩
                  · exact HOK.out i mm (by omega) h2
                clear HOK
                go_wp2_with fail
                go_roundw
                case rel => exact ⟨k + 1, by omega, by go_num, HOK2, HBB, HXB⟩
                case measure => simp [intOf]; omega
              case true =>
                have HF : Hid (YesEnd (TOk js ms) w wb' (.returned (.bool false))) := yes_no (fun h => by obtain ⟨p', q', ja, jb, h1, h2, h3, h4, _, h5, h6⟩ := h.2.2 _ (List.mem_of_getElem? HXX.out); (obtain rfl : p = p' := by simp only at h1; omega); (obtain rfl : q = q' := by simp only at h2; omega); rw [HJ1.out] at h3; rw [HJ2.out] at h4; cases h3; cases h4; exact h6 ⟨rfl, rfl⟩) HBB.out
                clear HOK
                go_wp2_with fail
                go_ret
                exact HF.out
          subst hx
          by_cases hy : y = y'
          case neg =>
            have HYN := Lib.hid hy
            have hyb : (y == y') = false := by simpa using hy
            clear hy
            cases f
            case false =>
              have HOK2 : Hid (∀ i mm, i < k + 1 → ms[i]? = some mm → TmOk js mm) := fun i mm h1 h2 => by
                by_cases hik : i = k
                · subst hik
                  rw [HXX.out] at h2
                  rw [← Option.some.inj h2]
                  exact ⟨p, q, _, _, rfl, rfl, HJ1.out, HJ2.out, HKK.out, (fun h => HYN.out h.2), (fun h => by cases h.1)⟩
                · exact HOK.out i mm (by omega) h2
              clear HOK
              go_wp2_with fail
              go_roundw
              case rel => exact ⟨k + 1, by omega, by go_num, HOK2, HBB, HXB⟩
              case measure => simp [intOf]; omega
            case true =>
              cases f'
              case false =>
                have HOK2 : Hid (∀ i mm, i < k + 1 → ms[i]? = some mm → TmOk js mm) := fun i mm h1 h2 => by
                  by_cases hik : i = k
                  · subst hik
                    rw [HXX.out] at h2
                    rw [← Option.some.inj h2]
                    exact ⟨p, q, _, _, rfl, rfl, HJ1.out, HJ2.out, HKK.out, (fun h => HYN.out h.2), (fun h => by cases h.2)⟩
                  · exact HOK.out i mm (by omega) h2
                clear HOK
                go_wp2_with fail
                go_roundw
                case rel => exact ⟨k + 1, by omega, by go_num, HOK2, HBB, HXB⟩
                case measure => simp [intOf]; omega
              case true =>
                have HF : Hid (YesEnd (TOk js ms) w wb' (.returned (.bool false))) := yes_no (fun h => by obtain ⟨p', q', ja, jb, h1, h2, h3, h4, _, h5, h6⟩ := h.2.2 _ (List.mem_of_getElem? HXX.out); (obtain rfl : p = p' := by simp only at h1; omega); (obtain rfl : q = q' := by simp only at h2; omega); rw [HJ1.out] at h3; rw [HJ2.out] at h4; cases h3; cases h4; exact h6 ⟨rfl, rfl⟩) HBB.out
                clear HOK
                go_wp2_with fail
                go_ret
                exact HF.out
          subst hy
          have HF : Hid (YesEnd (TOk js ms) w wb' (.returned (.bool false))) := yes_no (fun h => by obtain ⟨p', q', ja, jb, h1, h2, h3, h4, _, h5, h6⟩ := h.2.2 _ (List.mem_of_getElem? HXX.out); (obtain rfl : p = p' := by simp only at h1; omega); (obtain rfl : q = q' := by simp only at h2; omega); rw [HJ1.out] at h3; rw [HJ2.out] at h4; cases h3; cases h4; exact h5 ⟨rfl, rfl⟩) HBB.out
          clear HOK
          go_wp2_with fail
          go_ret
          exact HF.out
        · have HF : Hid (YesEnd (TOk js ms) w wr (.returned (.bool true))) := yes_yes ⟨HJS.out, by have := HLM.out; omega, fun mm hmm => by
            obtain ⟨i, hi⟩ := List.getElem?_of_mem hmm
            have h1 := (List.getElem?_eq_some_iff.1 hi).1
            have h2 := HLM.out
            exact HOK.out i mm (by omega) hi⟩ HB.out
          clear HOK
          go_wp2_with fail
          go_ret
          exact HF.out
theorem spec_structureOk (A : Option Addr) (n c : Nat) (js : List JD) (B : Option Addr) (m d : Nat) (ms : List MD) (w : World) (h : InT w A n js B m ms) :
    Calls Try.prog 57 #[.agg #[.slice A n c, .slice B m d]] w fun e w' => ∃ b, e = .returned (.bool b) ∧ StructureOkIs js ms b ∧ Below w.heap.size w w' := (spec_structureOk0 A n c js B m d ms w h).mono fun _ _ h => h
theorem impl_structureOk (A : Option Addr) (n c : Nat) (js : List JD) (B : Option Addr) (m d : Nat) (ms : List MD) (w : World) (h : InT w A n js B m ms) :
    Calls Try.prog 51 #[.agg #[.slice A n c, .slice B m d]] w fun e w' => ∃ b, e = .returned (.bool b) ∧ StructureOkIs js ms b ∧ Below w.heap.size w w' := (impl_structureOk0 A n c js B m d ms w h).mono fun _ _ h => h
end Go.Proofs.Ytipmeijfmiiedaa
