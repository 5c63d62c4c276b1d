/- Structures: copied and compared by the helpers of the laws. -/
import Derived.Test.YtipmeijfmiiedaaStM3
namespace Go.Proofs.Ytipmeijfmiiedaa
set_option maxRecDepth 100000
open Go.RowKit

theorem below_store2 {w W : World} {g : Nat} (hb : Below w.heap.size w W) (hg : w.heap.size ≤ g) (u0 u1 : Value) : Below w.heap.size w ((W.setCell ⟨g, 0, none⟩ u0).setCell ⟨g, 1, none⟩ u1) := (hb.setCell hg _).setCell hg _
def ToTEnd (n : Nat) (js : List JD) (m : Nat) (ms : List MD) (w w' : World) (e : Ending) : Prop :=
  ∃ A c B d, e = .returned (.agg #[.slice A n c, .slice B m d]) ∧ OwnT w' w.heap.size A n c js B m d ms ∧ Below w.heap.size w w'
set_option maxHeartbeats 3200000 in
theorem toStructure_any (A : Option Addr) (n c : Nat) (js : List JD) (B : Option Addr) (m d : Nat) (ms : List MD) (w : World) (h : InT w A n js B m ms) :
    Calls Try.prog 21 #[.agg #[.slice A n c, .slice B m d]] w fun e w' => ToTEnd n js m ms w w' e := by
  obtain ⟨W, hW⟩ : ∃ W, W = (((w.alloc (.cells #[.slice A n c, .slice B m d] 44)).alloc (.cells #[.slice none 0 0, .slice none 0 0] 26)).alloc (.cells #[.slice none 0 0, .slice none 0 0] 26)) := ⟨_, rfl⟩
  have hp0_0 : Hid (Box W w.heap.size 44 #[.slice A n c, .slice B m d]) := by rw [hW]; exact ((Box.new _ _ _).alloc _).alloc _
  have hp1_0 : Hid (Box W (w.heap.size + 1) 26 #[.slice none 0 0, .slice none 0 0]) := by rw [hW]; exact (Box.at' (by simp)).alloc _
  have hp2_0 : Hid (Box W (w.heap.size + 1 + 1) 26 #[.slice none 0 0, .slice none 0 0]) := by rw [hW]; exact Box.at' (by simp)
  have BW_0 : Hid (Below w.heap.size w W) := by rw [hW]; exact (((Below.refl _ _).alloc (Nat.le_refl _) _).alloc (by simp) _).alloc (by simp; omega) _
  have hWs : W.heap.size = w.heap.size + 1 + 1 + 1 := by rw [hW]; simp
  have HI := Lib.hid h
  clear h
  go_enter Try.func21, Try.ntmps21
  go_wp2_with fail
  rw [← hW]
  clear hW
  refine (toJointS_any A n c js _ (HI.out.1.below BW_0.out)).mono ?_
  rintro e w1 ⟨v, rfl, ho, hb⟩
  have hp0_1 := Lib.hid (hp0_0.out.below hb hp0_0.out.lt)
  have hp1_1 := Lib.hid (hp1_0.out.below hb hp1_0.out.lt)
  have hp2_1 := Lib.hid (hp2_0.out.below hb hp2_0.out.lt)
  have BW_1 := Lib.hid (BW_0.out.trans (hb.mono BW_0.out.size))
  obtain ⟨A1, c1, rfl⟩ := own_slice ho
  have hz1 : W.heap.size ≤ w1.heap.size := hb.size
  have HO1 := Lib.hid ho
  clear ho hb
  have f0 := hp2_1.out.free 0
  have q0 := hp2_1.out.cell 0
  have q1 := hp0_1.out.cell 1
  simp at q0 q1
  go_wp2_with fail
  clear f0 q0 q1
  obtain ⟨W2, hW2⟩ : ∃ W2, W2 = w1.setCell ⟨w.heap.size + 1 + 1, 0, none⟩ (.slice A1 n c1) := ⟨_, rfl⟩
  have HO2 : Hid (W2.ownsRow W.heap.size 79 4 (.slice A1 n c1) n (jcells js)) := by rw [hW2]; exact own_box HO1.out hp2_1.out 0 _
  have hp2_2 : Hid (Box W2 (w.heap.size + 1 + 1) 26 #[.slice A1 n c1, .slice none 0 0]) := by rw [hW2]; refine Lib.hid ?_; simpa using hp2_1.out.set_ 0 (.slice A1 n c1)
  have hp1_2 : Hid (Box W2 (w.heap.size + 1) 26 #[.slice none 0 0, .slice none 0 0]) := by rw [hW2]; exact hp1_1.out.far (by dsimp only; omega) _
  have BW_2 : Hid (Below w.heap.size w W2) := by rw [hW2]; exact BW_1.out.setCell (by dsimp only; omega) _
  have hz2 : W2.heap.size = w1.heap.size := by rw [hW2]; simp
  rw [← hW2]
  clear hW2 HO1 hp0_1 hp0_0
  refine (toMemberS_any B m d ms _ (HI.out.2.below BW_2.out)).mono ?_
  rintro e w3 ⟨v, rfl, ho, hb⟩
  have hp1_3 := Lib.hid (hp1_2.out.below hb hp1_2.out.lt)
  have hp2_3 := Lib.hid (hp2_2.out.below hb hp2_2.out.lt)
  have BW_3 := Lib.hid (BW_2.out.trans (hb.mono BW_2.out.size))
  obtain ⟨B1, d1, rfl⟩ := own_slice ho
  have hz3 : W2.heap.size ≤ w3.heap.size := hb.size
  have AP1 := Lib.hid (apart_older' HO2.out ho)
  have HO3 := Lib.hid (own_below HO2.out hb)
  have HU3 := Lib.hid (own_base ho (show W.heap.size ≤ W2.heap.size by omega))
  clear ho hb HO2
  have f0 := hp1_3.out.free 0
  have f1 := hp1_3.out.free 1
  have f2 := hp2_3.out.free 1
  have q0 := hp1_3.out.cell 0
  have q1 := hp1_3.out.cell 1
  have q2 := hp2_3.out.cell 0
  have q3 := hp2_3.out.cell 1
  simp at q0 q1 q2 q3
  go_wp2_with fail
  refine bodyPost_ret (v := .agg #[.slice A1 n c1, .slice B1 m d1]) (by simp [results, Try.results21, q0, q1, go_sem]) rfl ?_
  have hp1_6 := hp1_3.out.far (p := ⟨w.heap.size + 1 + 1, 1, none⟩) (by dsimp only; omega) (.slice B1 m d1)
  refine ⟨_, _, _, _, rfl, ⟨?_, ?_, AP1.out⟩, ?_⟩
  · exact own_base (own_store2 (own_box HO3.out hp2_3.out 1 _ (by decide)) hp1_6 (by decide) _ _) (by omega)
  · exact own_base (own_store2 (own_box HU3.out hp2_3.out 1 _ (by decide)) hp1_6 (by decide) _ _) (by omega)
  · exact below_store2 (BW_3.out.setCell (by dsimp only; omega) _) (by omega) _ _
set_option maxHeartbeats 800000 in
theorem eqJoint_same (s : ByteArray) (x y : Int) (f : Bool) (w : World) :
    Calls Try.prog 82 #[.agg #[.string s, .int .i64 x, .int .i64 y, .bool f], .agg #[.string s, .int .i64 x, .int .i64 y, .bool f]] w fun e w' => e = .returned (.bool true) ∧ Below w.heap.size w w' := by
  go_enter Try.func82, Try.ntmps82
  go_wp2_with fail
  go_ret
  exact ⟨rfl, ((Below.refl _ _).alloc (Nat.le_refl _) _).alloc (by simp) _⟩
set_option maxHeartbeats 800000 in
theorem eqMember_same (x y z : Int) (w : World) :
    Calls Try.prog 83 #[.agg #[.int .i64 x, .int .i64 y, .int .i64 z], .agg #[.int .i64 x, .int .i64 y, .int .i64 z]] w fun e w' => e = .returned (.bool true) ∧ Below w.heap.size w w' := by
  go_enter Try.func83, Try.ntmps83
  go_wp2_with fail
  go_ret
  exact ⟨rfl, ((Below.refl _ _).alloc (Nat.le_refl _) _).alloc (by simp) _⟩
theorem atJJ {w : World} {b o b' o' : Nat} {s : ByteArray} {x y : Int} {f : Bool} (h : Hid (AtJ w b o ⟨s, x, y, f⟩)) (k : Hid (AtJ w b' o' ⟨s, x, y, f⟩)) :
    w.cell? ⟨b, o, none⟩ = some (.string s) ∧ w.cell? ⟨b, o + 1, none⟩ = some (.int .i64 x) ∧ w.cell? ⟨b, o + 2, none⟩ = some (.int .i64 y) ∧ w.cell? ⟨b, o + 3, none⟩ = some (.bool f) ∧ w.cell? ⟨b', o', none⟩ = some (.string s) ∧ w.cell? ⟨b', o' + 1, none⟩ = some (.int .i64 x) ∧ w.cell? ⟨b', o' + 2, none⟩ = some (.int .i64 y) ∧ w.cell? ⟨b', o' + 3, none⟩ = some (.bool f) := ⟨h.out.1, h.out.2.1, h.out.2.2.1, h.out.2.2.2, k.out.1, k.out.2.1, k.out.2.2.1, k.out.2.2.2⟩
set_option maxHeartbeats 1600000 in
theorem eqJointS_same (A1 A2 : Option Addr) (n c1 c2 : Nat) (js : List JD) (w : World) (h1 : InJ w A1 n js) (h2 : InJ w A2 n js) :
    Calls Try.prog 62 #[.slice A1 n c1, .slice A2 n c2] w fun e w' => e = .returned (.bool true) ∧ Below w.heap.size w w' := by
  have hm := h1.2.1
  have H1 := Lib.hid h1
  have H2 := Lib.hid h2
  clear h1 h2
  go_enter Try.func62, Try.ntmps62
  go_wp2_with fail
  go_loopw [5] (fun x wr => ∃ i : Nat, i ≤ n ∧ x = .int .i64 i ∧ Hid (Below w.heap.size w wr)) (fun x _ => n - (intOf x).toNat)
  case atStart => exact ⟨0, Nat.zero_le _, rfl, Below.refl _ _⟩
  case round =>
    obtain ⟨i, hle, rfl, hb⟩ := hrel
    by_cases hlt : i < n
    · obtain ⟨b1, o1, rfl, hb1, ⟨s, x, y, f⟩, hr, at1, _⟩ := (H1.out.below hb.out).at_ i hlt
      obtain ⟨b2, o2, rfl, hb2, r', hr', at2, _⟩ := (H2.out.below hb.out).at_ i hlt
      obtain rfl : ⟨s, x, y, f⟩ = r' := by rw [hr] at hr'; exact Option.some.inj hr'
      have hi0 : (0 : Int) ≤ (i : Int) := by omega
      have hi1 : (i : Int) < (n : Int) := by omega
      have P1_0 := Lib.hid at1.drew
      have P2_0 := Lib.hid at2.drew
      have HLT1 := Lib.hid hb1
      have HLT2 := Lib.hid hb2
      clear at1 at2 hr hr'
      go_wp2_with fail
      go_region_held3 (fun w' => w'.cell? ⟨b1, o1 + i * 4, none⟩ = some (.string s) ∧ w'.cell? ⟨b1, o1 + i * 4 + 1, none⟩ = some (.int .i64 x) ∧ w'.cell? ⟨b1, o1 + i * 4 + 2, none⟩ = some (.int .i64 y) ∧ w'.cell? ⟨b1, o1 + i * 4 + 3, none⟩ = some (.bool f) ∧ w'.cell? ⟨b2, o2 + i * 4, none⟩ = some (.string s) ∧ w'.cell? ⟨b2, o2 + i * 4 + 1, none⟩ = some (.int .i64 x) ∧ w'.cell? ⟨b2, o2 + i * 4 + 2, none⟩ = some (.int .i64 y) ∧ w'.cell? ⟨b2, o2 + i * 4 + 3, none⟩ = some (.bool f)) (first | with_reducible exact atJJ P1_1 P2_1 | with_reducible exact atJJ P1_0 P2_0) (first | (go_at_call 82; (with_reducible refine (eqJoint_same s x y f _).mono ?_); rintro e w1 ⟨rfl, hc1⟩; have P1_1 := Lib.hid (P1_0.out.below HLT1.out hc1); have P2_1 := Lib.hid (P2_0.out.below HLT2.out hc1); have HB := Lib.hid (hb.out.drew.trans (hc1.mono hb.out.size)); clear hc1))
      go_wp2_with fail
      go_roundw
      case rel => exact ⟨i + 1, by omega, by go_num, HB⟩
      case measure => simp [intOf]; omega
    · obtain rfl : i = n := by omega
      go_wp2_with fail
      go_ret
      exact ⟨rfl, hb.out⟩
theorem atMM {w : World} {b o b' o' : Nat} {x y z : Int} (h : Hid (AtM w b o ⟨x, y, z⟩)) (k : Hid (AtM w b' o' ⟨x, y, z⟩)) :
    w.cell? ⟨b, o, none⟩ = some (.int .i64 x) ∧ w.cell? ⟨b, o + 1, none⟩ = some (.int .i64 y) ∧ w.cell? ⟨b, o + 2, none⟩ = some (.int .i64 z) ∧ w.cell? ⟨b', o', none⟩ = some (.int .i64 x) ∧ w.cell? ⟨b', o' + 1, none⟩ = some (.int .i64 y) ∧ w.cell? ⟨b', o' + 2, none⟩ = some (.int .i64 z) := ⟨h.out.1, h.out.2.1, h.out.2.2, k.out.1, k.out.2.1, k.out.2.2⟩
set_option maxHeartbeats 1600000 in
theorem eqMemberS_same (A1 A2 : Option Addr) (n c1 c2 : Nat) (js : List MD) (w : World) (h1 : InM w A1 n js) (h2 : InM w A2 n js) :
    Calls Try.prog 63 #[.slice A1 n c1, .slice A2 n c2] w fun e w' => e = .returned (.bool true) ∧ Below w.heap.size w w' := by
  have hm := h1.2.1
  have H1 := Lib.hid h1
  have H2 := Lib.hid h2
  clear h1 h2
  go_enter Try.func63, Try.ntmps63
  go_wp2_with fail
  go_loopw [5] (fun x wr => ∃ i : Nat, i ≤ n ∧ x = .int .i64 i ∧ Hid (Below w.heap.size w wr)) (fun x _ => n - (intOf x).toNat)
  case atStart => exact ⟨0, Nat.zero_le _, rfl, Below.refl _ _⟩
  case round =>
    obtain ⟨i, hle, rfl, hb⟩ := hrel
    by_cases hlt : i < n
    · obtain ⟨b1, o1, rfl, hb1, ⟨x, y, z⟩, hr, at1, _⟩ := (H1.out.below hb.out).at_ i hlt
      obtain ⟨b2, o2, rfl, hb2, r', hr', at2, _⟩ := (H2.out.below hb.out).at_ i hlt
      obtain rfl : ⟨x, y, z⟩ = r' := by rw [hr] at hr'; exact Option.some.inj hr'
      have hi0 : (0 : Int) ≤ (i : Int) := by omega
      have hi1 : (i : Int) < (n : Int) := by omega
      have P1_0 := Lib.hid at1.drew
      have P2_0 := Lib.hid at2.drew
      have HLT1 := Lib.hid hb1
      have HLT2 := Lib.hid hb2
      clear at1 at2 hr hr'
      go_wp2_with fail
      go_region_held3 (fun w' => w'.cell? ⟨b1, o1 + i * 3, none⟩ = some (.int .i64 x) ∧ w'.cell? ⟨b1, o1 + i * 3 + 1, none⟩ = some (.int .i64 y) ∧ w'.cell? ⟨b1, o1 + i * 3 + 2, none⟩ = some (.int .i64 z) ∧ w'.cell? ⟨b2, o2 + i * 3, none⟩ = some (.int .i64 x) ∧ w'.cell? ⟨b2, o2 + i * 3 + 1, none⟩ = some (.int .i64 y) ∧ w'.cell? ⟨b2, o2 + i * 3 + 2, none⟩ = some (.int .i64 z)) (first | with_reducible exact atMM P1_1 P2_1 | with_reducible exact atMM P1_0 P2_0) (first | (go_at_call 83; (with_reducible refine (eqMember_same x y z _).mono ?_); rintro e w1 ⟨rfl, hc1⟩; have P1_1 := Lib.hid (P1_0.out.below HLT1.out hc1); have P2_1 := Lib.hid (P2_0.out.below HLT2.out hc1); have HB := Lib.hid (hb.out.drew.trans (hc1.mono hb.out.size)); clear hc1))
      go_wp2_with fail
      go_roundw
      case rel => exact ⟨i + 1, by omega, by go_num, HB⟩
      case measure => simp [intOf]; omega
    · obtain rfl : i = n := by omega
      go_wp2_with fail
      go_ret
      exact ⟨rfl, hb.out⟩
set_option maxHeartbeats 1600000 in
theorem eqStructure_same (A1 A2 : Option Addr) (n c1 c2 : Nat) (js : List JD) (B1 B2 : Option Addr) (m d1 d2 : Nat) (ms : List MD) (w : World) (h1 : InT w A1 n js B1 m ms) (h2 : InT w A2 n js B2 m ms) :
    Calls Try.prog 24 #[.agg #[.slice A1 n c1, .slice B1 m d1], .agg #[.slice A2 n c2, .slice B2 m d2]] w fun e w' => e = .returned (.bool true) ∧ Below w.heap.size w w' := by
  obtain ⟨W, hW⟩ : ∃ W, W = ((w.alloc (.cells #[.slice A1 n c1, .slice B1 m d1] 26)).alloc (.cells #[.slice A2 n c2, .slice B2 m d2] 26)) := ⟨_, rfl⟩
  have hp0_0 : Hid (Box W w.heap.size 26 #[.slice A1 n c1, .slice B1 m d1]) := by rw [hW]; exact ((Box.new _ _ _).alloc _)
  have hp1_0 : Hid (Box W (w.heap.size + 1) 26 #[.slice A2 n c2, .slice B2 m d2]) := by rw [hW]; exact (Box.at' (by simp))
  have BW_0 : Hid (Below w.heap.size w W) := by rw [hW]; exact ((Below.refl _ _).alloc (Nat.le_refl _) _).alloc (by simp) _
  have H1 := Lib.hid (h1.below BW_0.out)
  have H2 := Lib.hid (h2.below BW_0.out)
  clear h1 h2
  go_enter Try.func24, Try.ntmps24
  go_wp2_with fail
  rw [← hW]
  clear hW
  refine (eqJointS_same A1 A2 n c1 c2 js _ H1.out.1 H2.out.1).mono ?_
  rintro e w1 ⟨rfl, hb⟩
  have hp0_1 := Lib.hid (hp0_0.out.below hb hp0_0.out.lt)
  have hp1_1 := Lib.hid (hp1_0.out.below hb hp1_0.out.lt)
  have BW_1 := Lib.hid (BW_0.out.trans (hb.mono BW_0.out.size))
  have H3 := Lib.hid (H1.out.2.below hb)
  have H4 := Lib.hid (H2.out.2.below hb)
  clear hb
  have q0 := hp0_1.out.cell 1
  have q1 := hp1_1.out.cell 1
  simp at q0 q1
  go_wp2_with fail
  clear q0 q1
  refine (eqMemberS_same B1 B2 m d1 d2 ms _ H3.out H4.out).mono ?_
  rintro e w2 ⟨rfl, hb⟩
  have BW_2 := Lib.hid (BW_1.out.trans (hb.mono BW_1.out.size))
  clear hb
  go_wp2_with fail
  go_ret
  exact ⟨rfl, BW_2.out⟩
end Go.Proofs.Ytipmeijfmiiedaa
