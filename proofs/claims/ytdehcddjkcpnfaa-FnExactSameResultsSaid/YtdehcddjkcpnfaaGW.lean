/- Contracts of vectors, by the model: made of zeros. -/
import Derived.Test.YtdehcddjkcpnfaaGV
import Derived.Test.YtdehcddjkcpnfaaGF
namespace Go.Proofs.Ytdehcddjkcpnfaa
open Go.RowKit

end Go.Proofs.Ytdehcddjkcpnfaa
namespace Go.Proofs.Ytdehcddjkcpnfaa
open Go.RowKit

def PairEnd (rs1 rs2 : List RD) (w w' : World) (e : Ending) : Prop := ∃ b, e = .returned (.bool b) ∧ (b = true ↔ PairOk rs1 rs2) ∧ Below w.heap.size w w'
def BadEnd (ds : List Int) (w w' : World) (e : Ending) : Prop := ∃ b, e = .returned (.bool b) ∧ (b = true ↔ ds = []) ∧ Below w.heap.size w w'
def FineEnd (rs : List RD) (w w' : World) (e : Ending) : Prop := ∃ b, e = .returned (.bool b) ∧ (b = true ↔ ∀ r ∈ rs, r.ok) ∧ Below w.heap.size w w'
theorem good_nil {r : RD} (h : r.ok ∨ r = RD.zero) : r.ds = [] ↔ ¬ r.ok := by
  rcases h with h | rfl
  · refine ⟨fun e => ?_, fun hn => absurd h hn⟩
    have h4 := h.2.2.1
    rw [e] at h4
    simp [val] at h4
  · exact ⟨fun _ => RD.zero_bad, fun _ => rfl⟩
def DoneEnd (A : Option Addr) (n c : Nat) (rs : List RD) (w w' : World) (e : Ending) : Prop :=
  (((∀ r ∈ rs, r.ok) ∧ e = .returned (.tuple #[.slice A n c, .bool true])) ∨ (¬ (∀ r ∈ rs, r.ok) ∧ e = .returned (.tuple #[.slice none 0 0, .bool false]))) ∧ Below w.heap.size w w'
end Go.Proofs.Ytdehcddjkcpnfaa
namespace Go.Proofs.Ytdehcddjkcpnfaa
open Go.RowKit

end Go.Proofs.Ytdehcddjkcpnfaa
namespace Go.Proofs.Ytdehcddjkcpnfaa
open Go.RowKit

def EqualVectorsIs (a b : List RD) (q : Bool) : Prop := q = true ↔ a = b
theorem equalVectors_unique {a b : List RD} {q q' : Bool} (h : EqualVectorsIs a b q) (h' : EqualVectorsIs a b q') : q = q' := by
  unfold EqualVectorsIs at h h'
  rw [Bool.eq_iff_iff, h, h']
def EqVEnd (rs1 rs2 : List RD) (w w' : World) (e : Ending) : Prop := ∃ b, e = .returned (.bool b) ∧ EqualVectorsIs rs1 rs2 b ∧ Below w.heap.size w w'
theorem eqv_no {a b : List RD} (h : a ≠ b) : EqualVectorsIs a b false := ⟨fun k => (by cases k), fun k => absurd k h⟩
theorem eqv_yes {a b : List RD} (h : a = b) : EqualVectorsIs a b true := ⟨fun _ => h, fun _ => rfl⟩
theorem rd_eq {r s : RD} {q : Bool} (h : RatEqualIs r.g r.xs r.ds s.g s.xs s.ds q) : q = true ↔ r = s := by
  unfold RatEqualIs at h
  rw [h]
  cases r; cases s
  simp
theorem take_eq_all {a b : List RD} {n : Nat} (h : a.take n = b.take n) (ha : a.length = n) (hb : b.length = n) : a = b := by
  rwa [List.take_of_length_le (by omega), List.take_of_length_le (by omega)] at h
theorem take_eq_succ {a b : List RD} {i : Nat} {r : RD} (h : a.take i = b.take i) (ha : a[i]? = some r) (hb : b[i]? = some r) : a.take (i + 1) = b.take (i + 1) := by
  obtain ⟨h1, e1⟩ := List.getElem?_eq_some_iff.1 ha
  obtain ⟨h2, e2⟩ := List.getElem?_eq_some_iff.1 hb
  rw [List.take_succ_eq_append_getElem h1, List.take_succ_eq_append_getElem h2, h, e1, e2]
/-- One of the results stored. -/
theorem store_one {E : TypeId} {w wr w2 : World} {n i : Nat} {zs ys : List Value} {u : Value} (ho : wr.ownsRow w.heap.size E 1 (.slice (some ⟨w.heap.size, 0, none⟩) n n) n (zs.take i ++ ys.drop i)) (hb : Below w.heap.size w wr) (hb2 : Below wr.heap.size wr w2) (hi : i < n)
    (hz : zs[i]? = some u) (hy : ys.length = n) :
    (∃ old, w2.cell? ⟨w.heap.size, i, none⟩ = some old ∧ w2.frozen? ⟨w.heap.size, i, none⟩ = false) ∧ (w2.setCell ⟨w.heap.size, i, none⟩ u).ownsRow w.heap.size E 1 (.slice (some ⟨w.heap.size, 0, none⟩) n n) n (zs.take (i + 1) ++ ys.drop (i + 1)) ∧
      Below w.heap.size w (w2.setCell ⟨w.heap.size, i, none⟩ u) := by
  have ho2 := own_below ho hb2
  have hbb := hb.trans (hb2.mono hb.size)
  obtain ⟨hix, he⟩ := List.getElem?_eq_some_iff.1 hz
  have hiy : i < ys.length := by omega
  have hst := ho2.stored i u
  rw [← he, copied_set zs ys i hix hiy, he] at hst
  refine ⟨⟨_, ho2.cellAt i (by omega) |>.trans (List.getElem?_eq_getElem (by simp; omega)), ho2.frozenAt i⟩, hst.1, below_marked hbb ho2 hst.2 (Nat.le_refl _) hbb.size⟩
set_option maxHeartbeats 1600000 in
theorem spec_equalVectors0 (A : Option Addr) (n c : Nat) (rs1 : List RD) (B : Option Addr) (m d : Nat) (rs2 : List RD) (w : World) (h1 : InV w A n rs1) (h2 : InV w B m rs2) :
    Calls Try.prog 11 #[.slice A n c, .slice B m d] w fun e w' => EqVEnd rs1 rs2 w w' e := by
  have hn := h1.2.1
  have hm := h2.2.1
  have H1 := Lib.hid h1
  have H2 := Lib.hid h2
  clear h1 h2
  by_cases hne : ((n : Int) != (m : Int)) = true
  · have HF : Hid (EqVEnd rs1 rs2 w w (.returned (.bool false))) := ⟨false, rfl, eqv_no (fun h => by have e1 := H1.out.1; have e2 := H2.out.1; rw [h] at e1; simp at hne; omega), Below.refl _ _⟩
    go_enter Try.func11, Try.ntmps11
    go_wp2_with fail
    go_ret
    exact HF.out
  obtain rfl : n = m := by simp at hne; omega
  go_enter Try.func11, Try.ntmps11
  go_wp2_with fail
  clear hne
  go_loopw [14] (fun x wr => ∃ i : Nat, i ≤ n ∧ x = .int .i64 i ∧ Hid (rs1.take i = rs2.take i) ∧ Hid (Below w.heap.size w wr)) (fun x _ => n - (intOf x).toNat)
  case atStart => exact ⟨0, Nat.zero_le _, rfl, rfl, Below.refl _ _⟩
  case round =>
    obtain ⟨i, hle, rfl, hk, hb⟩ := hrel
    by_cases hlt : i < n
    · obtain ⟨b1, o1, rfl, hb1, r1, hr1, A3, n3, c3, B3, m3, d3, at1, i1, ra1, j1, rb1⟩ := H1.out.atB hb.out i hlt
      obtain ⟨b2, o2, rfl, hb2, r2, hr2, A4, n4, c4, B4, m4, d4, at2, i2, ra2, j2, rb2⟩ := H2.out.atB hb.out i hlt
      have hi0 : (0 : Int) ≤ (i : Int) := by omega
      have hi1 : (i : Int) < (n : Int) := by omega
      have hw0 : w.heap.size ≤ wr.heap.size := hb.out.size
      have hbx : Below wr.heap.size wr (wr.alloc (.cells #[.bool r1.g, .slice A3 n3 c3, .slice B3 m3 d3] 35)).drew := ((Below.refl _ _).alloc (Nat.le_refl _) _).drew
      have P_0 : Hid (Box (wr.alloc (.cells #[.bool r1.g, .slice A3 n3 c3, .slice B3 m3 d3] 35)).drew wr.heap.size 35 #[.bool r1.g, .slice A3 n3 c3, .slice B3 m3 d3]) := (Box.new _ _ _).drew
      have Q_0 := Lib.hid (at2.below (Nat.lt_of_lt_of_le hb2 hw0) hbx)
      have I1 := Lib.hid (i1.below hbx)
      have I2 := Lib.hid (i2.below hbx)
      have J1 := Lib.hid (j1.below hbx)
      have J2 := Lib.hid (j2.below hbx)
      have RA1 := Lib.hid ra1
      have RA2 := Lib.hid ra2
      have RB1 := Lib.hid rb1
      have RB2 := Lib.hid rb2
      have HLT2 := Lib.hid hb2
      have HR1 := Lib.hid hr1
      have HR2 := Lib.hid hr2
      have BD := Lib.hid (hb.out.trans (hbx.mono hw0))
      obtain ⟨e10, e11, e12⟩ := at1
      clear at2 i1 i2 j1 j2 hr1 hr2 ra1 ra2 rb1 rb2 hbx
      go_wp2_with fail
      go_region_held3 (fun w' => w'.cell? ⟨wr.heap.size, 0, none⟩ = some (.bool r1.g) ∧ w'.cell? ⟨wr.heap.size, 1, none⟩ = some (.slice A3 n3 c3) ∧ w'.cell? ⟨wr.heap.size, 2, none⟩ = some (.slice B3 m3 d3) ∧ w'.cell? ⟨b2, o2 + i * 3, none⟩ = some (.bool r2.g) ∧ w'.cell? ⟨b2, o2 + i * 3 + 1, none⟩ = some (.slice A4 n4 c4) ∧ w'.cell? ⟨b2, o2 + i * 3 + 2, none⟩ = some (.slice B4 m4 d4)) (first | with_reducible exact box_at3 P_1 Q_1 | with_reducible exact box_at3 P_0 Q_0) (first | (go_at_call 12; (with_reducible refine (spec_ratEqual r1.g A3 n3 c3 r1.xs B3 m3 d3 r1.ds r2.g A4 n4 c4 r2.xs B4 m4 d4 r2.ds _ I1.out RA1.out J1.out RB1.out I2.out RA2.out J2.out RB2.out).mono ?_); rintro e w2 ⟨q, rfl, hq, hc2⟩; have HQ := Lib.hid (rd_eq hq); have P_1 := Lib.hid (P_0.out.below hc2 P_0.out.lt); have Q_1 := Lib.hid (Q_0.out.below (Nat.lt_of_lt_of_le HLT2.out BD.out.size) hc2); have HB := Lib.hid (BD.out.trans (hc2.mono BD.out.size)); clear hq hc2))
      cases q
      · have HF : Hid (EqVEnd rs1 rs2 w w2 (.returned (.bool false))) := ⟨false, rfl, eqv_no (fun h => by
          have e1 := HR1.out
          rw [h, HR2.out] at e1
          have h1 := HQ.out.2 (Option.some.inj e1).symm
          cases h1), HB.out⟩
        go_wp2_with fail
        go_ret
        exact HF.out
      · have HK : Hid (rs1.take (i + 1) = rs2.take (i + 1)) := by
          have e1 := HQ.out.1 rfl
          have e2 := HR2.out
          rw [← e1] at e2
          exact take_eq_succ hk.out HR1.out e2
        go_wp2_with fail
        go_roundw
        case rel => exact ⟨i + 1, by omega, by go_num, HK, HB⟩
        case measure => simp [intOf]; omega
    · obtain rfl : i = n := by omega
      have HF : Hid (EqVEnd rs1 rs2 w wr (.returned (.bool true))) := ⟨true, rfl, eqv_yes (take_eq_all hk.out H1.out.1 H2.out.1), hb.out⟩
      go_wp2_with fail
      go_ret
      exact HF.out
theorem spec_equalVectors (A : Option Addr) (n c : Nat) (rs1 : List RD) (B : Option Addr) (m d : Nat) (rs2 : List RD) (w : World) (h1 : InV w A n rs1) (h2 : InV w B m rs2) :
    Calls Try.prog 11 #[.slice A n c, .slice B m d] w fun e w' => ∃ b, e = .returned (.bool b) ∧ EqualVectorsIs rs1 rs2 b ∧ Below w.heap.size w w' := (spec_equalVectors0 A n c rs1 B m d rs2 w h1 h2).mono fun _ _ h => h
end Go.Proofs.Ytdehcddjkcpnfaa
namespace Go.Proofs.Ytdehcddjkcpnfaa
open Go.RowKit

end Go.Proofs.Ytdehcddjkcpnfaa
