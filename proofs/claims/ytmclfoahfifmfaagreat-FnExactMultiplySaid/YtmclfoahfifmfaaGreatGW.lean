/- Contracts of vectors, by the model: made of zeros. -/
import Derived.Test.YtmclfoahfifmfaaGreatGV
import Derived.Test.YtmclfoahfifmfaaGreatGF
namespace Go.Proofs.YtmclfoahfifmfaaGreat
set_option maxRecDepth 100000
open Go.RowKit

set_option maxHeartbeats 800000 in
theorem spec_l05Zero (w : World) :
    Calls Tryz.prog 59 #[] w fun e w' => RatEnd (RatFromIntIs 0) w w' e := by
  obtain ⟨W0, hW0⟩ : ∃ W, W = (w.alloc (.cells #[.bool false, .slice none 0 0, .slice none 0 0] 60)) := ⟨_, rfl⟩
  have hs_0 : Hid (Box W0 (w.heap.size) 60 #[.bool false, .slice none 0 0, .slice none 0 0]) := by rw [hW0]; exact (Box.at' (by simp))
  have BW_0 : Hid (Below w.heap.size w W0) := by rw [hW0]; exact ((Below.refl w.heap.size w).alloc (by simp) _)
  have hsz0 : w.heap.size + 1 ≤ W0.heap.size := by rw [hW0]; simp
  go_enter Tryz.func59, Tryz.ntmps59
  go_wp2_with fail
  rw [← hW0]
  clear hW0
  refine (spec_ratFromInt 0 _ ⟨by omega, by omega⟩).mono ?_
  rintro e wz ⟨s, r, v, dd, u, rfl, hq, ⟨hl1, ho1⟩, ⟨hl2, ho2⟩, hap, hb⟩
  have HQ : Hid (RatFromIntIs 0 s r dd) := hq
  have HAP := Lib.hid hap
  have hszl := BW_0.out.size
  have hs_1 := Lib.hid (hs_0.out.below hb hs_0.out.lt)
  have BW_1 := Lib.hid (BW_0.out.trans (hb.mono BW_0.out.size))
  clear hb
  clear hq hap
  obtain ⟨A9, c9, rfl⟩ := own_slice ho1
  obtain ⟨B9, d9, rfl⟩ := own_slice ho2
  obtain ⟨N9, hN9⟩ : ∃ N, N = r.length := ⟨_, rfl⟩
  obtain ⟨M9, hM9⟩ : ∃ N, N = dd.length := ⟨_, rfl⟩
  rw [← hN9] at hl1 ho1 HAP ⊢
  rw [← hM9] at hl2 ho2 HAP ⊢
  have HN := Lib.hid hN9.symm
  have HM := Lib.hid hM9.symm
  have HO := Lib.hid ho1
  have HU := Lib.hid ho2
  clear ho1 ho2 hN9 hM9
  have ehs0 := hs_1.out.cell 0
  have ehs1 := hs_1.out.cell 1
  have ehs2 := hs_1.out.cell 2
  have fhs0 := hs_1.out.free 0
  have fhs1 := hs_1.out.free 1
  have fhs2 := hs_1.out.free 2
  simp at ehs0 ehs1 ehs2
  go_wp2_with fail
  refine bodyPost_ret (v := .agg #[.bool s, .slice A9 N9 c9, .slice B9 M9 d9]) (by simp [results, Tryz.results59, ehs0, ehs1, ehs2, go_sem]) rfl ?_
  exact ratEnd_store hs_1.out (by omega) BW_1.out HQ.out HN.out HM.out (by omega) (by omega) HO.out (by omega) HU.out (by omega) HAP.out
end Go.Proofs.YtmclfoahfifmfaaGreat
namespace Go.Proofs.YtmclfoahfifmfaaGreat
set_option maxRecDepth 100000
open Go.RowKit

def PairEnd (rs1 rs2 : List RD) (w w' : World) (e : Ending) : Prop := ∃ b, e = .returned (.bool b) ∧ (b = true ↔ PairOk rs1 rs2) ∧ Below w.heap.size w w'
def BadEnd (ds : List Int) (w w' : World) (e : Ending) : Prop := ∃ b, e = .returned (.bool b) ∧ (b = true ↔ ds = []) ∧ Below w.heap.size w w'
set_option maxHeartbeats 800000 in
theorem spec_l05Bad (g : Bool) (A : Option Addr) (n c : Nat) (B : Option Addr) (m d : Nat) (ds : List Int) (w : World) (hm : ds.length = m) (_hb : m ≤ 1048576) :
    Calls Tryz.prog 56 #[.agg #[.bool g, .slice A n c, .slice B m d]] w fun e w' => BadEnd ds w w' e := by
  obtain ⟨t, ht⟩ : ∃ t, ((m : Int) == 0) = t := ⟨_, rfl⟩
  have HQ : Hid (t = true ↔ ds = []) := by
    unfold Hid
    rw [← ht, beq_iff_eq]
    exact ⟨fun h => List.eq_nil_of_length_eq_zero (by omega), fun h => by rw [h] at hm; simp at hm; omega⟩
  clear hm
  go_enter Tryz.func56, Tryz.ntmps56
  go_wp2_with fail
  go_ret
  exact ⟨t, rfl, HQ.out, (Below.refl _ _).alloc (Nat.le_refl _) _⟩
def FineEnd (rs : List RD) (w w' : World) (e : Ending) : Prop := ∃ b, e = .returned (.bool b) ∧ (b = true ↔ ∀ r ∈ rs, r.ok) ∧ Below w.heap.size w w'
theorem good_nil {r : RD} (h : r.ok ∨ r = RD.zero) : r.ds = [] ↔ ¬ r.ok := by
  rcases h with h | rfl
  · refine ⟨fun e => ?_, fun hn => absurd h hn⟩
    have h4 := h.2.2.1
    rw [e] at h4
    simp [val] at h4
  · exact ⟨fun _ => RD.zero_bad, fun _ => rfl⟩
set_option maxHeartbeats 1600000 in
theorem spec_l05Fine (A : Option Addr) (n c : Nat) (rs : List RD) (w : World) (h : InV w A n rs) (hg : Goods rs) :
    Calls Tryz.prog 38 #[.slice A n c] w fun e w' => FineEnd rs w w' e := by
  have hn := h.2.1
  have HV := Lib.hid h
  have HG := Lib.hid hg
  clear h hg
  go_enter Tryz.func38, Tryz.ntmps38
  go_wp2_with fail
  go_loopw [7] (fun x wr => ∃ i : Nat, i ≤ n ∧ x = .int .i64 i ∧ Hid (OkTo rs i) ∧ Hid (Below w.heap.size w wr)) (fun x _ => n - (intOf x).toNat)
  case atStart => exact ⟨0, Nat.zero_le _, rfl, OkTo.zero _, Below.refl _ _⟩
  case round =>
    obtain ⟨i, hle, rfl, hk, hb⟩ := hrel
    by_cases hlt : i < n
    · obtain ⟨b, o, rfl, hbs, r, hr, A1, n1, c1, B1, m1, d1, hat, i1, _, j1, _⟩ := (HV.out.below hb.out).at_ i hlt
      obtain ⟨e0, e1, e2⟩ := hat
      have hi0 : (0 : Int) ≤ (i : Int) := by omega
      have hi1 : (i : Int) < (n : Int) := by omega
      have HR := Lib.hid hr
      have HJ := Lib.hid j1
      clear i1 j1 hr
      go_wp2_with fail
      have HB := Lib.hid (hb.out.alloc hb.out.size (.cells #[.bool r.g, .slice A1 n1 c1, .slice B1 m1 d1] 60))
      refine (spec_l05Bad r.g A1 n1 c1 B1 m1 d1 r.ds _ HJ.out.1 HJ.out.2.1).mono ?_
      rintro e w1 ⟨q, rfl, hq, hb1⟩
      have HB2 := Lib.hid (HB.out.trans (hb1.mono HB.out.size))
      have hgd := good_nil (HG.out.2 r (List.mem_of_getElem? HR.out))
      clear hb1
      cases q
      · have HK := Lib.hid (hk.out.succ HR.out (Classical.byContradiction fun hn => by have h1 := hq.2 (hgd.2 hn); cases h1))
        clear hq hgd
        go_wp2_with fail
        go_roundw
        case rel => exact ⟨i + 1, by omega, by go_num, HK, HB2⟩
        case measure => simp [intOf]; omega
      · have HF : Hid (FineEnd rs w w1 (.returned (.bool false))) := ⟨false, rfl, by simp; exact ⟨r, List.mem_of_getElem? HR.out, hgd.1 (hq.1 rfl)⟩, HB2.out⟩
        clear hq hgd
        go_wp2_with fail
        go_ret
        exact HF.out
    · obtain rfl : i = n := by omega
      have HF : Hid (FineEnd rs w wr (.returned (.bool true))) := ⟨true, rfl, by simp; exact fun r hr => hk.out r (by rw [List.take_of_length_le (by rw [HV.out.1]; omega)]; exact hr), hb.out⟩
      go_wp2_with fail
      go_ret
      exact HF.out
def DoneEnd (A : Option Addr) (n c : Nat) (rs : List RD) (w w' : World) (e : Ending) : Prop :=
  (((∀ r ∈ rs, r.ok) ∧ e = .returned (.tuple #[.slice A n c, .bool true])) ∨ (¬ (∀ r ∈ rs, r.ok) ∧ e = .returned (.tuple #[.slice none 0 0, .bool false]))) ∧ Below w.heap.size w w'
set_option maxHeartbeats 800000 in
theorem spec_l05Done (A : Option Addr) (n c : Nat) (rs : List RD) (w : World) (h : InV w A n rs) (hg : Goods rs) :
    Calls Tryz.prog 29 #[.slice A n c] w fun e w' => DoneEnd A n c rs w w' e := by
  have HV := Lib.hid h
  have HG := Lib.hid hg
  clear h hg
  go_enter Tryz.func29, Tryz.ntmps29
  go_wp2_with fail
  refine (spec_l05Fine A n c rs _ HV.out HG.out).mono ?_
  rintro e w1 ⟨b, rfl, hb, hw⟩
  cases b
  · have HF : Hid (DoneEnd A n c rs w w1 (.returned (.tuple #[.slice none 0 0, .bool false]))) := ⟨.inr ⟨fun h => (by have h1 := hb.2 h; cases h1), rfl⟩, hw⟩
    clear hb hw
    go_wp2_with fail
    go_ret2
    exact HF.out
  · have HF : Hid (DoneEnd A n c rs w w1 (.returned (.tuple #[.slice A n c, .bool true]))) := ⟨.inl ⟨hb.1 rfl, rfl⟩, hw⟩
    clear hb hw
    go_wp2_with fail
    go_ret2
    exact HF.out
end Go.Proofs.YtmclfoahfifmfaaGreat
namespace Go.Proofs.YtmclfoahfifmfaaGreat
set_option maxRecDepth 100000
open Go.RowKit

end Go.Proofs.YtmclfoahfifmfaaGreat
namespace Go.Proofs.YtmclfoahfifmfaaGreat
set_option maxRecDepth 100000
open Go.RowKit

def EqualVectorsIs (a b : List RD) (q : Bool) : Prop := q = true ↔ a = b
theorem equalVectors_unique {a b : List RD} {q q' : Bool} (h : EqualVectorsIs a b q) (h' : EqualVectorsIs a b q') : q = q' := by
  unfold EqualVectorsIs at h h'
  rw [Bool.eq_iff_iff, h, h']
def EqVEnd (rs1 rs2 : List RD) (w w' : World) (e : Ending) : Prop := ∃ b, e = .returned (.bool b) ∧ EqualVectorsIs rs1 rs2 b ∧ Below w.heap.size w w'
theorem eqv_no {a b : List RD} (h : a ≠ b) : EqualVectorsIs a b false := ⟨fun k => (by cases k), fun k => absurd k h⟩
theorem eqv_yes {a b : List RD} (h : a = b) : EqualVectorsIs a b true := ⟨fun _ => h, fun _ => rfl⟩
theorem rd_eq {r s : RD} {q : Bool} (h : RatEqualIs r.g r.xs r.ds s.g s.xs s.ds q) : q = true ↔ r = s := by
  unfold RatEqualIs at h
  rw [h]
  cases r; cases s
  simp
theorem take_eq_all {a b : List RD} {n : Nat} (h : a.take n = b.take n) (ha : a.length = n) (hb : b.length = n) : a = b := by
  rwa [List.take_of_length_le (by omega), List.take_of_length_le (by omega)] at h
theorem take_eq_succ {a b : List RD} {i : Nat} {r : RD} (h : a.take i = b.take i) (ha : a[i]? = some r) (hb : b[i]? = some r) : a.take (i + 1) = b.take (i + 1) := by
  obtain ⟨h1, e1⟩ := List.getElem?_eq_some_iff.1 ha
  obtain ⟨h2, e2⟩ := List.getElem?_eq_some_iff.1 hb
  rw [List.take_succ_eq_append_getElem h1, List.take_succ_eq_append_getElem h2, h, e1, e2]
/-- One of the results stored. -/
theorem store_one {E : TypeId} {w wr w2 : World} {n i : Nat} {zs ys : List Value} {u : Value} (ho : wr.ownsRow w.heap.size E 1 (.slice (some ⟨w.heap.size, 0, none⟩) n n) n (zs.take i ++ ys.drop i)) (hb : Below w.heap.size w wr) (hb2 : Below wr.heap.size wr w2) (hi : i < n)
    (hz : zs[i]? = some u) (hy : ys.length = n) :
    (∃ old, w2.cell? ⟨w.heap.size, i, none⟩ = some old ∧ w2.frozen? ⟨w.heap.size, i, none⟩ = false) ∧ (w2.setCell ⟨w.heap.size, i, none⟩ u).ownsRow w.heap.size E 1 (.slice (some ⟨w.heap.size, 0, none⟩) n n) n (zs.take (i + 1) ++ ys.drop (i + 1)) ∧
      Below w.heap.size w (w2.setCell ⟨w.heap.size, i, none⟩ u) := by
  have ho2 := own_below ho hb2
  have hbb := hb.trans (hb2.mono hb.size)
  obtain ⟨hix, he⟩ := List.getElem?_eq_some_iff.1 hz
  have hiy : i < ys.length := by omega
  have hst := ho2.stored i u
  rw [← he, copied_set zs ys i hix hiy, he] at hst
  refine ⟨⟨_, ho2.cellAt i (by omega) |>.trans (List.getElem?_eq_getElem (by simp; omega)), ho2.frozenAt i⟩, hst.1, below_marked hbb ho2 hst.2 (Nat.le_refl _) hbb.size⟩
end Go.Proofs.YtmclfoahfifmfaaGreat
namespace Go.Proofs.YtmclfoahfifmfaaGreat
set_option maxRecDepth 100000
open Go.RowKit

end Go.Proofs.YtmclfoahfifmfaaGreat
