/- Contracts of vectors, by the model: made of zeros. -/
import Derived.Test.YtdehcddjkcpnfaaGreatGV
import Derived.Test.YtdehcddjkcpnfaaGreatGF
namespace Go.Proofs.YtdehcddjkcpnfaaGreat
set_option maxRecDepth 100000
open Go.RowKit

set_option maxHeartbeats 800000 in
theorem spec_l05Zero (w : World) :
    Calls Tryz.prog 205 #[] w fun e w' => RatEnd (RatFromIntIs 0) w w' e := by
  obtain ⟨W0, hW0⟩ : ∃ W, W = (w.alloc (.cells #[.bool false, .slice none 0 0, .slice none 0 0] 30)) := ⟨_, rfl⟩
  have hs_0 : Hid (Box W0 (w.heap.size) 30 #[.bool false, .slice none 0 0, .slice none 0 0]) := by rw [hW0]; exact (Box.at' (by simp))
  have BW_0 : Hid (Below w.heap.size w W0) := by rw [hW0]; exact ((Below.refl w.heap.size w).alloc (by simp) _)
  have hsz0 : w.heap.size + 1 ≤ W0.heap.size := by rw [hW0]; simp
  go_enter Tryz.func205, Tryz.ntmps205
  go_wp2_with fail
  rw [← hW0]
  clear hW0
  refine (spec_ratFromInt 0 _ ⟨by omega, by omega⟩).mono ?_
  rintro e wz ⟨s, r, v, dd, u, rfl, hq, ⟨hl1, ho1⟩, ⟨hl2, ho2⟩, hap, hb⟩
  have HQ : Hid (RatFromIntIs 0 s r dd) := hq
  have HAP := Lib.hid hap
  have hszl := BW_0.out.size
  have hs_1 := Lib.hid (hs_0.out.below hb hs_0.out.lt)
  have BW_1 := Lib.hid (BW_0.out.trans (hb.mono BW_0.out.size))
  clear hb
  clear hq hap
  obtain ⟨A9, c9, rfl⟩ := own_slice ho1
  obtain ⟨B9, d9, rfl⟩ := own_slice ho2
  obtain ⟨N9, hN9⟩ : ∃ N, N = r.length := ⟨_, rfl⟩
  obtain ⟨M9, hM9⟩ : ∃ N, N = dd.length := ⟨_, rfl⟩
  rw [← hN9] at hl1 ho1 HAP ⊢
  rw [← hM9] at hl2 ho2 HAP ⊢
  have HN := Lib.hid hN9.symm
  have HM := Lib.hid hM9.symm
  have HO := Lib.hid ho1
  have HU := Lib.hid ho2
  clear ho1 ho2 hN9 hM9
  have ehs0 := hs_1.out.cell 0
  have ehs1 := hs_1.out.cell 1
  have ehs2 := hs_1.out.cell 2
  have fhs0 := hs_1.out.free 0
  have fhs1 := hs_1.out.free 1
  have fhs2 := hs_1.out.free 2
  simp at ehs0 ehs1 ehs2
  go_wp2_with fail
  refine bodyPost_ret (v := .agg #[.bool s, .slice A9 N9 c9, .slice B9 M9 d9]) (by simp [results, Tryz.results205, ehs0, ehs1, ehs2, go_sem]) rfl ?_
  exact ratEnd_store hs_1.out (by omega) BW_1.out HQ.out HN.out HM.out (by omega) (by omega) HO.out (by omega) HU.out (by omega) HAP.out
set_option maxHeartbeats 1600000 in
theorem spec_l05Zeros (k : Nat) (w : World) (hk : k ≤ 1024) :
    Calls Tryz.prog 236 #[.int .i64 k] w fun e w' => VecEnd (fun r => r = List.replicate k (rint 0)) w w' e := by
  obtain ⟨i0, hi, hz0, hz1, hz2⟩ := info_parts Tryz.infoR
  obtain ⟨zs, hzs⟩ : ∃ zs, zs = List.replicate k (rint 0) := ⟨_, rfl⟩
  have HZ := Lib.hid hzs
  clear hzs
  go_enter Tryz.func236, Tryz.ntmps236
  go_wp2_with fail
  go_loopw [3] (fun x wr => ∃ (i : Nat) (L : List El) (A : Option Addr) (c : Nat), i ≤ k ∧ x = .slice A i c ∧ Hid (OwnV wr w.heap.size (.slice A i c) i L) ∧ Hid (Has L (zs.take i)) ∧ Hid (Below w.heap.size w wr)) (fun x _ => k - (match x with | .slice _ n _ => n | _ => 0))
  case atStart => exact ⟨0, [], _, _, Nat.zero_le _, rfl, OwnV.empty _ _, by rw [List.take_zero]; exact trivial, (Below.refl _ _).alloc (Nat.le_refl _) _⟩
  case round =>
    obtain ⟨i, L, A, c, hle, rfl, ho, hh, hb⟩ := hrel
    by_cases hlt : (i : Int) < (k : Int)
    · go_wp2_with fail
      refine (spec_l05Zero _).mono ?_
      rintro e w2 ⟨g, r, v, d, u, rfl, hq, h1, h2, hap, hb2⟩
      obtain ⟨A2, c2, rfl⟩ := own_slice h1.2
      obtain ⟨B2, d2, rfl⟩ := own_slice h2.2
      obtain ⟨s1, s2, s3, s4⟩ := new_el (g := g) ho.out hb.out hb2 h1 h2 hap
      have HH := Lib.hid (has_append (v := .slice A2 r.length c2) (u := .slice B2 d.length d2) hh.out (show zs[i]? = some ⟨g, r, d⟩ by rw [HZ.out, rint_of hq, List.getElem?_replicate, if_pos (by omega)]))
      have HO := Lib.hid s1
      have HE := Lib.hid s2
      have HF := Lib.hid s3
      have HB := Lib.hid s4
      clear hq h1 h2 hap hb2 s1 s2 s3 s4
      go_wp2_with (at_builtin; refine wpList_append_el rfl _ _ 26 rfl w.heap.size i0 (.agg #[.bool false, .slice none 0 0, .slice none 0 0]) 56 Tryz.underlying26 hi hz0 hz1 hz2 rfl _ i L rfl HO.out ⟨g, .slice A2 r.length c2, r.length, r.map (.int .i64), .slice B2 d.length d2, d.length, d.map (.int .i64)⟩ rfl HE.out HF.out rfl rfl (by unfold maxLen; omega) (by omega) HB.out.size _ ?_)
      intro V' w3 s1 hg
      obtain ⟨A3, c3, rfl⟩ := s1.slice
      have HO3 := Lib.hid s1
      have HB3 := Lib.hid (below_app HB.out HO.out hg)
      clear s1 hg
      go_wp2_with fail
      go_roundw
      case rel => exact ⟨i + 1, _, A3, c3, by omega, rfl, HO3, HH, HB3⟩
      case measure => simp; omega
    · obtain rfl : i = k := by omega
      have HH : Hid (Has L zs) := by have := hh.out; rwa [List.take_of_length_le (by rw [HZ.out]; simp)] at this
      have HF : Hid (VecEnd (fun r => r = List.replicate i (rint 0)) w wr (.returned (.slice A i c))) := ⟨zs, _, rfl, HZ.out, resV_mk (by rw [HZ.out]; exact rep_goods (rint_good 0) hk) (by rw [HZ.out]; simp) ho.out HH.out, hb.out⟩
      go_wp2_with fail
      go_ret
      exact HF.out
end Go.Proofs.YtdehcddjkcpnfaaGreat
namespace Go.Proofs.YtdehcddjkcpnfaaGreat
set_option maxRecDepth 100000
open Go.RowKit

def PairEnd (rs1 rs2 : List RD) (w w' : World) (e : Ending) : Prop := ∃ b, e = .returned (.bool b) ∧ (b = true ↔ PairOk rs1 rs2) ∧ Below w.heap.size w w'
def BadEnd (ds : List Int) (w w' : World) (e : Ending) : Prop := ∃ b, e = .returned (.bool b) ∧ (b = true ↔ ds = []) ∧ Below w.heap.size w w'
set_option maxHeartbeats 800000 in
theorem spec_l05Bad (g : Bool) (A : Option Addr) (n c : Nat) (B : Option Addr) (m d : Nat) (ds : List Int) (w : World) (hm : ds.length = m) (_hb : m ≤ 1048576) :
    Calls Tryz.prog 144 #[.agg #[.bool g, .slice A n c, .slice B m d]] w fun e w' => BadEnd ds w w' e := by
  obtain ⟨t, ht⟩ : ∃ t, ((m : Int) == 0) = t := ⟨_, rfl⟩
  have HQ : Hid (t = true ↔ ds = []) := by
    unfold Hid
    rw [← ht, beq_iff_eq]
    exact ⟨fun h => List.eq_nil_of_length_eq_zero (by omega), fun h => by rw [h] at hm; simp at hm; omega⟩
  clear hm
  go_enter Tryz.func144, Tryz.ntmps144
  go_wp2_with fail
  go_ret
  exact ⟨t, rfl, HQ.out, (Below.refl _ _).alloc (Nat.le_refl _) _⟩
def FineEnd (rs : List RD) (w w' : World) (e : Ending) : Prop := ∃ b, e = .returned (.bool b) ∧ (b = true ↔ ∀ r ∈ rs, r.ok) ∧ Below w.heap.size w w'
theorem good_nil {r : RD} (h : r.ok ∨ r = RD.zero) : r.ds = [] ↔ ¬ r.ok := by
  rcases h with h | rfl
  · refine ⟨fun e => ?_, fun hn => absurd h hn⟩
    have h4 := h.2.2.1
    rw [e] at h4
    simp [val] at h4
  · exact ⟨fun _ => RD.zero_bad, fun _ => rfl⟩
set_option maxHeartbeats 1600000 in
theorem spec_l05Fine (A : Option Addr) (n c : Nat) (rs : List RD) (w : World) (h : InV w A n rs) (hg : Goods rs) :
    Calls Tryz.prog 147 #[.slice A n c] w fun e w' => FineEnd rs w w' e := by
  have hn := h.2.1
  have HV := Lib.hid h
  have HG := Lib.hid hg
  clear h hg
  go_enter Tryz.func147, Tryz.ntmps147
  go_wp2_with fail
  go_loopw [7] (fun x wr => ∃ i : Nat, i ≤ n ∧ x = .int .i64 i ∧ Hid (OkTo rs i) ∧ Hid (Below w.heap.size w wr)) (fun x _ => n - (intOf x).toNat)
  case atStart => exact ⟨0, Nat.zero_le _, rfl, OkTo.zero _, Below.refl _ _⟩
  case round =>
    obtain ⟨i, hle, rfl, hk, hb⟩ := hrel
    by_cases hlt : i < n
    · obtain ⟨b, o, rfl, hbs, r, hr, A1, n1, c1, B1, m1, d1, hat, i1, _, j1, _⟩ := (HV.out.below hb.out).at_ i hlt
      obtain ⟨e0, e1, e2⟩ := hat
      have hi0 : (0 : Int) ≤ (i : Int) := by omega
      have hi1 : (i : Int) < (n : Int) := by omega
      have HR := Lib.hid hr
      have HJ := Lib.hid j1
      clear i1 j1 hr
      go_wp2_with fail
      have HB := Lib.hid (hb.out.alloc hb.out.size (.cells #[.bool r.g, .slice A1 n1 c1, .slice B1 m1 d1] 30))
      refine (spec_l05Bad r.g A1 n1 c1 B1 m1 d1 r.ds _ HJ.out.1 HJ.out.2.1).mono ?_
      rintro e w1 ⟨q, rfl, hq, hb1⟩
      have HB2 := Lib.hid (HB.out.trans (hb1.mono HB.out.size))
      have hgd := good_nil (HG.out.2 r (List.mem_of_getElem? HR.out))
      clear hb1
      cases q
      · have HK := Lib.hid (hk.out.succ HR.out (Classical.byContradiction fun hn => by have h1 := hq.2 (hgd.2 hn); cases h1))
        clear hq hgd
        go_wp2_with fail
        go_roundw
        case rel => exact ⟨i + 1, by omega, by go_num, HK, HB2⟩
        case measure => simp [intOf]; omega
      · have HF : Hid (FineEnd rs w w1 (.returned (.bool false))) := ⟨false, rfl, by simp; exact ⟨r, List.mem_of_getElem? HR.out, hgd.1 (hq.1 rfl)⟩, HB2.out⟩
        clear hq hgd
        go_wp2_with fail
        go_ret
        exact HF.out
    · obtain rfl : i = n := by omega
      have HF : Hid (FineEnd rs w wr (.returned (.bool true))) := ⟨true, rfl, by simp; exact fun r hr => hk.out r (by rw [List.take_of_length_le (by rw [HV.out.1]; omega)]; exact hr), hb.out⟩
      go_wp2_with fail
      go_ret
      exact HF.out
def DoneEnd (A : Option Addr) (n c : Nat) (rs : List RD) (w w' : World) (e : Ending) : Prop :=
  (((∀ r ∈ rs, r.ok) ∧ e = .returned (.tuple #[.slice A n c, .bool true])) ∨ (¬ (∀ r ∈ rs, r.ok) ∧ e = .returned (.tuple #[.slice none 0 0, .bool false]))) ∧ Below w.heap.size w w'
end Go.Proofs.YtdehcddjkcpnfaaGreat
namespace Go.Proofs.YtdehcddjkcpnfaaGreat
set_option maxRecDepth 100000
open Go.RowKit

set_option maxHeartbeats 3200000 in
theorem spec_l05SubG (g1 : Bool) (A1 : Option Addr) (n1 c1 : Nat) (xs : List Int) (B1 : Option Addr) (m1 d1 : Nat) (es : List Int) (g2 : Bool) (A2 : Option Addr) (n2 c2 : Nat) (ys : List Int) (B2 : Option Addr) (m2 d2 : Nat) (fs : List Int) (w : World) (h1 : InI w A1 n1 xs) (r1 : Room A1 n1 c1) (k1 : InI w B1 m1 es) (s1 : Room B1 m1 d1) (h2 : InI w A2 n2 ys) (r2 : Room A2 n2 c2) (k2 : InI w B2 m2 fs) (s2 : Room B2 m2 d2) (q1 : GRat g1 xs es) (q2 : GRat g2 ys fs) :
    Calls Tryz.prog 142 #[.agg #[.bool g1, .slice A1 n1 c1, .slice B1 m1 d1], .agg #[.bool g2, .slice A2 n2 c2, .slice B2 m2 d2]] w fun e w' => RatEnd (RatSubIs g1 xs es g2 ys fs) w w' e := by
  have hn1 := h1.2.1
  have hn2 := h2.2.1
  have hm1 := k1.2.1
  have hm2 := k2.2.1
  obtain ⟨W0, hW0⟩ : ∃ W, W = (((w.alloc (.cells #[.bool g1, .slice A1 n1 c1, .slice B1 m1 d1] 30)).alloc (.cells #[.bool g2, .slice A2 n2 c2, .slice B2 m2 d2] 30)).alloc (.cells #[.bool false, .slice none 0 0, .slice none 0 0] 30)) := ⟨_, rfl⟩
  have hy0_0 : Hid (Box W0 (w.heap.size) 30 #[.bool g1, .slice A1 n1 c1, .slice B1 m1 d1]) := by rw [hW0]; exact (((Box.at' (by simp)).alloc _).alloc _)
  have hy1_0 : Hid (Box W0 (w.heap.size + 1) 30 #[.bool g2, .slice A2 n2 c2, .slice B2 m2 d2]) := by rw [hW0]; exact ((Box.at' (by simp)).alloc _)
  have hs_0 : Hid (Box W0 (w.heap.size + 1 + 1) 30 #[.bool false, .slice none 0 0, .slice none 0 0]) := by rw [hW0]; exact (Box.at' (by simp))
  have BW_0 : Hid (Below w.heap.size w W0) := by rw [hW0]; exact ((((Below.refl w.heap.size w).alloc (by simp) _).alloc (by simp) _).alloc (by simp; omega) _)
  have hsz0 : w.heap.size + 1 + 1 + 1 ≤ W0.heap.size := by rw [hW0]; simp
  have HI1 := Lib.hid (h1.below BW_0.out)
  have HI2 := Lib.hid (h2.below BW_0.out)
  have HJ1 := Lib.hid (k1.below BW_0.out)
  have HJ2 := Lib.hid (k2.below BW_0.out)
  have R1 := Lib.hid r1
  have R2 := Lib.hid r2
  have S1 := Lib.hid s1
  have S2 := Lib.hid s2
  clear h1 h2 k1 k2 r1 r2 s1 s2
  go_enter Tryz.func142, Tryz.ntmps142
  go_wp2_with fail
  rw [← hW0]
  clear hW0
  have K1 := Lib.hid q1
  have K2 := Lib.hid q2
  clear q1 q2
  have hy0_1 := Lib.hid hy0_0.out.drew
  have hy1_1 := Lib.hid hy1_0.out.drew
  have hs_1 := Lib.hid hs_0.out.drew
  have BW_1 := Lib.hid BW_0.out.drew
  replace HI1 := Lib.hid HI1.out.drew
  replace HI2 := Lib.hid HI2.out.drew
  replace HJ1 := Lib.hid HJ1.out.drew
  replace HJ2 := Lib.hid HJ2.out.drew
  have cvhy00 : Hid ((#[.bool g1, .slice A1 n1 c1, .slice B1 m1 d1] : Array Value)[0]? = some (.bool g1)) := rfl
  have cvhy01 : Hid ((#[.bool g1, .slice A1 n1 c1, .slice B1 m1 d1] : Array Value)[1]? = some (.slice A1 n1 c1)) := rfl
  have cvhy02 : Hid ((#[.bool g1, .slice A1 n1 c1, .slice B1 m1 d1] : Array Value)[2]? = some (.slice B1 m1 d1)) := rfl
  have cvhy10 : Hid ((#[.bool g2, .slice A2 n2 c2, .slice B2 m2 d2] : Array Value)[0]? = some (.bool g2)) := rfl
  have cvhy11 : Hid ((#[.bool g2, .slice A2 n2 c2, .slice B2 m2 d2] : Array Value)[1]? = some (.slice A2 n2 c2)) := rfl
  have cvhy12 : Hid ((#[.bool g2, .slice A2 n2 c2, .slice B2 m2 d2] : Array Value)[2]? = some (.slice B2 m2 d2)) := rfl
  go_region_held3 (fun w' => w'.cell? ⟨w.heap.size, 0, none⟩ = some (.bool g1) ∧ w'.cell? ⟨w.heap.size, 1, none⟩ = some (.slice A1 n1 c1) ∧ w'.cell? ⟨w.heap.size, 2, none⟩ = some (.slice B1 m1 d1) ∧ w'.cell? ⟨w.heap.size + 1, 0, none⟩ = some (.bool g2) ∧ w'.cell? ⟨w.heap.size + 1, 1, none⟩ = some (.slice A2 n2 c2) ∧ w'.cell? ⟨w.heap.size + 1, 2, none⟩ = some (.slice B2 m2 d2)) (first | with_reducible exact ⟨cellS hy0_3 cvhy00, cellS hy0_3 cvhy01, cellS hy0_3 cvhy02, cellS hy1_3 cvhy10, cellS hy1_3 cvhy11, cellS hy1_3 cvhy12⟩ | with_reducible exact ⟨cellS (hFar (hFar (hFar hy0_3 (by dsimp only; omega) _) (by dsimp only; omega) _) (by dsimp only; omega) _) cvhy00, cellS (hFar (hFar (hFar hy0_3 (by dsimp only; omega) _) (by dsimp only; omega) _) (by dsimp only; omega) _) cvhy01, cellS (hFar (hFar (hFar hy0_3 (by dsimp only; omega) _) (by dsimp only; omega) _) (by dsimp only; omega) _) cvhy02, cellS (hFar (hFar (hFar hy1_3 (by dsimp only; omega) _) (by dsimp only; omega) _) (by dsimp only; omega) _) cvhy10, cellS (hFar (hFar (hFar hy1_3 (by dsimp only; omega) _) (by dsimp only; omega) _) (by dsimp only; omega) _) cvhy11, cellS (hFar (hFar (hFar hy1_3 (by dsimp only; omega) _) (by dsimp only; omega) _) (by dsimp only; omega) _) cvhy12⟩ | with_reducible exact ⟨cellS hy0_2 cvhy00, cellS hy0_2 cvhy01, cellS hy0_2 cvhy02, cellS hy1_2 cvhy10, cellS hy1_2 cvhy11, cellS hy1_2 cvhy12⟩ | with_reducible exact ⟨cellS hy0_1 cvhy00, cellS hy0_1 cvhy01, cellS hy0_1 cvhy02, cellS hy1_1 cvhy10, cellS hy1_1 cvhy11, cellS hy1_1 cvhy12⟩) (first | (go_at_call 86; refine (spec_l04AddG g1 A1 n1 c1 xs B1 m1 d1 es s0 A0 r0.length c0 r0 B0 dd0.length d0 dd0 _ HI1.out R1.out HJ1.out S1.out ⟨rfl, by omega, Reads.of_own HO1.out, limbs_bd HK0.out.nr⟩ (room_own HO1.out) ⟨rfl, by omega, Reads.of_own HO2.out, limbs_bd HK0.out.dr⟩ (room_own HO2.out) K1.out HK0.out).mono ?_; rintro e wz ⟨s, r, v, dd, u, rfl, hq, ⟨hl3, ho1⟩, ⟨hl4, ho2⟩, hap, hb⟩; have HQ := Lib.hid (sub_of_addG K2.out hq HK0.out HV0.out); have HAP := Lib.hid hap; have hszl := BW_2.out.size; have hy0_3 := Lib.hid (hy0_2.out.below hb hy0_2.out.lt); have hy1_3 := Lib.hid (hy1_2.out.below hb hy1_2.out.lt); have hs_3 := Lib.hid (hs_2.out.below hb hs_2.out.lt); have BW_3 := Lib.hid (BW_2.out.trans (hb.mono BW_2.out.size)); clear hb; clear hq hap; obtain ⟨A9, c9, rfl⟩ := own_slice ho1; obtain ⟨B9, d9, rfl⟩ := own_slice ho2; obtain ⟨N9, hN9⟩ : ∃ N, N = r.length := ⟨_, rfl⟩; obtain ⟨M9, hM9⟩ : ∃ N, N = dd.length := ⟨_, rfl⟩; rw [← hN9] at hl3 ho1 HAP ⊢; rw [← hM9] at hl4 ho2 HAP ⊢; have HN := Lib.hid hN9.symm; have HM := Lib.hid hM9.symm; have HO := Lib.hid ho1; have HU := Lib.hid ho2; clear ho1 ho2 hN9 hM9; have ehs0 := hs_3.out.cell 0; have ehs1 := hs_3.out.cell 1; have ehs2 := hs_3.out.cell 2; have fhs0 := hs_3.out.free 0; have fhs1 := hs_3.out.free 1; have fhs2 := hs_3.out.free 2; simp at ehs0 ehs1 ehs2) | (go_at_call 73; refine (spec_l04NegG g2 A2 n2 c2 ys B2 m2 d2 fs _ HI2.out R2.out HJ2.out S2.out K2.out).mono ?_; rintro e w4 ⟨s0, r0, v0, dd0, u0, rfl, hq, ⟨hl1, ho1⟩, ⟨hl2, ho2⟩, hap, hb⟩; obtain ⟨rfl, rfl, hk0, hv0⟩ := neg_okG K2.out hq; have HK0 := Lib.hid hk0; have HV0 := Lib.hid hv0; have hy0_2 := Lib.hid (hy0_1.out.below hb hy0_1.out.lt); have hy1_2 := Lib.hid (hy1_1.out.below hb hy1_1.out.lt); have hs_2 := Lib.hid (hs_1.out.below hb hs_1.out.lt); have BW_2 := Lib.hid (BW_1.out.trans (hb.mono BW_1.out.size)); replace HI1 := Lib.hid (HI1.out.below hb); replace HJ1 := Lib.hid (HJ1.out.below hb); clear hb; obtain ⟨A0, c0, rfl⟩ := own_slice ho1; obtain ⟨B0, d0, rfl⟩ := own_slice ho2; have hle1 : r0.length ≤ 24 := hk0.short.1; have hle2 : dd0.length ≤ 24 := hk0.short.2; have HO1 := Lib.hid ho1; have HO2 := Lib.hid ho2; clear hq hk0 hv0 ho1 ho2 hap))
  go_wp2_with fail
  refine bodyPost_ret (v := .agg #[.bool s, .slice A9 N9 c9, .slice B9 M9 d9]) (by simp [results, Tryz.results142, ehs0, ehs1, ehs2, go_sem]) rfl ?_
  exact ratEnd_store hs_3.out (by omega) BW_3.out HQ.out HN.out HM.out (by omega) (by omega) HO.out (by omega) HU.out (by omega) HAP.out
end Go.Proofs.YtdehcddjkcpnfaaGreat
namespace Go.Proofs.YtdehcddjkcpnfaaGreat
set_option maxRecDepth 100000
open Go.RowKit

def EqualVectorsIs (a b : List RD) (q : Bool) : Prop := q = true ↔ a = b
def EqVEnd (rs1 rs2 : List RD) (w w' : World) (e : Ending) : Prop := ∃ b, e = .returned (.bool b) ∧ EqualVectorsIs rs1 rs2 b ∧ Below w.heap.size w w'
theorem eqv_no {a b : List RD} (h : a ≠ b) : EqualVectorsIs a b false := ⟨fun k => (by cases k), fun k => absurd k h⟩
theorem eqv_yes {a b : List RD} (h : a = b) : EqualVectorsIs a b true := ⟨fun _ => h, fun _ => rfl⟩
theorem rd_eq {r s : RD} {q : Bool} (h : RatEqualIs r.g r.xs r.ds s.g s.xs s.ds q) : q = true ↔ r = s := by
  unfold RatEqualIs at h
  rw [h]
  cases r; cases s
  simp
theorem take_eq_all {a b : List RD} {n : Nat} (h : a.take n = b.take n) (ha : a.length = n) (hb : b.length = n) : a = b := by
  rwa [List.take_of_length_le (by omega), List.take_of_length_le (by omega)] at h
theorem take_eq_succ {a b : List RD} {i : Nat} {r : RD} (h : a.take i = b.take i) (ha : a[i]? = some r) (hb : b[i]? = some r) : a.take (i + 1) = b.take (i + 1) := by
  obtain ⟨h1, e1⟩ := List.getElem?_eq_some_iff.1 ha
  obtain ⟨h2, e2⟩ := List.getElem?_eq_some_iff.1 hb
  rw [List.take_succ_eq_append_getElem h1, List.take_succ_eq_append_getElem h2, h, e1, e2]
/-- One of the results stored. -/
theorem store_one {E : TypeId} {w wr w2 : World} {n i : Nat} {zs ys : List Value} {u : Value} (ho : wr.ownsRow w.heap.size E 1 (.slice (some ⟨w.heap.size, 0, none⟩) n n) n (zs.take i ++ ys.drop i)) (hb : Below w.heap.size w wr) (hb2 : Below wr.heap.size wr w2) (hi : i < n)
    (hz : zs[i]? = some u) (hy : ys.length = n) :
    (∃ old, w2.cell? ⟨w.heap.size, i, none⟩ = some old ∧ w2.frozen? ⟨w.heap.size, i, none⟩ = false) ∧ (w2.setCell ⟨w.heap.size, i, none⟩ u).ownsRow w.heap.size E 1 (.slice (some ⟨w.heap.size, 0, none⟩) n n) n (zs.take (i + 1) ++ ys.drop (i + 1)) ∧
      Below w.heap.size w (w2.setCell ⟨w.heap.size, i, none⟩ u) := by
  have ho2 := own_below ho hb2
  have hbb := hb.trans (hb2.mono hb.size)
  obtain ⟨hix, he⟩ := List.getElem?_eq_some_iff.1 hz
  have hiy : i < ys.length := by omega
  have hst := ho2.stored i u
  rw [← he, copied_set zs ys i hix hiy, he] at hst
  refine ⟨⟨_, ho2.cellAt i (by omega) |>.trans (List.getElem?_eq_getElem (by simp; omega)), ho2.frozenAt i⟩, hst.1, below_marked hbb ho2 hst.2 (Nat.le_refl _) hbb.size⟩
set_option maxHeartbeats 1600000 in
theorem spec_equalVectors0 (A : Option Addr) (n c : Nat) (rs1 : List RD) (B : Option Addr) (m d : Nat) (rs2 : List RD) (w : World) (h1 : InV w A n rs1) (h2 : InV w B m rs2) :
    Calls Tryz.prog 200 #[.slice A n c, .slice B m d] w fun e w' => EqVEnd rs1 rs2 w w' e := by
  have hn := h1.2.1
  have hm := h2.2.1
  have H1 := Lib.hid h1
  have H2 := Lib.hid h2
  clear h1 h2
  by_cases hne : ((n : Int) != (m : Int)) = true
  · have HF : Hid (EqVEnd rs1 rs2 w w (.returned (.bool false))) := ⟨false, rfl, eqv_no (fun h => by have e1 := H1.out.1; have e2 := H2.out.1; rw [h] at e1; simp at hne; omega), Below.refl _ _⟩
    go_enter Tryz.func200, Tryz.ntmps200
    go_wp2_with fail
    go_ret
    exact HF.out
  obtain rfl : n = m := by simp at hne; omega
  go_enter Tryz.func200, Tryz.ntmps200
  go_wp2_with fail
  clear hne
  go_loopw [14] (fun x wr => ∃ i : Nat, i ≤ n ∧ x = .int .i64 i ∧ Hid (rs1.take i = rs2.take i) ∧ Hid (Below w.heap.size w wr)) (fun x _ => n - (intOf x).toNat)
  case atStart => exact ⟨0, Nat.zero_le _, rfl, rfl, Below.refl _ _⟩
  case round =>
    obtain ⟨i, hle, rfl, hk, hb⟩ := hrel
    by_cases hlt : i < n
    · obtain ⟨b1, o1, rfl, hb1, r1, hr1, A3, n3, c3, B3, m3, d3, at1, i1, ra1, j1, rb1⟩ := H1.out.atB hb.out i hlt
      obtain ⟨b2, o2, rfl, hb2, r2, hr2, A4, n4, c4, B4, m4, d4, at2, i2, ra2, j2, rb2⟩ := H2.out.atB hb.out i hlt
      have hi0 : (0 : Int) ≤ (i : Int) := by omega
      have hi1 : (i : Int) < (n : Int) := by omega
      have hw0 : w.heap.size ≤ wr.heap.size := hb.out.size
      have hbx : Below wr.heap.size wr (wr.alloc (.cells #[.bool r1.g, .slice A3 n3 c3, .slice B3 m3 d3] 30)).drew := ((Below.refl _ _).alloc (Nat.le_refl _) _).drew
      have P_0 : Hid (Box (wr.alloc (.cells #[.bool r1.g, .slice A3 n3 c3, .slice B3 m3 d3] 30)).drew wr.heap.size 30 #[.bool r1.g, .slice A3 n3 c3, .slice B3 m3 d3]) := (Box.new _ _ _).drew
      have Q_0 := Lib.hid (at2.below (Nat.lt_of_lt_of_le hb2 hw0) hbx)
      have I1 := Lib.hid (i1.below hbx)
      have I2 := Lib.hid (i2.below hbx)
      have J1 := Lib.hid (j1.below hbx)
      have J2 := Lib.hid (j2.below hbx)
      have RA1 := Lib.hid ra1
      have RA2 := Lib.hid ra2
      have RB1 := Lib.hid rb1
      have RB2 := Lib.hid rb2
      have HLT2 := Lib.hid hb2
      have HR1 := Lib.hid hr1
      have HR2 := Lib.hid hr2
      have BD := Lib.hid (hb.out.trans (hbx.mono hw0))
      obtain ⟨e10, e11, e12⟩ := at1
      clear at2 i1 i2 j1 j2 hr1 hr2 ra1 ra2 rb1 rb2 hbx
      go_wp2_with fail
      go_region_held3 (fun w' => w'.cell? ⟨wr.heap.size, 0, none⟩ = some (.bool r1.g) ∧ w'.cell? ⟨wr.heap.size, 1, none⟩ = some (.slice A3 n3 c3) ∧ w'.cell? ⟨wr.heap.size, 2, none⟩ = some (.slice B3 m3 d3) ∧ w'.cell? ⟨b2, o2 + i * 3, none⟩ = some (.bool r2.g) ∧ w'.cell? ⟨b2, o2 + i * 3 + 1, none⟩ = some (.slice A4 n4 c4) ∧ w'.cell? ⟨b2, o2 + i * 3 + 2, none⟩ = some (.slice B4 m4 d4)) (first | with_reducible exact box_at3 P_1 Q_1 | with_reducible exact box_at3 P_0 Q_0) (first | (go_at_call 235; (with_reducible refine (spec_ratEqual r1.g A3 n3 c3 r1.xs B3 m3 d3 r1.ds r2.g A4 n4 c4 r2.xs B4 m4 d4 r2.ds _ I1.out RA1.out J1.out RB1.out I2.out RA2.out J2.out RB2.out).mono ?_); rintro e w2 ⟨q, rfl, hq, hc2⟩; have HQ := Lib.hid (rd_eq hq); have P_1 := Lib.hid (P_0.out.below hc2 P_0.out.lt); have Q_1 := Lib.hid (Q_0.out.below (Nat.lt_of_lt_of_le HLT2.out BD.out.size) hc2); have HB := Lib.hid (BD.out.trans (hc2.mono BD.out.size)); clear hq hc2))
      cases q
      · have HF : Hid (EqVEnd rs1 rs2 w w2 (.returned (.bool false))) := ⟨false, rfl, eqv_no (fun h => by
          have e1 := HR1.out
          rw [h, HR2.out] at e1
          have h1 := HQ.out.2 (Option.some.inj e1).symm
          cases h1), HB.out⟩
        go_wp2_with fail
        go_ret
        exact HF.out
      · have HK : Hid (rs1.take (i + 1) = rs2.take (i + 1)) := by
          have e1 := HQ.out.1 rfl
          have e2 := HR2.out
          rw [← e1] at e2
          exact take_eq_succ hk.out HR1.out e2
        go_wp2_with fail
        go_roundw
        case rel => exact ⟨i + 1, by omega, by go_num, HK, HB⟩
        case measure => simp [intOf]; omega
    · obtain rfl : i = n := by omega
      have HF : Hid (EqVEnd rs1 rs2 w wr (.returned (.bool true))) := ⟨true, rfl, eqv_yes (take_eq_all hk.out H1.out.1 H2.out.1), hb.out⟩
      go_wp2_with fail
      go_ret
      exact HF.out
end Go.Proofs.YtdehcddjkcpnfaaGreat
namespace Go.Proofs.YtdehcddjkcpnfaaGreat
set_option maxRecDepth 100000
open Go.RowKit

set_option maxHeartbeats 1600000 in
theorem impl_zeroVector (n : Int) (w : World) (hn : -9223372036854775808 ≤ n ∧ n ≤ 9223372036854775807) :
    Calls Tryz.prog 47 #[.int .i64 n] w fun e w' => VecEnd (ZeroVectorIs n) w w' e := by
  obtain ⟨i0, hi, hz0, hz1, hz2⟩ := info_parts Tryz.infoR
  by_cases hneg : n < 0
  · have HF : Hid (VecEnd (ZeroVectorIs n) w w (.returned (.slice none 0 0))) := ⟨[], _, rfl, by unfold ZeroVectorIs; rw [if_neg (by omega)], resV_nil _ _, Below.refl _ _⟩
    go_enter Tryz.func47, Tryz.ntmps47
    go_wp2_with fail
    go_ret
    exact HF.out
  by_cases hbig : 24 < n
  · have HF : Hid (VecEnd (ZeroVectorIs n) w w (.returned (.slice none 0 0))) := ⟨[], _, rfl, by unfold ZeroVectorIs; rw [if_neg (by omega)], resV_nil _ _, Below.refl _ _⟩
    go_enter Tryz.func47, Tryz.ntmps47
    go_wp2_with fail
    go_ret
    exact HF.out
  obtain ⟨k, rfl⟩ : ∃ k : Nat, n = k := ⟨n.toNat, by omega⟩
  have hk : k ≤ 24 := by omega
  clear hneg hbig hn
  go_enter Tryz.func47, Tryz.ntmps47
  go_wp2_with (refine wpList_make_full _ rfl _ _ 26 rfl w.heap.size 30 i0 (.agg #[.bool false, .slice none 0 0, .slice none 0 0]) 3 Tryz.underlying26 hi hz0 hz1 _ _ _ _ k rfl rfl rfl rfl ?c1 ?c2 ?c3 ?_)
  case c1 => rw [hz2]; omega
  case c2 => unfold maxLen; omega
  case c3 => exact Nat.le_refl _
  intro w1 ho hg
  have B1 := Lib.hid ((Below.refl w.heap.size w).grown hg (Nat.le_refl _) (fun k hk => by cases hk))
  have O1 := Lib.hid (OwnV.made ho)
  clear ho hg
  go_wp2_with fail
  go_loopw [14] (fun y wr => ∃ (i : Nat) (L : List El), i ≤ k ∧ y = .int .i64 i ∧ Hid (OwnV wr w.heap.size (.slice (some ⟨w.heap.size, 0, none⟩) k k) k L) ∧ Hid (Has L (upTo (List.replicate k (rint 0)) i k)) ∧ Hid (Below w.heap.size w wr)) (fun y _ => k - (intOf y).toNat)
  case atStart => exact ⟨0, _, Nat.zero_le _, rfl, O1, by rw [upTo_zero]; exact has_zeros k, B1⟩
  case round =>
    obtain ⟨i, L, hle, rfl, ho, hh, hb⟩ := hrel
    by_cases hlt : i < k
    · have hi0 : (0 : Int) ≤ (i : Int) := by omega
      have hi1 : (i : Int) < (k : Int) := by omega
      go_wp2_with fail
      refine (impl_ratFromInt 0 _ ⟨by omega, by omega⟩).mono ?_
      rintro e w2 ⟨g, r, v, d, u, rfl, hq, h1, h2, hap, hb2⟩
      obtain ⟨A2, c2, rfl⟩ := own_slice h1.2
      obtain ⟨B2, d2, rfl⟩ := own_slice h2.2
      obtain ⟨⟨x0, x1, x2, q0, q1, q2, f0, f1, f2⟩, s1, s2⟩ := store_el (g := g) ho.out hb.out hb2 hlt h1 h2 hap
      have HO := Lib.hid s1
      have HB := Lib.hid s2
      have HH := Lib.hid (has_store (v := .slice A2 r.length c2) (u := .slice B2 d.length d2) hh.out (show (List.replicate k (rint 0))[i]? = some ⟨g, r, d⟩ by rw [rint_of hq]; simp [hlt]) hlt)
      clear s1 s2 hq h1 h2 hap hb2
      go_wp2_with fail
      go_roundw
      case rel => exact ⟨i + 1, _, by omega, by go_num, HO, HH, HB⟩
      case measure => simp [intOf]; omega
    · obtain rfl : i = k := by omega
      have HH : Hid (Has L (List.replicate i (rint 0))) := by rw [← upTo_all (rs := List.replicate i (rint 0)) (n := i) (by simp)]; exact hh
      have HF : Hid (VecEnd (ZeroVectorIs i) w wr (.returned (.slice (some ⟨w.heap.size, 0, none⟩) i i))) := ⟨_, _, rfl, by unfold ZeroVectorIs; rw [if_pos (by omega)]; rfl, resV_mk (rep_goods (rint_good 0) (by omega)) (by simp) ho.out HH.out, hb.out⟩
      go_wp2_with fail
      go_ret
      exact HF.out
set_option maxHeartbeats 1600000 in
theorem impl_unitVector (n k : Int) (w : World) (hn : -9223372036854775808 ≤ n ∧ n ≤ 9223372036854775807) (hk : -9223372036854775808 ≤ k ∧ k ≤ 9223372036854775807) :
    Calls Tryz.prog 108 #[.int .i64 n, .int .i64 k] w fun e w' => VecEnd (UnitVectorIs n k) w w' e := by
  go_enter Tryz.func108, Tryz.ntmps108
  go_wp2_with fail
  by_cases hnn : 0 ≤ n ∧ n ≤ 24
  · obtain ⟨m, rfl⟩ : ∃ m : Nat, n = m := ⟨n.toNat, by omega⟩
    refine (impl_zeroVector m _ hn).mono ?_
    rintro e w1 ⟨r, V, rfl, hr, ⟨hl, hf, L, ho, hh⟩, hb⟩
    have hr : r = List.replicate m (rint 0) := by unfold ZeroVectorIs at hr; rw [if_pos hnn] at hr; exact hr
    have hrl : r.length = m := by rw [hr]; simp
    rw [hrl] at ho
    obtain ⟨A1, c1, rfl⟩ := ho.slice
    by_cases hk0 : k < 0
    · have HF : Hid (VecEnd (UnitVectorIs m k) w w1 (.returned (.slice none 0 0))) := ⟨[], _, rfl, unit_no (fun h => by omega), resV_nil _ _, hb⟩
      clear hr ho hh hb hl hf hrl
      go_wp2_with fail
      go_ret
      exact HF.out
    by_cases hkm : (m : Int) ≤ k
    · have HF : Hid (VecEnd (UnitVectorIs m k) w w1 (.returned (.slice none 0 0))) := ⟨[], _, rfl, unit_no (fun h => by omega), resV_nil _ _, hb⟩
      clear hr ho hh hb hl hf hrl
      go_wp2_with fail
      go_ret
      exact HF.out
    obtain ⟨j, rfl⟩ : ∃ j : Nat, k = j := ⟨k.toNat, by omega⟩
    have hjm : j < m := by omega
    obtain ⟨G, rfl, _, _⟩ := own_at' ho.2.1 (by omega)
    have HR := Lib.hid hr
    have HO := Lib.hid ho
    have HH := Lib.hid hh
    have HB := Lib.hid hb
    have hj0 : (0 : Int) ≤ (j : Int) := by omega
    have hj1 : (j : Int) < (m : Int) := by omega
    clear hr ho hh hb hl hf hrl
    go_wp2_with fail
    refine (impl_ratFromInt 1 _ ⟨by omega, by omega⟩).mono ?_
    rintro e w2 ⟨g, q, v, d, u, rfl, hq, h1, h2, hap, hb2⟩
    obtain ⟨A2, c2, rfl⟩ := own_slice h1.2
    obtain ⟨B2, d2, rfl⟩ := own_slice h2.2
    obtain ⟨⟨x0, x1, x2, q0, q1, q2, f0, f1, f2⟩, s1, s2⟩ := store_el (g := g) HO.out HB.out hb2 hjm h1 h2 hap
    have hh2 : Has (L.set j ⟨g, .slice A2 q.length c2, q.length, q.map (.int .i64), .slice B2 d.length d2, d.length, d.map (.int .i64)⟩) ((List.replicate m (rint 0)).set j (rint 1)) := by
      rw [← HR.out, ← rint_of hq]
      exact HH.out.set j ⟨rfl, rfl, rfl, rfl, rfl⟩
    have HF : Hid (VecEnd (UnitVectorIs m j) w (((w2.setCell ⟨G, j * 3, none⟩ (.bool g)).setCell ⟨G, j * 3 + 1, none⟩ (.slice A2 q.length c2)).setCell ⟨G, j * 3 + 2, none⟩ (.slice B2 d.length d2)) (.returned (.slice (some ⟨G, 0, none⟩) m c1))) :=
      ⟨_, _, rfl, by unfold UnitVectorIs; rw [if_pos ⟨by omega, by omega⟩]; rfl, resV_mk (set_goods (by omega)) (by simp) s1 hh2, s2⟩
    clear s1 s2 hq h1 h2 hap hb2 hh2
    go_wp2_with fail
    go_ret
    exact HF.out
  · refine (impl_zeroVector n _ hn).mono ?_
    rintro e w1 ⟨r, V, rfl, hr, ⟨hl, hf, L, ho, hh⟩, hb⟩
    have hr : r = [] := by unfold ZeroVectorIs at hr; rw [if_neg hnn] at hr; exact hr
    subst hr
    obtain ⟨A1, c1, rfl⟩ := ho.slice
    have HF : Hid (VecEnd (UnitVectorIs n k) w w1 (.returned (.slice none 0 0))) := ⟨[], _, rfl, unit_no (fun h => hnn h.1), resV_nil _ _, hb⟩
    clear ho hh hb hl hf
    rw [show ([] : List RD).length = 0 from rfl]
    by_cases hk0 : k < 0
    · go_wp2_with fail
      go_ret
      exact HF.out
    · go_wp2_with fail
      go_ret
      exact HF.out
end Go.Proofs.YtdehcddjkcpnfaaGreat
