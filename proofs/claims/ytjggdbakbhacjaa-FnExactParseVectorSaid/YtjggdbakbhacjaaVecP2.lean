/- Contracts of vectors: read from a text, by the program. -/
import Derived.Test.YtjggdbakbhacjaaVecP
import Derived.Test.YtjggdbakbhacjaaGW
namespace Go.Proofs.Ytjggdbakbhacjaa
set_option maxRecDepth 100000
open Go.RowKit

set_option maxHeartbeats 3200000 in
theorem impl_parseVector0 (s : ByteArray) (w : World) (hs : s.size ≤ 1048576) (hm : MaxAt w) :
    Calls Try.prog 42 #[.string s] w fun e w' => VecOkEnd (ParseVectorIs s) w w' e := by
  obtain ⟨i0, hi, hz0, hz1, hz2⟩ := info_parts Try.infoR
  have HM := Lib.hid hm
  clear hm
  by_cases hemp : s.toList = []
  · have HF : Hid (VecOkEnd (ParseVectorIs s) w w (.returned (.tuple #[.slice none 0 0, .bool true]))) := ⟨[], _, true, rfl, .inl ⟨pv_empty hemp, rfl, rfl⟩, resV_nil _ _, Below.refl _ _⟩
    go_enter Try.func42, Try.ntmps42
    go_wp2_with fail
    go_ret2
    exact HF.out
  have HNE := Lib.hid (pv_ne hemp)
  have hemp2 : s.toList.isEmpty = false := by simpa using hemp
  have hemp3 : (s.toList == []) = false := by simpa using hemp
  go_enter Try.func42, Try.ntmps42
  go_wp2_with fail
  refine (impl_splitAny s sp _ hs (by decide)).mono ?_
  rintro e w1 ⟨V, rfl, hw, hb⟩
  obtain ⟨ws, hws⟩ : ∃ ws, ws = splitAll s sp := ⟨_, rfl⟩
  have hwl := splitAll_le s sp
  have hwz := splitAll_size (s := s) (d := sp)
  rw [← hws] at hw hwl hwz
  obtain ⟨n, hn⟩ : ∃ n, n = ws.length := ⟨_, rfl⟩
  rw [← hn] at hw hwl
  obtain ⟨Aw, cw, rfl⟩ := own_slice hw
  have HWS := Lib.hid hws
  have HN := Lib.hid hn
  have HWZ := Lib.hid hwz
  have HW1 := Lib.hid hw
  have BW_1 := Lib.hid hb
  have hn20 : n ≤ 1048577 := by omega
  clear hws hn hw hb hwl hwz
  by_cases hbig : 24 < (n : Int)
  · have HF : Hid (VecOkEnd (ParseVectorIs s) w w1 (.returned (.tuple #[.slice none 0 0, .bool false]))) :=
      ⟨[], _, false, rfl, .inr ⟨HNE.out, .inr ⟨fun h => (by have := h.1; rw [← HWS.out, ← HN.out] at this; omega), rfl, rfl⟩⟩, resV_nil _ _, BW_1.out⟩
    go_wp2_with fail
    go_ret2
    exact HF.out
  go_wp2_with (refine wpList_make_full _ rfl _ _ 35 rfl w1.heap.size 26 i0 (.agg #[.bool false, .slice none 0 0, .slice none 0 0]) 3 Try.underlying35 hi hz0 hz1 _ _ _ _ n rfl rfl rfl rfl ?c1 ?c2 ?c3 ?_)
  case c1 => rw [hz2]; omega
  case c2 => unfold maxLen; omega
  case c3 => exact Nat.le_refl _
  intro w0 ho hg
  have BM := Lib.hid ((Below.refl w1.heap.size w1).grown hg (Nat.le_refl _) (fun k hk => by cases hk))
  have O1 := Lib.hid (OwnV.made ho)
  clear ho hg
  go_wp2_with fail
  go_loopw [22] (fun y wr => ∃ (i : Nat) (L : List El) (rs : List RD), i ≤ n ∧ y = .int .i64 i ∧ Hid (OwnV wr w1.heap.size (.slice (some ⟨w1.heap.size, 0, none⟩) n n) n L) ∧ Hid (Has L (rs ++ List.replicate (n - i) RD.zero)) ∧ Hid (PAll (ws.take i) rs) ∧ Hid (Below w1.heap.size w1 wr)) (fun y _ => n - (intOf y).toNat)
  case atStart => exact ⟨0, _, [], Nat.zero_le _, rfl, O1, has_zeros n, trivial, BM⟩
  case round =>
    obtain ⟨i, L, rs, hle, rfl, ho, hh, hp, hb⟩ := hrel
    have BW := Lib.hid (BW_1.out.trans (hb.out.mono BW_1.out.size))
    by_cases hlt : i < n
    · have hix : i < ws.length := by rw [← HN.out]; exact hlt
      obtain ⟨t, ht⟩ : ∃ t, t = ws[i] := ⟨_, rfl⟩
      have HTI : Hid (ws[i]? = some t) := by rw [ht]; exact List.getElem?_eq_getElem hix
      have hwr := own_below HW1.out hb.out
      obtain ⟨gw, rfl, _, _⟩ := own_at hwr (by omega)
      have hcell : wr.cell? ⟨gw, i, none⟩ = some (.string t) := by rw [hwr.cellAt i (by omega), List.getElem?_map, HTI.out]; rfl
      have hts : t.size ≤ 1048576 := Nat.le_trans (HWZ.out t (List.mem_of_getElem? HTI.out)) hs
      have hi0 : (0 : Int) ≤ (i : Int) := by omega
      have hi1 : (i : Int) < (n : Int) := by omega
      clear ht hwr
      go_wp2_with fail
      clear hcell
      refine (impl_parseRat0 t _ hts (HM.out.below BW.out HM.out.pos)).mono ?_
      rintro e w2 ⟨g, r, v, dd, u, b, rfl, hq, q1, q2, hap, hc2⟩
      obtain ⟨A6, c6, rfl⟩ := own_slice q1.2
      obtain ⟨B6, d6, rfl⟩ := own_slice q2.2
      have BX := Lib.hid ((BW.out.trans (hc2.mono BW.out.size)).alloc (Nat.le_trans BW.out.size hc2.size) (.cells #[.bool g, .slice A6 r.length c6, .slice B6 dd.length d6] 26))
      cases b
      case false =>
        have hno : ¬ ∃ g l d, RatParsed t g l d := by
          rcases hq with ⟨h, _⟩ | ⟨_, _, _, _, h⟩
          · cases h
          · exact h
        have HF : Hid (VecOkEnd (ParseVectorIs s) w (w2.alloc (.cells #[.bool g, .slice A6 r.length c6, .slice B6 dd.length d6] 26)) (.returned (.tuple #[.slice none 0 0, .bool false]))) :=
          ⟨[], _, false, rfl, .inr ⟨HNE.out, .inr ⟨fun h => PAll.no HTI.out hno (by rw [HWS.out]; exact h.2), rfl, rfl⟩⟩, resV_nil _ _, BX.out⟩
        clear hq q1 q2 hap hc2
        go_wp2_with fail
        go_ret2
        exact HF.out
      have hpar : RatParsed t g r dd := by
        rcases hq with ⟨_, h⟩ | ⟨h, _⟩
        · exact h
        · cases h
      have hrl : rs.length = i := by rw [← hp.out.length, List.length_take, ← HN.out]; omega
      have HP := Lib.hid (hp.out.snoc HTI.out hpar)
      have HH : Hid (Has (L.set i ⟨g, .slice A6 r.length c6, r.length, r.map (.int .i64), .slice B6 dd.length d6, dd.length, dd.map (.int .i64)⟩) ((rs ++ [⟨g, r, dd⟩]) ++ List.replicate (n - (i + 1)) RD.zero)) := by
        have := hh.out.set i (e := ⟨g, .slice A6 r.length c6, r.length, r.map (.int .i64), .slice B6 dd.length d6, dd.length, dd.map (.int .i64)⟩) (r := ⟨g, r, dd⟩) ⟨rfl, rfl, rfl, rfl, rfl⟩
        rwa [List.set_append_right _ _ (by omega), hrl, Nat.sub_self, show n - i = (n - (i + 1)) + 1 by omega, List.replicate_succ, List.set_cons_zero, List.append_cons] at this
      obtain ⟨⟨x0, x1, x2, p0, p1, p2, f0, f1, f2⟩, s1, s2⟩ := store_el (g := g) (w := w1) ho.out hb.out (hc2.alloc hc2.size (.cells #[.bool g, .slice A6 r.length c6, .slice B6 dd.length d6] 26)) hlt (q1.alloc' _) (q2.alloc' _) hap
      have HO := Lib.hid s1
      have HB := Lib.hid s2
      clear hq q1 q2 hap hc2 s1 s2 hpar hrl
      go_wp2_with fail
      go_roundw
      case rel => exact ⟨i + 1, _, _, by omega, by go_num, HO, HH, HP, HB⟩
      case measure => simp [intOf]; omega
    · obtain rfl : i = n := by omega
      have hpp := hp.out
      rw [List.take_of_length_le (by rw [← HN.out]; omega)] at hpp
      have hrl : rs.length = i := by rw [← hpp.length, ← HN.out]
      have hh2 := hh.out
      rw [Nat.sub_self, List.replicate_zero, List.append_nil] at hh2
      have HF : Hid (VecOkEnd (ParseVectorIs s) w wr (.returned (.tuple #[.slice (some ⟨w1.heap.size, 0, none⟩) i i, .bool true]))) :=
        ⟨rs, _, true, rfl, .inr ⟨HNE.out, .inl ⟨by rw [← HWS.out, ← HN.out]; omega, by rw [← HWS.out]; exact hpp, rfl⟩⟩, resV_of hpp.oks (by omega) hrl (ho.out.lower BW_1.out.size) hh2, BW.out⟩
      clear hpp hrl hh2
      go_wp2_with fail
      go_ret2
      exact HF.out
theorem impl_parseVector (s : ByteArray) (w : World) (hs : s.size ≤ 1048576) (hm : MaxAt w) :
    Calls Try.prog 42 #[.string s] w fun e w' => ∃ r V b, e = .returned (.tuple #[V, .bool b]) ∧ ParseVectorIs s r b ∧ ResV w w' V r ∧ Below w.heap.size w w' := (impl_parseVector0 s w hs hm).mono fun _ _ h => h
end Go.Proofs.Ytjggdbakbhacjaa
