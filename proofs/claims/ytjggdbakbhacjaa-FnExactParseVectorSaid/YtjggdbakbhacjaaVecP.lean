/- Contracts of vectors: read from a text; what they give. -/
import Derived.Test.YtjggdbakbhacjaaVecF
import Derived.Test.YtjggdbakbhacjaaRatP10
import Derived.Test.YtjggdbakbhacjaaSplitJ
namespace Go.Proofs.Ytjggdbakbhacjaa
set_option maxRecDepth 100000
open Go.RowKit

/-- These texts are read as these fractions. -/
def PAll : List ByteArray → List RD → Prop
  | [], [] => True
  | w :: ws, r :: rs => RatParsed w r.g r.xs r.ds ∧ PAll ws rs
  | _, _ => False
theorem PAll.length : ∀ {ws : List ByteArray} {rs : List RD}, PAll ws rs → ws.length = rs.length
  | [], [], _ => rfl
  | _ :: _, _ :: _, h => by simp [PAll.length h.2]
theorem PAll.at_ : ∀ {ws : List ByteArray} {rs : List RD}, PAll ws rs → ∀ {i : Nat} {t : ByteArray}, ws[i]? = some t → ∃ r, rs[i]? = some r ∧ RatParsed t r.g r.xs r.ds
  | [], [], _, i, t, h => by simp at h
  | w :: ws, r :: rs, h, 0, t, ht => by
    obtain rfl : w = t := by simpa using ht
    exact ⟨r, by simp, h.1⟩
  | w :: ws, r :: rs, h, i + 1, t, ht => by
    obtain ⟨x, hx, hp⟩ := PAll.at_ h.2 (i := i) (t := t) (by simpa using ht)
    exact ⟨x, by simpa using hx, hp⟩
theorem PAll.append : ∀ {ws vs : List ByteArray} {rs ss : List RD}, PAll ws rs → PAll vs ss → PAll (ws ++ vs) (rs ++ ss)
  | [], _, [], _, _, k => k
  | _ :: _, _, _ :: _, _, h, k => ⟨h.1, PAll.append h.2 k⟩
theorem rparsed_unique {s : ByteArray} {r q : RD} (h : RatParsed s r.g r.xs r.ds) (k : RatParsed s q.g q.xs q.ds) : r = q := by
  obtain ⟨h1, h2, h3, _⟩ := parseRat_unique (.inl ⟨rfl, h⟩) (.inl ⟨rfl, k⟩)
  cases r; cases q
  simp at h1 h2 h3
  rw [h1, h2, h3]
theorem PAll.unique : ∀ {ws : List ByteArray} {rs ss : List RD}, PAll ws rs → PAll ws ss → rs = ss
  | [], [], [], _, _ => rfl
  | _ :: _, _ :: _, _ :: _, h, k => by rw [rparsed_unique h.1 k.1, PAll.unique h.2 k.2]
theorem PAll.snoc {ws : List ByteArray} {rs : List RD} {i : Nat} {t : ByteArray} {g : Bool} {l d : List Int} (h : PAll (ws.take i) rs) (ht : ws[i]? = some t) (hp : RatParsed t g l d) : PAll (ws.take (i + 1)) (rs ++ [⟨g, l, d⟩]) := by
  obtain ⟨hlt, he⟩ := List.getElem?_eq_some_iff.1 ht
  rw [List.take_succ_eq_append_getElem hlt, he]
  exact h.append ⟨hp, trivial⟩
theorem PAll.no {ws : List ByteArray} {i : Nat} {t : ByteArray} (ht : ws[i]? = some t) (h : ¬ ∃ g l d, RatParsed t g l d) : ¬ ∃ rs, PAll ws rs := fun ⟨rs, k⟩ => by
  obtain ⟨r, _, hp⟩ := k.at_ ht
  exact h ⟨_, _, _, hp⟩
theorem PAll.oks : ∀ {ws : List ByteArray} {rs : List RD}, PAll ws rs → ∀ r ∈ rs, r.ok
  | [], [], _, r, h => by cases h
  | _ :: _, q :: _, h, r, hr => by
    rcases List.mem_cons.1 hr with rfl | hr
    · exact (text_of_parsed h.1).1
    · exact PAll.oks h.2 r hr
theorem PAll.texts : ∀ {ws : List ByteArray} {rs : List RD}, PAll ws rs → rs.map rtext = ws
  | [], [], _ => rfl
  | w :: ws, r :: rs, h => by rw [List.map_cons, PAll.texts h.2, ← rtext_of (text_of_parsed h.1).2]
theorem PAll.full : ∀ {ws : List ByteArray} {rs : List RD}, PAll ws rs → ∀ t ∈ ws, 1 ≤ t.size
  | [], [], _, t, h => by cases h
  | w :: ws, r :: rs, h, t, ht => by
    rcases List.mem_cons.1 ht with rfl | ht
    · have := parsed_ne h.1
      rcases Nat.eq_zero_or_pos t.size with h0 | h0
      · exact absurd (ByteArray.ext (Array.eq_empty_of_size_eq_zero h0)) this
      · exact h0
    · exact PAll.full h.2 t ht
def ParseVectorIs (s : ByteArray) (rs : List RD) (b : Bool) : Prop :=
  (s = ⟨#[]⟩ ∧ rs = [] ∧ b = true) ∨ (s ≠ ⟨#[]⟩ ∧ (((splitAll s sp).length ≤ 24 ∧ PAll (splitAll s sp) rs ∧ b = true) ∨ (¬ ((splitAll s sp).length ≤ 24 ∧ ∃ q, PAll (splitAll s sp) q) ∧ rs = [] ∧ b = false)))
theorem parseVector_unique {s : ByteArray} {rs ss : List RD} {b c : Bool} (h : ParseVectorIs s rs b) (k : ParseVectorIs s ss c) : rs = ss ∧ b = c := by
  rcases h with ⟨e, rfl, rfl⟩ | ⟨e, h⟩ <;> rcases k with ⟨e', rfl, rfl⟩ | ⟨e', k⟩
  · exact ⟨rfl, rfl⟩
  · exact absurd e e'
  · exact absurd e' e
  · rcases h with ⟨h1, h2, rfl⟩ | ⟨h1, rfl, rfl⟩ <;> rcases k with ⟨k1, k2, rfl⟩ | ⟨k1, rfl, rfl⟩
    · exact ⟨h2.unique k2, rfl⟩
    · exact absurd ⟨h1, _, h2⟩ k1
    · exact absurd ⟨k1, _, k2⟩ h1
    · exact ⟨rfl, rfl⟩
theorem pv_empty {s : ByteArray} (h : s.toList = []) : s = ⟨#[]⟩ := by
  rw [Lib.toList_data] at h
  exact ByteArray.ext (Array.toList_inj.1 h)
theorem pv_ne {s : ByteArray} (h : s.toList ≠ []) : s ≠ ⟨#[]⟩ := by
  rintro rfl
  exact h (by rw [Lib.toList_data])
theorem ResI.alloc' {w w' : World} {v : Value} {l : List Int} (h : ResI w w' v l) (o : Obj) : ResI w (w'.alloc o) v l := ⟨h.1, h.2.alloc o⟩
theorem resV_of {w w' : World} {V : Value} {rs : List RD} {L : List El} {n : Nat} (hok : ∀ r ∈ rs, r.ok) (h24 : rs.length ≤ 24) (hn : rs.length = n) (ho : OwnV w' w.heap.size V n L) (hh : Has L rs) : ResV w w' V rs := resV_mk (VOk.goods ⟨h24, hok⟩) hn ho hh
set_option maxHeartbeats 3200000 in
theorem spec_parseVector0 (s : ByteArray) (w : World) (hs : s.size ≤ 1048576) :
    Calls Try.prog 41 #[.string s] w fun e w' => VecOkEnd (ParseVectorIs s) w w' e := by
  obtain ⟨i0, hi, hz0, hz1, hz2⟩ := info_parts Try.infoR
  by_cases hemp : s.toList = []
  · have HF : Hid (VecOkEnd (ParseVectorIs s) w w (.returned (.tuple #[.slice none 0 0, .bool true]))) := ⟨[], _, true, rfl, .inl ⟨pv_empty hemp, rfl, rfl⟩, resV_nil _ _, Below.refl _ _⟩
    go_enter Try.func41, Try.ntmps41
    go_wp2_with fail
    go_ret2
    exact HF.out
  have HNE := Lib.hid (pv_ne hemp)
  have hemp2 : s.toList.isEmpty = false := by simpa using hemp
  have hemp3 : (s.toList == []) = false := by simpa using hemp
  obtain ⟨W0, hW0⟩ : ∃ W, W = w.alloc (.cells #[] 26) := ⟨_, rfl⟩
  have O0 : Hid (OwnV W0 w.heap.size (.slice (some ⟨w.heap.size, 0, none⟩) 0 0) 0 []) := by rw [hW0]; exact OwnV.empty _ _
  have BW_0 : Hid (Below w.heap.size w W0) := by rw [hW0]; exact (Below.refl _ _).alloc (Nat.le_refl _) _
  go_enter Try.func41, Try.ntmps41
  go_wp2_with fail
  rw [← hW0]
  clear hW0
  refine (spec_splitAny s sp _ hs (by decide)).mono ?_
  rintro e w1 ⟨V, rfl, hw, hb⟩
  obtain ⟨ws, hws⟩ : ∃ ws, ws = splitAll s sp := ⟨_, rfl⟩
  have hwl := splitAll_le s sp
  have hwz := splitAll_size (s := s) (d := sp)
  rw [← hws] at hw hwl hwz
  obtain ⟨n, hn⟩ : ∃ n, n = ws.length := ⟨_, rfl⟩
  rw [← hn] at hw hwl
  obtain ⟨Aw, cw, rfl⟩ := own_slice hw
  have HWS := Lib.hid hws
  have HN := Lib.hid hn
  have HWZ := Lib.hid hwz
  have HW1 := Lib.hid hw
  have O1 := Lib.hid (O0.out.below hb)
  have BW_1 := Lib.hid (BW_0.out.trans (hb.mono BW_0.out.size))
  have hn20 : n ≤ 1048577 := by omega
  have hw01 : w.heap.size ≤ W0.heap.size := BW_0.out.size
  clear hws hn hw hb hwl hwz
  go_wp2_with fail
  go_loopw [4, 15] (fun x y wr => ∃ (i : Nat) (L : List El) (A2 : Option Addr) (c2 : Nat) (rs : List RD), i ≤ n ∧ y = .int .i64 i ∧ x = .slice A2 i c2 ∧ Hid (OwnV wr w.heap.size (.slice A2 i c2) i L) ∧ Hid (Has L rs) ∧ Hid (PAll (ws.take i) rs) ∧ Hid (Below w.heap.size w wr) ∧ Hid (wr.ownsRow W0.heap.size 9 1 (.slice Aw n cw) n (ws.map .string))) (fun _ y _ => n - (intOf y).toNat)
  case atStart => exact ⟨0, [], _, _, [], Nat.zero_le _, rfl, rfl, O1, trivial, trivial, BW_1, HW1⟩
  case round =>
    obtain ⟨i, L, A2, c2, rs, hle, rfl, rfl, ho, hh, hp, hb, hwr⟩ := hrel
    by_cases hlt : i < n
    · have hix : i < ws.length := by rw [← HN.out]; exact hlt
      obtain ⟨t, ht⟩ : ∃ t, t = ws[i] := ⟨_, rfl⟩
      have HTI : Hid (ws[i]? = some t) := by rw [ht]; exact List.getElem?_eq_getElem hix
      obtain ⟨gw, rfl, _, _⟩ := own_at hwr.out (by omega)
      have hcell : wr.cell? ⟨gw, i, none⟩ = some (.string t) := by rw [hwr.out.cellAt i (by omega), List.getElem?_map, HTI.out]; rfl
      have hts : t.size ≤ 1048576 := Nat.le_trans (HWZ.out t (List.mem_of_getElem? HTI.out)) hs
      have hi0 : (0 : Int) ≤ (i : Int) := by omega
      have hi1 : (i : Int) < (n : Int) := by omega
      clear ht
      go_wp2_with fail
      clear hcell
      refine (spec_parseRat0 t _ hts).mono ?_
      rintro e w2 ⟨g, r, v, dd, u, b, rfl, hq, q1, q2, hap, hc2⟩
      obtain ⟨A6, c6, rfl⟩ := own_slice q1.2
      obtain ⟨B6, d6, rfl⟩ := own_slice q2.2
      obtain ⟨s1, s2, s3, s4⟩ := new_el (g := g) ho.out hb.out hc2 q1 q2 hap
      have HW2 := Lib.hid (own_below hwr.out hc2)
      have BX := Lib.hid (s4.alloc s4.size (.cells #[.bool g, .slice A6 r.length c6, .slice B6 dd.length d6] 26))
      cases b
      case false =>
        have hno : ¬ ∃ g l d, RatParsed t g l d := by
          rcases hq with ⟨h, _⟩ | ⟨_, _, _, _, h⟩
          · cases h
          · exact h
        have HF : Hid (VecOkEnd (ParseVectorIs s) w (w2.alloc (.cells #[.bool g, .slice A6 r.length c6, .slice B6 dd.length d6] 26)) (.returned (.tuple #[.slice none 0 0, .bool false]))) :=
          ⟨[], _, false, rfl, .inr ⟨HNE.out, .inr ⟨fun h => PAll.no HTI.out hno (by rw [HWS.out]; exact h.2), rfl, rfl⟩⟩, resV_nil _ _, BX.out⟩
        clear hq q1 q2 hap hc2 s1 s2 s3 s4
        go_wp2_with fail
        go_ret2
        exact HF.out
      have hpar : RatParsed t g r dd := by
        rcases hq with ⟨_, h⟩ | ⟨h, _⟩
        · exact h
        · cases h
      have HP := Lib.hid (hp.out.snoc HTI.out hpar)
      have HH : Hid (Has (L ++ [⟨g, .slice A6 r.length c6, r.length, r.map (.int .i64), .slice B6 dd.length d6, dd.length, dd.map (.int .i64)⟩]) (rs ++ [⟨g, r, dd⟩])) := hh.out.append ⟨⟨rfl, rfl, rfl, rfl, rfl⟩, trivial⟩
      have HO := Lib.hid (s1.alloc (.cells #[.bool g, .slice A6 r.length c6, .slice B6 dd.length d6] 26))
      have HE := Lib.hid (El.own.dep s2 fun k hk => Below.heap_alloc w2 (.cells #[.bool g, .slice A6 r.length c6, .slice B6 dd.length d6] 26) k (s2.lt k hk).2)
      have HFR := Lib.hid s3
      have HW3 := Lib.hid ((HW2.out.alloc (.cells #[.bool g, .slice A6 r.length c6, .slice B6 dd.length d6] 26)).alloc (.cells #[.bool g, .slice A6 r.length c6, .slice B6 dd.length d6] 26))
      clear hq q1 q2 hap hc2 s1 s2 s3 s4 hpar HW2
      go_wp2_with (at_builtin; refine wpList_append_el' rfl _ _ 35 rfl w.heap.size i0 (.agg #[.bool false, .slice none 0 0, .slice none 0 0]) 56 Try.underlying35 hi hz0 hz1 hz2 rfl _ i L rfl HO.out ⟨g, .slice A6 r.length c6, r.length, r.map (.int .i64), .slice B6 dd.length d6, dd.length, dd.map (.int .i64)⟩ _ rfl (by simp) HE.out HFR.out rfl rfl (by unfold maxLen; omega) (by omega) BX.out.size _ ?_)
      intro V' w3 s1 hg
      obtain ⟨A5, c5, rfl⟩ := s1.slice
      have HO3 := Lib.hid s1
      have HB3 := Lib.hid (below_app BX.out HO.out hg)
      have HW4 := Lib.hid (HW3.out.kept hg (apart_of (own_other HW3.out (HO.out.alloc _).2.1 (by decide))))
      clear s1 hg
      go_wp2_with fail
      go_roundw
      case rel => exact ⟨i + 1, _, A5, c5, _, by omega, by go_num, rfl, HO3, HH, HP, HB3, HW4⟩
      case measure => simp [intOf]; omega
    · obtain rfl : i = n := by omega
      have hpp := hp.out
      rw [List.take_of_length_le (by rw [← HN.out]; omega)] at hpp
      have hrl : rs.length = i := by rw [← hpp.length, ← HN.out]
      have hfew := few_pieces (s := s) (by rw [← HWS.out]; exact hpp.full)
      rw [← HWS.out, ← HN.out] at hfew
      have hi20 : i ≤ 1048576 := by omega
      have HP := Lib.hid hpp
      have HRL := Lib.hid hrl
      have HI : Hid (InV wr A2 i rs) := ho.out.in_ hh.out hi20 (fun r hr => (hpp.oks r hr).fits)
      clear hpp hrl hfew
      go_wp2_with fail
      refine (spec_isVector A2 i c2 rs _ HI.out).mono ?_
      rintro e w3 ⟨b, rfl, hq, hb3⟩
      have HB3 := Lib.hid (hb.out.trans (hb3.mono hb.out.size))
      have HO3 := Lib.hid (ho.out.below hb3)
      have HI3 := Lib.hid (HI.out.below hb3)
      clear hb3
      cases b
      case false =>
        have HF : Hid (VecOkEnd (ParseVectorIs s) w w3 (.returned (.tuple #[.slice none 0 0, .bool false]))) :=
          ⟨[], _, false, rfl, .inr ⟨HNE.out, .inr ⟨fun h => (by
            have h1 := hq.2 ⟨by have := h.1; rw [← HWS.out, ← HN.out] at this; rw [HRL.out]; exact this, HP.out.oks⟩
            cases h1), rfl, rfl⟩⟩, resV_nil _ _, HB3.out⟩
        clear hq
        go_wp2_with fail
        go_ret2
        exact HF.out
      have QV := Lib.hid (hq.1 rfl)
      clear hq
      go_wp2_with fail
      refine (spec_formatVector0 A2 i c2 rs _ HI3.out).mono ?_
      rintro e w4 ⟨t, rfl, ht, hb4⟩
      have HB4 := Lib.hid (HB3.out.trans (hb4.mono HB3.out.size))
      have HO4 := Lib.hid (HO3.out.below hb4)
      obtain rfl : t = s := by
        rcases ht with ⟨_, h⟩ | ⟨h, _⟩
        · rw [h, HP.out.texts, HRL.out]
          have h2 := split_join s
          rw [← HWS.out, ← HN.out] at h2
          exact h2
        · exact absurd QV.out h
      have HF : Hid (VecOkEnd (ParseVectorIs t) w w4 (.returned (.tuple #[.slice A2 i c2, .bool true]))) :=
        ⟨rs, _, true, rfl, .inr ⟨HNE.out, .inl ⟨by rw [← HWS.out, ← HN.out, ← HRL.out]; exact QV.out.1, by rw [← HWS.out]; exact HP.out, rfl⟩⟩, resV_of HP.out.oks QV.out.1 HRL.out HO4.out hh.out, HB4.out⟩
      clear ht hb4
      go_wp2_with fail
      go_ret2
      exact HF.out
theorem spec_parseVector (s : ByteArray) (w : World) (hs : s.size ≤ 1048576) :
    Calls Try.prog 41 #[.string s] w fun e w' => ∃ r V b, e = .returned (.tuple #[V, .bool b]) ∧ ParseVectorIs s r b ∧ ResV w w' V r ∧ Below w.heap.size w w' := (spec_parseVector0 s w hs).mono fun _ _ h => h
end Go.Proofs.Ytjggdbakbhacjaa
