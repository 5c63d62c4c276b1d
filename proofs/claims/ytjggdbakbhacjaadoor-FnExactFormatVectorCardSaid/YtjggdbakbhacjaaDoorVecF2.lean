/- Contracts of vectors: their text, by the program. -/
import Derived.Test.YtjggdbakbhacjaaDoorVecF
namespace Go.Proofs.YtjggdbakbhacjaaDoor
set_option maxRecDepth 100000
open Go.RowKit

set_option maxHeartbeats 1600000 in
theorem impl_formatVector0 (A : Option Addr) (n c : Nat) (rs : List RD) (w : World) (h : InV w A n rs) (ht : Tab w) :
    Calls Tryd.prog 7 #[.slice A n c] w fun e w' => FVecEnd rs w w' e := by
  obtain ⟨i0, hi, hz0, hz1, hz2⟩ := info_parts Tryd.infoS
  have hn := h.2.1
  have HV := Lib.hid h
  have HT := Lib.hid ht
  clear h ht
  go_enter Tryd.func7, Tryd.ntmps7
  go_wp2_with fail
  refine (impl_isVector A n c rs _ HV.out).mono ?_
  rintro e wb ⟨b, rfl, hq, hb⟩
  have B2 := Lib.hid hb
  clear hb
  cases b
  · have HF : Hid (FVecEnd rs w wb (.returned (.string ⟨#[]⟩))) := ⟨_, rfl, .inr ⟨fun h => (by have h1 := hq.2 h; cases h1), rfl⟩, B2.out⟩
    clear hq
    go_wp2_with fail
    go_ret
    exact HF.out
  have QV := Lib.hid (hq.1 rfl)
  clear hq
  have h24 : n ≤ 24 := by rw [← HV.out.1]; exact QV.out.1
  obtain ⟨zs, hzs⟩ : ∃ zs, zs = (rs.map rtext).map Value.string := ⟨_, rfl⟩
  have hzl : zs.length = n := by rw [hzs]; simp [HV.out.1]
  have HZ := Lib.hid hzs
  have HZL := Lib.hid hzl
  clear hzs hzl
  go_wp2_with (refine wpList_make_full _ rfl _ _ 35 rfl wb.heap.size 9 i0 (.string ⟨#[]⟩) 1 Tryd.underlying35 hi hz0 hz1 _ _ _ _ n rfl rfl rfl rfl ?c1 ?c2 ?c3 ?_)
  case c1 => rw [hz2]; omega
  case c2 => unfold maxLen; omega
  case c3 => exact Nat.le_refl _
  intro w1 ho hg
  obtain ⟨ys, ho⟩ : ∃ ys, w1.ownsRow wb.heap.size 9 1 (.slice (some ⟨wb.heap.size, 0, none⟩) n n) n ys := ⟨_, ho⟩
  have HYL : Hid (ys.length = n) := Lib.hid (by simpa using ho.1)
  have BM := Lib.hid ((Below.refl wb.heap.size wb).grown hg (Nat.le_refl _) (fun k hk => by cases hk))
  have O1 := Lib.hid ho
  clear ho hg
  go_wp2_with fail
  go_loopw [14] (fun y wr => ∃ i : Nat, i ≤ n ∧ y = .int .i64 i ∧ Hid (wr.ownsRow wb.heap.size 9 1 (.slice (some ⟨wb.heap.size, 0, none⟩) n n) n (zs.take i ++ ys.drop i)) ∧ Hid (Below wb.heap.size wb wr)) (fun y _ => n - (intOf y).toNat)
  case atStart => exact ⟨0, Nat.zero_le _, rfl, by simpa using O1, BM⟩
  case round =>
    obtain ⟨i, hle, rfl, ho, hb⟩ := hrel
    have BW := Lib.hid (B2.out.trans (hb.out.mono B2.out.size))
    by_cases hlt : i < n
    · obtain ⟨b2, o2, rfl, hb2, r2, hr2, A4, n4, c4, B4, m4, d4, at2, i2, ra2, j2, rb2⟩ := HV.out.atB BW.out i hlt
      have hi0 : (0 : Int) ≤ (i : Int) := by omega
      have hi1 : (i : Int) < (n : Int) := by omega
      have hw0 : wb.heap.size ≤ wr.heap.size := hb.out.size
      have hbx : Below wr.heap.size wr (wr.alloc (.cells #[.bool r2.g, .slice A4 n4 c4, .slice B4 m4 d4] 39)) := (Below.refl _ _).alloc (Nat.le_refl _) _
      have BD := Lib.hid (hb.out.trans (hbx.mono hw0))
      have TD := Lib.hid (HT.out.below (BW.out.trans (hbx.mono BW.out.size)))
      have I2 := Lib.hid (i2.below hbx)
      have J2 := Lib.hid (j2.below hbx)
      have RA2 := Lib.hid ra2
      have RB2 := Lib.hid rb2
      have HR2 := Lib.hid hr2
      have OD := Lib.hid (own_below ho.out hbx)
      obtain ⟨e20, e21, e22⟩ := at2
      clear i2 j2 hr2 ra2 rb2 hbx
      go_wp2_with fail
      clear e20 e21 e22
      refine (impl_formatRat0 r2.g A4 n4 c4 r2.xs B4 m4 d4 r2.ds _ I2.out RA2.out J2.out RB2.out TD.out).mono ?_
      rintro e w2 ⟨t, rfl, ht, hc2⟩
      obtain ⟨⟨x0, q0, f0⟩, s1, s2⟩ := store_one (w := wb) (u := .string t) OD.out BD.out hc2 hlt (by rw [HZ.out, List.getElem?_map, List.getElem?_map, HR2.out, rtext_of ht]; rfl) HYL.out
      have HO := Lib.hid s1
      have HB := Lib.hid s2
      clear ht hc2 s1 s2
      go_wp2_with fail
      go_roundw
      case rel => exact ⟨i + 1, by omega, by go_num, HO, HB⟩
      case measure => simp [intOf]; omega
    · obtain rfl : i = n := by omega
      have HO := ho.out
      rw [List.take_of_length_le (by rw [HZL.out]; omega), List.drop_eq_nil_of_le (by rw [HYL.out]; omega), List.append_nil, HZ.out] at HO
      have HOO := Lib.hid HO
      clear HO
      go_wp2_with fail
      refine (impl_join _ i i (rs.map rtext) ⟨#[32]⟩ _ (by rw [List.length_map]; exact HV.out.1) (Nat.le_refl _) (join_room HV.out.1 h24) hn (Reads.of_own HOO.out)).mono ?_
      rintro e w3 ⟨rfl, hb3⟩
      have HF : Hid (FVecEnd rs w w3 (.returned (.string (joinB (rs.map rtext) ⟨#[32]⟩ i)))) := ⟨_, rfl, .inl ⟨QV.out, by rw [HV.out.1]⟩, BW.out.trans (hb3.mono BW.out.size)⟩
      clear hb3
      go_wp2_with fail
      go_ret
      exact HF.out
theorem impl_formatVector (A : Option Addr) (n c : Nat) (rs : List RD) (w : World) (h : InV w A n rs) (ht : Tab w) :
    Calls Tryd.prog 7 #[.slice A n c] w fun e w' => ∃ r, e = .returned (.string r) ∧ FormatVectorIs rs r ∧ Below w.heap.size w w' := (impl_formatVector0 A n c rs w h ht).mono fun _ _ h => h
end Go.Proofs.YtjggdbakbhacjaaDoor
