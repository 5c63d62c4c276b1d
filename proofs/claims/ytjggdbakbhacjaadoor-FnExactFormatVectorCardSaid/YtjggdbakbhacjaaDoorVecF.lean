/- Contracts of vectors: their text. -/
import Derived.Test.YtjggdbakbhacjaaDoorGW
import Derived.Test.YtjggdbakbhacjaaDoorGP
import Derived.Maps.AppendAt
namespace Go.Proofs.YtjggdbakbhacjaaDoor
set_option maxRecDepth 100000
open Go.RowKit

/-- The text of a fraction. -/
noncomputable def rtext (r : RD) : ByteArray := open Classical in if h : ∃ t, FormatRatIs r.g r.xs r.ds t then h.choose else ⟨#[]⟩
theorem rtext_of {r : RD} {t : ByteArray} (h : FormatRatIs r.g r.xs r.ds t) : t = rtext r := by
  have hx : ∃ t, FormatRatIs r.g r.xs r.ds t := ⟨t, h⟩
  unfold rtext
  rw [dif_pos hx]
  exact formatRat_unique h hx.choose_spec
theorem frat_size {g : Bool} {xs es : List Int} {t : ByteArray} (h : FormatRatIs g xs es t) : t.size ≤ 1084 := by
  rcases h with ⟨k, a, ha, h⟩ | ⟨_, rfl⟩
  · have h1 := big_text_size k.1 ha
    rcases h with ⟨_, rfl⟩ | ⟨_, b, hb, rfl⟩
    · omega
    · have h2 := nat_text_size k.2.1 hb
      have h3 : (⟨#[47]⟩ : ByteArray).size = 1 := rfl
      rw [ByteArray.size_append, ByteArray.size_append]; omega
  · exact Nat.zero_le _
theorem rtext_size (r : RD) : (rtext r).size ≤ 1084 := by
  unfold rtext
  by_cases h : ∃ t, FormatRatIs r.g r.xs r.ds t
  · rw [dif_pos h]; exact frat_size h.choose_spec
  · rw [dif_neg h]; exact Nat.zero_le _
def FormatVectorIs (rs : List RD) (t : ByteArray) : Prop := (VOk rs ∧ t = joinB (rs.map rtext) ⟨#[32]⟩ rs.length) ∨ (¬ VOk rs ∧ t = ⟨#[]⟩)
theorem formatVector_unique {rs : List RD} {t t' : ByteArray} (h : FormatVectorIs rs t) (h' : FormatVectorIs rs t') : t = t' := by
  rcases h with ⟨k, rfl⟩ | ⟨k, rfl⟩ <;> rcases h' with ⟨k', rfl⟩ | ⟨k', rfl⟩
  · rfl
  · exact absurd k k'
  · exact absurd k' k
  · rfl
def FVecEnd (rs : List RD) (w w' : World) (e : Ending) : Prop := ∃ r, e = .returned (.string r) ∧ FormatVectorIs rs r ∧ Below w.heap.size w w'
theorem szTo_bd {ts : List ByteArray} {K : Nat} (h : ∀ t ∈ ts, t.size ≤ K) : ∀ k, k ≤ ts.length → szTo ts k ≤ k * K
  | 0, _ => by simp [szTo]
  | k + 1, hk => by
    have h1 := szTo_bd h k (by omega)
    have h2 := szTo_succ ts k (by omega)
    have h3 := h _ (List.getElem_mem (show k < ts.length by omega))
    rw [Nat.add_mul]; omega
theorem join_room {rs : List RD} {n : Nat} (hn : rs.length = n) (h : n ≤ 24) : szTo (rs.map rtext) n + n * (⟨#[32]⟩ : ByteArray).size ≤ 140737488355328 := by
  have h1 := szTo_bd (ts := rs.map rtext) (K := 1084) (fun t ht => by obtain ⟨r, _, rfl⟩ := List.mem_map.1 ht; exact rtext_size r) n (by simp; omega)
  rw [show (⟨#[32]⟩ : ByteArray).size = 1 from rfl]
  omega
theorem texts_succ {rs : List RD} {i : Nat} {r : RD} {t : ByteArray} (h : rs[i]? = some r) (ht : FormatRatIs r.g r.xs r.ds t) : ((rs.map rtext).map Value.string).take i ++ [.string t] = ((rs.map rtext).map Value.string).take (i + 1) := by
  obtain ⟨hlt, he⟩ := List.getElem?_eq_some_iff.1 h
  rw [List.take_succ_eq_append_getElem (by simpa using hlt), rtext_of ht]
  simp [he]
set_option maxHeartbeats 1600000 in
theorem spec_formatVector0 (A : Option Addr) (n c : Nat) (rs : List RD) (w : World) (h : InV w A n rs) :
    Calls Tryd.prog 5 #[.slice A n c] w fun e w' => FVecEnd rs w w' e := by
  obtain ⟨i0, hi, hz0, hz1, hz2⟩ := info_parts Tryd.infoS
  have hn := h.2.1
  obtain ⟨W0, hW0⟩ : ∃ W, W = w.alloc (.cells #[] 9) := ⟨_, rfl⟩
  have O0 : Hid (W0.ownsRow w.heap.size 9 1 (.slice (some ⟨w.heap.size, 0, none⟩) 0 0) 0 []) := by rw [hW0]; exact World.ownsRow_lit w #[] 0 (Nat.le_refl _) (by simp) (by simp)
  have BW_0 : Hid (Below w.heap.size w W0) := by rw [hW0]; exact (Below.refl _ _).alloc (Nat.le_refl _) _
  have HV := Lib.hid h
  clear h
  go_enter Tryd.func5, Tryd.ntmps5
  go_wp2_with fail
  rw [← hW0]
  clear hW0
  refine (spec_isVector A n c rs _ (HV.out.below BW_0.out)).mono ?_
  rintro e wb ⟨b, rfl, hq, hb⟩
  have B2 := Lib.hid (BW_0.out.trans (hb.mono BW_0.out.size))
  have O2 := Lib.hid (own_below O0.out hb)
  clear hb
  cases b
  · have HF : Hid (FVecEnd rs w wb (.returned (.string ⟨#[]⟩))) := ⟨_, rfl, .inr ⟨fun h => (by have h1 := hq.2 h; cases h1), rfl⟩, B2.out⟩
    clear hq
    go_wp2_with fail
    go_ret
    exact HF.out
  have QV := Lib.hid (hq.1 rfl)
  clear hq
  have h24 : n ≤ 24 := by rw [← HV.out.1]; exact QV.out.1
  go_wp2_with fail
  go_loopw [3, 12] (fun x y wr => ∃ (i : Nat) (A2 : Option Addr) (c2 : Nat), i ≤ n ∧ y = .int .i64 i ∧ x = .slice A2 i c2 ∧ Hid (wr.ownsRow w.heap.size 9 1 (.slice A2 i c2) i (((rs.map rtext).map Value.string).take i)) ∧ Hid (Below w.heap.size w wr)) (fun _ y _ => n - (intOf y).toNat)
  case atStart => exact ⟨0, _, _, Nat.zero_le _, rfl, rfl, O2, B2⟩
  case round =>
    obtain ⟨i, A2, c2, hle, rfl, rfl, ho, hb⟩ := hrel
    by_cases hlt : i < n
    · obtain ⟨b2, o2, rfl, hb2, r2, hr2, A4, n4, c4, B4, m4, d4, at2, i2, ra2, j2, rb2⟩ := HV.out.atB hb.out i hlt
      have hi0 : (0 : Int) ≤ (i : Int) := by omega
      have hi1 : (i : Int) < (n : Int) := by omega
      have hw0 : w.heap.size ≤ wr.heap.size := hb.out.size
      have hbx : Below wr.heap.size wr (wr.alloc (.cells #[.bool r2.g, .slice A4 n4 c4, .slice B4 m4 d4] 39)) := (Below.refl _ _).alloc (Nat.le_refl _) _
      have BD := Lib.hid (hb.out.trans (hbx.mono hw0))
      have I2 := Lib.hid (i2.below hbx)
      have J2 := Lib.hid (j2.below hbx)
      have RA2 := Lib.hid ra2
      have RB2 := Lib.hid rb2
      have HR2 := Lib.hid hr2
      have OD := Lib.hid (own_below ho.out hbx)
      obtain ⟨e20, e21, e22⟩ := at2
      clear i2 j2 hr2 ra2 rb2 hbx
      go_wp2_with fail
      clear e20 e21 e22
      refine (spec_formatRat0 r2.g A4 n4 c4 r2.xs B4 m4 d4 r2.ds _ I2.out RA2.out J2.out RB2.out).mono ?_
      rintro e w2 ⟨t, rfl, ht, hc2⟩
      have HT := Lib.hid ht
      have HB := Lib.hid (BD.out.trans (hc2.mono BD.out.size))
      have HO := Lib.hid (own_below OD.out hc2)
      clear ht hc2
      go_wp2_with (at_builtin; refine wpList_append_own _ rfl _ _ 35 rfl w.heap.size 9 i0 (.string ⟨#[]⟩) 1 16 Tryd.underlying35 hi hz0 hz1 hz2 rfl (by decide) _ _ _ rfl (HO.out.alloc _) ⟨w2.heap.size, 0, none⟩ 1 1 [.string t] rfl rfl ?c1 ?c2 ?c3 ?c4 ?c5 ?_)
      case c1 => exact cell_one_new _ _ _
      case c2 => simp [Value.oneCell']
      case c3 => unfold maxLen; omega
      case c4 => omega
      case c5 => have := HB.out.size; simp; omega
      intro V' w3 s1 hg _
      obtain ⟨A5, c5, rfl⟩ := own_slice s1
      have s1 : w3.ownsRow w.heap.size 9 1 (.slice A5 (i + 1) c5) (i + 1) (((rs.map rtext).map Value.string).take (i + 1)) := by rw [← texts_succ HR2.out HT.out]; simpa using s1
      have HO3 := Lib.hid s1
      have HB3 : Hid (Below w.heap.size w w3) := (HB.out.alloc HB.out.size _).grown hg (by have := HB.out.size; simp; omega) (fun k hk => (HO.out.lt k hk).1)
      clear s1 hg
      go_wp2_with fail
      go_roundw
      case rel => exact ⟨i + 1, A5, c5, by omega, by go_num, rfl, HO3, HB3⟩
      case measure => simp [intOf]; omega
    · obtain rfl : i = n := by omega
      have HO := ho.out
      rw [List.take_of_length_le (by simp [HV.out.1])] at HO
      have HOO := Lib.hid HO
      clear HO
      go_wp2_with fail
      refine (spec_join A2 i c2 (rs.map rtext) ⟨#[32]⟩ _ (by rw [List.length_map]; exact HV.out.1) (join_room HV.out.1 h24) hn (by decide) (Reads.of_own HOO.out)).mono ?_
      rintro e w3 ⟨rfl, rfl⟩
      have HF : Hid (FVecEnd rs w wr (.returned (.string (joinB (rs.map rtext) ⟨#[32]⟩ i)))) := ⟨_, rfl, .inl ⟨QV.out, by rw [HV.out.1]⟩, hb.out⟩
      go_wp2_with fail
      go_ret
      exact HF.out
theorem spec_formatVector (A : Option Addr) (n c : Nat) (rs : List RD) (w : World) (h : InV w A n rs) :
    Calls Tryd.prog 5 #[.slice A n c] w fun e w' => ∃ r, e = .returned (.string r) ∧ FormatVectorIs rs r ∧ Below w.heap.size w w' := (spec_formatVector0 A n c rs w h).mono fun _ _ h => h
end Go.Proofs.YtjggdbakbhacjaaDoor
