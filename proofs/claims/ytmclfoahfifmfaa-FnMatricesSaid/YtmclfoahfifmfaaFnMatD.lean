/- What FnMatrices reckons, as data. No program is named here. -/
import Derived.Test.YtmclfoahfifmfaaAlgM
import Derived.Test.YtmclfoahfifmfaaMatS5
import Derived.Test.YtmclfoahfifmfaaDraw2
namespace Go.Proofs.Ytmclfoahfifmfaa
set_option maxRecDepth 100000
open Go.RowKit

structure FM (ra rb rv tb ta ab ba x y z : List RD) : Prop where
  la : ra.length = 6
  lb : rb.length = 6
  lv : rv.length = 2
  ltb : tb.length = 6
  lta : ta.length = 6
  lab : ab.length = 4
  lba : ba.length = 4
  lx : x.length = 2
  ly : y.length = 3
  lz : z.length = 2
  m1 : MultiplyIs 2 3 ra 3 2 rb 2 2 ab true
  tB : TransposeIs 3 2 rb 2 3 tb
  tA : TransposeIs 2 3 ra 3 2 ta
  m2 : MultiplyIs 2 3 tb 3 2 ta 2 2 ba true
  ax : ApplyMatrixIs 2 2 ab rv x true
  ay : ApplyMatrixIs 3 2 rb rv y true
  az : ApplyMatrixIs 2 3 ra y z true
  xz : x = z
  tab : TransposeIs 2 2 ab 2 2 ba
  mab : MOk 2 2 ab
  row : RowOfIs 2 3 ra 1 (mrow 3 ra 1)
  cell : ∀ r, ra[5]? = some r → CellAtIs 2 3 ra 1 2 r.g r.xs r.ds
theorem fm_ex {ra rb rv : List RD} (ha : ra.length = 6) (hb : rb.length = 6) (hv : rv.length = 2) (sa : ∀ r ∈ ra, Small 20 r) (sb : ∀ r ∈ rb, Small 20 r) (sv : ∀ r ∈ rv, Small 20 r) : ∃ tb ta ab ba x y z, FM ra rb rv tb ta ab ba x y z := by
  obtain ⟨l1, l2, l3, l4, l5, l6, l7, l8⟩ := mat_law ha hb hv sa sb sv
  have MA : MOk 2 3 ra := ⟨⟨by omega, by omega⟩, ⟨by omega, by omega⟩, by rw [ha]; rfl, small_ok sa⟩
  have MB : MOk 3 2 rb := ⟨⟨by omega, by omega⟩, ⟨by omega, by omega⟩, by rw [hb]; rfl, small_ok sb⟩
  have MTB : MOk 2 3 (trans 3 2 rb) := MOk.trans (P := 3) (K := 2) MB
  have MTA : MOk 3 2 (trans 2 3 ra) := MOk.trans (P := 2) (K := 3) MA
  have MAB : MOk 2 2 (mmul 2 3 2 ra rb) := ⟨⟨by omega, by omega⟩, ⟨by omega, by omega⟩, by rw [mmul_length]; rfl, l1⟩
  have VV : VOk rv := ⟨by omega, small_ok sv⟩
  have VY : VOk (mapp 3 2 rb rv) := ⟨by rw [mapp_length]; omega, l4⟩
  refine ⟨trans 3 2 rb, trans 2 3 ra, mmul 2 3 2 ra rb, mmul 2 3 2 (trans 3 2 rb) (trans 2 3 ra), mapp 2 2 (mmul 2 3 2 ra rb) rv, mapp 3 2 rb rv, mapp 2 3 ra (mapp 3 2 rb rv), ha, hb, hv, by rw [trans_length], by rw [trans_length], by rw [mmul_length], by rw [mmul_length], by rw [mapp_length], by rw [mapp_length], by rw [mapp_length], ?_, ?_, ?_, ?_, ?_, ?_, ?_, l6, ?_, MAB, ?_, ?_⟩
  · exact .inl ⟨⟨⟨MA, MB, rfl⟩, l1⟩, rfl, rfl, rfl, rfl⟩
  · exact .inl ⟨MB, rfl, rfl, rfl⟩
  · exact .inl ⟨MA, rfl, rfl, rfl⟩
  · exact .inl ⟨⟨⟨MTB, MTA, rfl⟩, l2⟩, rfl, rfl, rfl, rfl⟩
  · exact .inl ⟨⟨⟨MAB, VV, by rw [hv]; rfl⟩, l3⟩, rfl, rfl⟩
  · exact .inl ⟨⟨⟨MB, VV, by rw [hv]; rfl⟩, l4⟩, rfl, rfl⟩
  · exact .inl ⟨⟨⟨MA, VY, by rw [mapp_length]; rfl⟩, l5⟩, rfl, rfl⟩
  · exact .inl ⟨MAB, rfl, rfl, l7.symm⟩
  · exact .inl ⟨⟨MA, by omega, by omega⟩, rfl⟩
  · intro r hr
    exact .inl ⟨⟨MA, ⟨by omega, by omega⟩, by omega, by omega⟩, hr⟩
theorem resV_arg {w w' : World} {V : Value} {rs : List RD} {n : Nat} (h : ResV w w' V rs) (hn : rs.length = n) : ∃ A c, V = .slice A n c ∧ n ≤ c ∧ InV w' A n rs := by
  obtain ⟨h1, h2, L, ho, hh⟩ := h
  rw [hn] at ho h1
  obtain ⟨A, c, rfl⟩ := ho.slice
  exact ⟨A, c, rfl, own_le ho.2.1, ho.in_ hh (by omega) h2⟩
end Go.Proofs.Ytmclfoahfifmfaa
