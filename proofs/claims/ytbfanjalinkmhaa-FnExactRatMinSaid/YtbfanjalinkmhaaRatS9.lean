/- Contracts of fractions: the smaller and the greater of two, by the model. -/
import Derived.Test.YtbfanjalinkmhaaRatI4
namespace Go.Proofs.Ytbfanjalinkmhaa
set_option maxRecDepth 100000
open Go.RowKit Go.Deep

theorem hNew1 (W : World) (o : Obj) (t : TypeId) (cs : Array Value) : Hid (Box ((W.alloc o).alloc (.cells cs t)) (W.heap.size + 1) t cs) := hNew _ _ _ (by simp)
theorem ne_some {a b : Nat} (h : a ≠ b) : some a ≠ some b := fun e => h (by simpa using e)
/-- Two results of appends to literals of their own, in whatever order. -/
theorem apart_two' {u v : Value} {B1 H1 B2 H2 S1 S2 : Nat} (hv : ∀ k, v.ownBlock = some k → k = B1 ∨ k = H1) (hv' : ∀ k, v.ownBlock = some k → k < S1) (hu : ∀ k, u.ownBlock = some k → k = B2 ∨ k = H2) (hu' : ∀ k, u.ownBlock = some k → k < S2)
    (a : B1 ≠ B2) (b : H2 < S2 → B1 ≠ H2) (c : H1 < S1 → H1 ≠ B2) (d : H1 < S1 → H2 < S2 → H1 ≠ H2) : Apart u v := by
  intro k hk hk'
  have h1 := hv k hk'
  have h2 := hv' k hk'
  have h3 := hu k hk
  have h4 := hu' k hk
  rcases h1 with rfl | rfl <;> rcases h3 with h3 | h3
  · exact a h3
  · exact b (by omega) h3
  · exact c h2 h3
  · exact d h2 (by omega) h3
set_option maxHeartbeats 3200000 in
theorem spec_l04Copy (g1 : Bool) (A1 : Option Addr) (n1 c1 : Nat) (xs : List Int) (B1 : Option Addr) (m1 d1 : Nat) (es : List Int) (w : World) (h1 : InI w A1 n1 xs) (r1 : Room A1 n1 c1) (k1 : InI w B1 m1 es) (s1 : Room B1 m1 d1) (q1 : xs.length ≤ 24) (q2 : es.length ≤ 24) :
    Calls Try.prog 92 #[.agg #[.bool g1, .slice A1 n1 c1, .slice B1 m1 d1]] w fun e w' => RatEnd (fun g l d => g = g1 ∧ l = xs ∧ d = es) w w' e := by
  obtain ⟨i0, hi, hz0, hz1, hz2⟩ := info_parts Try.infoI
  have hn1 := h1.2.1
  have hm1 := k1.2.1
  obtain ⟨W0, hW0⟩ : ∃ W, W = ((w.alloc (.cells #[.bool g1, .slice A1 n1 c1, .slice B1 m1 d1] 31)).alloc (.cells #[.bool false, .slice none 0 0, .slice none 0 0] 31)) := ⟨_, rfl⟩
  have hy0_0 : Hid (Box W0 (w.heap.size) 31 #[.bool g1, .slice A1 n1 c1, .slice B1 m1 d1]) := by rw [hW0]; exact ((Box.at' (by simp)).alloc _)
  have hs_0 : Hid (Box W0 (w.heap.size + 1) 31 #[.bool false, .slice none 0 0, .slice none 0 0]) := by rw [hW0]; exact (Box.at' (by simp))
  have BW_0 : Hid (Below w.heap.size w W0) := by rw [hW0]; exact (((Below.refl w.heap.size w).alloc (by simp) _).alloc (by simp) _)
  have hsz0 : w.heap.size + 1 + 1 ≤ W0.heap.size := by rw [hW0]; simp
  have HI1 := Lib.hid (h1.below BW_0.out)
  have HJ1 := Lib.hid (k1.below BW_0.out)
  have R1 := Lib.hid r1
  have S1 := Lib.hid s1
  have HH1 := Lib.hid h1
  have HK1 := Lib.hid k1
  clear h1 k1 r1 s1
  go_enter Try.func92, Try.ntmps92
  go_wp2_with fail
  rw [← hW0]
  clear hW0
  have hnn : n1 ≤ 24 := by have := HH1.out.1; omega
  have hmm : m1 ≤ 24 := by have := HK1.out.1; omega
  have cvhy00 : Hid ((#[.bool g1, .slice A1 n1 c1, .slice B1 m1 d1] : Array Value)[0]? = some (.bool g1)) := rfl
  have cvhy01 : Hid ((#[.bool g1, .slice A1 n1 c1, .slice B1 m1 d1] : Array Value)[1]? = some (.slice A1 n1 c1)) := rfl
  have cvhy02 : Hid ((#[.bool g1, .slice A1 n1 c1, .slice B1 m1 d1] : Array Value)[2]? = some (.slice B1 m1 d1)) := rfl
  go_region_held3 (fun w' => w'.cell? ⟨w.heap.size, 0, none⟩ = some (.bool g1) ∧ w'.cell? ⟨w.heap.size, 1, none⟩ = some (.slice A1 n1 c1) ∧ w'.cell? ⟨w.heap.size, 2, none⟩ = some (.slice B1 m1 d1)) (first | with_reducible exact ⟨cellS (t := 31) (by (first | (first | assumption | (with_reducible refine hDrew ?_; (first | assumption | (with_reducible refine hDrew ?_; (first | assumption | (with_reducible refine hDrew ?_; (first | assumption)) | (with_reducible refine hAlloc ?_ _; (first | assumption)))) | (with_reducible refine hAlloc ?_ _; (first | assumption | (with_reducible refine hDrew ?_; (first | assumption)) | (with_reducible refine hAlloc ?_ _; (first | assumption)))))) | (with_reducible refine hAlloc ?_ _; (first | assumption | (with_reducible refine hDrew ?_; (first | assumption | (with_reducible refine hDrew ?_; (first | assumption)) | (with_reducible refine hAlloc ?_ _; (first | assumption)))) | (with_reducible refine hAlloc ?_ _; (first | assumption | (with_reducible refine hDrew ?_; (first | assumption)) | (with_reducible refine hAlloc ?_ _; (first | assumption))))))) | (with_reducible refine hFar (hFar (hFar ?_ (by dsimp only; omega) _) (by dsimp only; omega) _) (by dsimp only; omega) _; (first | assumption | (with_reducible refine hDrew ?_; (first | assumption)) | (with_reducible refine hAlloc ?_ _; (first | assumption)))))) cvhy00, cellS (t := 31) (by (first | (first | assumption | (with_reducible refine hDrew ?_; (first | assumption | (with_reducible refine hDrew ?_; (first | assumption | (with_reducible refine hDrew ?_; (first | assumption)) | (with_reducible refine hAlloc ?_ _; (first | assumption)))) | (with_reducible refine hAlloc ?_ _; (first | assumption | (with_reducible refine hDrew ?_; (first | assumption)) | (with_reducible refine hAlloc ?_ _; (first | assumption)))))) | (with_reducible refine hAlloc ?_ _; (first | assumption | (with_reducible refine hDrew ?_; (first | assumption | (with_reducible refine hDrew ?_; (first | assumption)) | (with_reducible refine hAlloc ?_ _; (first | assumption)))) | (with_reducible refine hAlloc ?_ _; (first | assumption | (with_reducible refine hDrew ?_; (first | assumption)) | (with_reducible refine hAlloc ?_ _; (first | assumption))))))) | (with_reducible refine hFar (hFar (hFar ?_ (by dsimp only; omega) _) (by dsimp only; omega) _) (by dsimp only; omega) _; (first | assumption | (with_reducible refine hDrew ?_; (first | assumption)) | (with_reducible refine hAlloc ?_ _; (first | assumption)))))) cvhy01, cellS (t := 31) (by (first | (first | assumption | (with_reducible refine hDrew ?_; (first | assumption | (with_reducible refine hDrew ?_; (first | assumption | (with_reducible refine hDrew ?_; (first | assumption)) | (with_reducible refine hAlloc ?_ _; (first | assumption)))) | (with_reducible refine hAlloc ?_ _; (first | assumption | (with_reducible refine hDrew ?_; (first | assumption)) | (with_reducible refine hAlloc ?_ _; (first | assumption)))))) | (with_reducible refine hAlloc ?_ _; (first | assumption | (with_reducible refine hDrew ?_; (first | assumption | (with_reducible refine hDrew ?_; (first | assumption)) | (with_reducible refine hAlloc ?_ _; (first | assumption)))) | (with_reducible refine hAlloc ?_ _; (first | assumption | (with_reducible refine hDrew ?_; (first | assumption)) | (with_reducible refine hAlloc ?_ _; (first | assumption))))))) | (with_reducible refine hFar (hFar (hFar ?_ (by dsimp only; omega) _) (by dsimp only; omega) _) (by dsimp only; omega) _; (first | assumption | (with_reducible refine hDrew ?_; (first | assumption)) | (with_reducible refine hAlloc ?_ _; (first | assumption)))))) cvhy02⟩) (first | (refine step_append_lit rfl _ _ 22 rfl 3 i0 (.int .i64 0) 8 Try.underlying22 hi hz0 hz1 hz2 rfl _ rfl B1 m1 d1 (es.map (.int .i64)) rfl (by (first | assumption | with_reducible exact hNew _ _ _ rfl | with_reducible exact hNew1 _ _ _ _ | (with_reducible refine hDrew ?_; (first | assumption | with_reducible exact hNew _ _ _ rfl | with_reducible exact hNew1 _ _ _ _ | (with_reducible refine hDrew ?_; (first | assumption | with_reducible exact hNew _ _ _ rfl | with_reducible exact hNew1 _ _ _ _ | (with_reducible refine hDrew ?_; (first | assumption | with_reducible exact hNew _ _ _ rfl | with_reducible exact hNew1 _ _ _ _)) | (with_reducible refine hAlloc ?_ _; (first | assumption | with_reducible exact hNew _ _ _ rfl | with_reducible exact hNew1 _ _ _ _)))) | (with_reducible refine hAlloc ?_ _; (first | assumption | with_reducible exact hNew _ _ _ rfl | with_reducible exact hNew1 _ _ _ _ | (with_reducible refine hDrew ?_; (first | assumption | with_reducible exact hNew _ _ _ rfl | with_reducible exact hNew1 _ _ _ _)) | (with_reducible refine hAlloc ?_ _; (first | assumption | with_reducible exact hNew _ _ _ rfl | with_reducible exact hNew1 _ _ _ _)))))) | (with_reducible refine hAlloc ?_ _; (first | assumption | with_reducible exact hNew _ _ _ rfl | with_reducible exact hNew1 _ _ _ _ | (with_reducible refine hDrew ?_; (first | assumption | with_reducible exact hNew _ _ _ rfl | with_reducible exact hNew1 _ _ _ _ | (with_reducible refine hDrew ?_; (first | assumption | with_reducible exact hNew _ _ _ rfl | with_reducible exact hNew1 _ _ _ _)) | (with_reducible refine hAlloc ?_ _; (first | assumption | with_reducible exact hNew _ _ _ rfl | with_reducible exact hNew1 _ _ _ _)))) | (with_reducible refine hAlloc ?_ _; (first | assumption | with_reducible exact hNew _ _ _ rfl | with_reducible exact hNew1 _ _ _ _ | (with_reducible refine hDrew ?_; (first | assumption | with_reducible exact hNew _ _ _ rfl | with_reducible exact hNew1 _ _ _ _)) | (with_reducible refine hAlloc ?_ _; (first | assumption | with_reducible exact hNew _ _ _ rfl | with_reducible exact hNew1 _ _ _ _)))))))) ((HK1.out.below (Hid.out (by (first | assumption | (with_reducible refine bDrew ?_; (first | assumption | (with_reducible refine bDrew ?_; (first | assumption | (with_reducible refine bDrew ?_; (first | assumption)) | (with_reducible refine bAlloc ?_ _; (first | assumption)))) | (with_reducible refine bAlloc ?_ _; (first | assumption | (with_reducible refine bDrew ?_; (first | assumption)) | (with_reducible refine bAlloc ?_ _; (first | assumption)))))) | (with_reducible refine bAlloc ?_ _; (first | assumption | (with_reducible refine bDrew ?_; (first | assumption | (with_reducible refine bDrew ?_; (first | assumption)) | (with_reducible refine bAlloc ?_ _; (first | assumption)))) | (with_reducible refine bAlloc ?_ _; (first | assumption | (with_reducible refine bDrew ?_; (first | assumption)) | (with_reducible refine bAlloc ?_ _; (first | assumption)))))))))).rd) (by rw [List.length_map]; exact HK1.out.len) (by simp [Value.oneCell']) (by unfold maxLen; omega) (by omega) ?_; intro uq wnq hown hg hblk hblt hB hBlt hsz; obtain ⟨Hq, hHq, hblk⟩ := blk_told hblk; (try simp only [drew_size] at hBlt hsz hHq); (try simp at hBlt hsz hHq); have hUq := Lib.hid hblk; have hVq := Lib.hid hblt; have hBlq := hBlt; have hSzq := hsz; (try (have HO := oGrown (v := .slice Bp9 n1 dp9) (n := n1) (xs := xs.map (.int .i64)) hg (fun k hk => by have := hUp.out k hk; have := hVp.out k hk; omega) (by first | exact HO | exact oAlloc HO _ | exact oDrew (oAlloc HO _)))); (try (have hLx := hGrown (g := W0.heap.size) (t := 3) (cs := #[]) hg (ne_some (by omega)) (by (first | assumption | with_reducible exact hNew _ _ _ rfl | with_reducible exact hNew1 _ _ _ _ | (with_reducible refine hDrew ?_; (first | assumption | with_reducible exact hNew _ _ _ rfl | with_reducible exact hNew1 _ _ _ _ | (with_reducible refine hDrew ?_; (first | assumption | with_reducible exact hNew _ _ _ rfl | with_reducible exact hNew1 _ _ _ _ | (with_reducible refine hDrew ?_; (first | assumption | with_reducible exact hNew _ _ _ rfl | with_reducible exact hNew1 _ _ _ _)) | (with_reducible refine hAlloc ?_ _; (first | assumption | with_reducible exact hNew _ _ _ rfl | with_reducible exact hNew1 _ _ _ _)))) | (with_reducible refine hAlloc ?_ _; (first | assumption | with_reducible exact hNew _ _ _ rfl | with_reducible exact hNew1 _ _ _ _ | (with_reducible refine hDrew ?_; (first | assumption | with_reducible exact hNew _ _ _ rfl | with_reducible exact hNew1 _ _ _ _)) | (with_reducible refine hAlloc ?_ _; (first | assumption | with_reducible exact hNew _ _ _ rfl | with_reducible exact hNew1 _ _ _ _)))))) | (with_reducible refine hAlloc ?_ _; (first | assumption | with_reducible exact hNew _ _ _ rfl | with_reducible exact hNew1 _ _ _ _ | (with_reducible refine hDrew ?_; (first | assumption | with_reducible exact hNew _ _ _ rfl | with_reducible exact hNew1 _ _ _ _ | (with_reducible refine hDrew ?_; (first | assumption | with_reducible exact hNew _ _ _ rfl | with_reducible exact hNew1 _ _ _ _)) | (with_reducible refine hAlloc ?_ _; (first | assumption | with_reducible exact hNew _ _ _ rfl | with_reducible exact hNew1 _ _ _ _)))) | (with_reducible refine hAlloc ?_ _; (first | assumption | with_reducible exact hNew _ _ _ rfl | with_reducible exact hNew1 _ _ _ _ | (with_reducible refine hDrew ?_; (first | assumption | with_reducible exact hNew _ _ _ rfl | with_reducible exact hNew1 _ _ _ _)) | (with_reducible refine hAlloc ?_ _; (first | assumption | with_reducible exact hNew _ _ _ rfl | with_reducible exact hNew1 _ _ _ _)))))))))); (try (have hLx := hGrown (g := W0.heap.size + 1) (t := 3) (cs := #[]) hg (ne_some (by omega)) (by (first | assumption | with_reducible exact hNew _ _ _ rfl | with_reducible exact hNew1 _ _ _ _ | (with_reducible refine hDrew ?_; (first | assumption | with_reducible exact hNew _ _ _ rfl | with_reducible exact hNew1 _ _ _ _ | (with_reducible refine hDrew ?_; (first | assumption | with_reducible exact hNew _ _ _ rfl | with_reducible exact hNew1 _ _ _ _ | (with_reducible refine hDrew ?_; (first | assumption | with_reducible exact hNew _ _ _ rfl | with_reducible exact hNew1 _ _ _ _)) | (with_reducible refine hAlloc ?_ _; (first | assumption | with_reducible exact hNew _ _ _ rfl | with_reducible exact hNew1 _ _ _ _)))) | (with_reducible refine hAlloc ?_ _; (first | assumption | with_reducible exact hNew _ _ _ rfl | with_reducible exact hNew1 _ _ _ _ | (with_reducible refine hDrew ?_; (first | assumption | with_reducible exact hNew _ _ _ rfl | with_reducible exact hNew1 _ _ _ _)) | (with_reducible refine hAlloc ?_ _; (first | assumption | with_reducible exact hNew _ _ _ rfl | with_reducible exact hNew1 _ _ _ _)))))) | (with_reducible refine hAlloc ?_ _; (first | assumption | with_reducible exact hNew _ _ _ rfl | with_reducible exact hNew1 _ _ _ _ | (with_reducible refine hDrew ?_; (first | assumption | with_reducible exact hNew _ _ _ rfl | with_reducible exact hNew1 _ _ _ _ | (with_reducible refine hDrew ?_; (first | assumption | with_reducible exact hNew _ _ _ rfl | with_reducible exact hNew1 _ _ _ _)) | (with_reducible refine hAlloc ?_ _; (first | assumption | with_reducible exact hNew _ _ _ rfl | with_reducible exact hNew1 _ _ _ _)))) | (with_reducible refine hAlloc ?_ _; (first | assumption | with_reducible exact hNew _ _ _ rfl | with_reducible exact hNew1 _ _ _ _ | (with_reducible refine hDrew ?_; (first | assumption | with_reducible exact hNew _ _ _ rfl | with_reducible exact hNew1 _ _ _ _)) | (with_reducible refine hAlloc ?_ _; (first | assumption | with_reducible exact hNew _ _ _ rfl | with_reducible exact hNew1 _ _ _ _)))))))))); have hy0x := hGrown (g := w.heap.size) (t := 31) (cs := #[.bool g1, .slice A1 n1 c1, .slice B1 m1 d1]) hg (box_ne (g := w.heap.size) (t := 31) (cs := #[.bool g1, .slice A1 n1 c1, .slice B1 m1 d1]) (by (first | (first | assumption | (with_reducible refine hDrew ?_; (first | assumption | (with_reducible refine hDrew ?_; (first | assumption | (with_reducible refine hDrew ?_; (first | assumption)) | (with_reducible refine hAlloc ?_ _; (first | assumption)))) | (with_reducible refine hAlloc ?_ _; (first | assumption | (with_reducible refine hDrew ?_; (first | assumption)) | (with_reducible refine hAlloc ?_ _; (first | assumption)))))) | (with_reducible refine hAlloc ?_ _; (first | assumption | (with_reducible refine hDrew ?_; (first | assumption | (with_reducible refine hDrew ?_; (first | assumption)) | (with_reducible refine hAlloc ?_ _; (first | assumption)))) | (with_reducible refine hAlloc ?_ _; (first | assumption | (with_reducible refine hDrew ?_; (first | assumption)) | (with_reducible refine hAlloc ?_ _; (first | assumption))))))) | (with_reducible refine hFar (hFar (hFar ?_ (by dsimp only; omega) _) (by dsimp only; omega) _) (by dsimp only; omega) _; (first | assumption | (with_reducible refine hDrew ?_; (first | assumption)) | (with_reducible refine hAlloc ?_ _; (first | assumption)))))) hB (by decide)) (by (first | (first | assumption | (with_reducible refine hDrew ?_; (first | assumption | (with_reducible refine hDrew ?_; (first | assumption | (with_reducible refine hDrew ?_; (first | assumption)) | (with_reducible refine hAlloc ?_ _; (first | assumption)))) | (with_reducible refine hAlloc ?_ _; (first | assumption | (with_reducible refine hDrew ?_; (first | assumption)) | (with_reducible refine hAlloc ?_ _; (first | assumption)))))) | (with_reducible refine hAlloc ?_ _; (first | assumption | (with_reducible refine hDrew ?_; (first | assumption | (with_reducible refine hDrew ?_; (first | assumption)) | (with_reducible refine hAlloc ?_ _; (first | assumption)))) | (with_reducible refine hAlloc ?_ _; (first | assumption | (with_reducible refine hDrew ?_; (first | assumption)) | (with_reducible refine hAlloc ?_ _; (first | assumption))))))) | (with_reducible refine hFar (hFar (hFar ?_ (by dsimp only; omega) _) (by dsimp only; omega) _) (by dsimp only; omega) _; (first | assumption | (with_reducible refine hDrew ?_; (first | assumption)) | (with_reducible refine hAlloc ?_ _; (first | assumption)))))); have hsx := hGrown (g := w.heap.size + 1) (t := 31) (cs := #[.bool false, .slice none 0 0, .slice none 0 0]) hg (box_ne (g := w.heap.size + 1) (t := 31) (cs := #[.bool false, .slice none 0 0, .slice none 0 0]) (by (first | (first | assumption | (with_reducible refine hDrew ?_; (first | assumption | (with_reducible refine hDrew ?_; (first | assumption | (with_reducible refine hDrew ?_; (first | assumption)) | (with_reducible refine hAlloc ?_ _; (first | assumption)))) | (with_reducible refine hAlloc ?_ _; (first | assumption | (with_reducible refine hDrew ?_; (first | assumption)) | (with_reducible refine hAlloc ?_ _; (first | assumption)))))) | (with_reducible refine hAlloc ?_ _; (first | assumption | (with_reducible refine hDrew ?_; (first | assumption | (with_reducible refine hDrew ?_; (first | assumption)) | (with_reducible refine hAlloc ?_ _; (first | assumption)))) | (with_reducible refine hAlloc ?_ _; (first | assumption | (with_reducible refine hDrew ?_; (first | assumption)) | (with_reducible refine hAlloc ?_ _; (first | assumption))))))) | (with_reducible refine hFar (hFar (hFar ?_ (by dsimp only; omega) _) (by dsimp only; omega) _) (by dsimp only; omega) _; (first | assumption | (with_reducible refine hDrew ?_; (first | assumption)) | (with_reducible refine hAlloc ?_ _; (first | assumption)))))) hB (by decide)) (by (first | (first | assumption | (with_reducible refine hDrew ?_; (first | assumption | (with_reducible refine hDrew ?_; (first | assumption | (with_reducible refine hDrew ?_; (first | assumption)) | (with_reducible refine hAlloc ?_ _; (first | assumption)))) | (with_reducible refine hAlloc ?_ _; (first | assumption | (with_reducible refine hDrew ?_; (first | assumption)) | (with_reducible refine hAlloc ?_ _; (first | assumption)))))) | (with_reducible refine hAlloc ?_ _; (first | assumption | (with_reducible refine hDrew ?_; (first | assumption | (with_reducible refine hDrew ?_; (first | assumption)) | (with_reducible refine hAlloc ?_ _; (first | assumption)))) | (with_reducible refine hAlloc ?_ _; (first | assumption | (with_reducible refine hDrew ?_; (first | assumption)) | (with_reducible refine hAlloc ?_ _; (first | assumption))))))) | (with_reducible refine hFar (hFar (hFar ?_ (by dsimp only; omega) _) (by dsimp only; omega) _) (by dsimp only; omega) _; (first | assumption | (with_reducible refine hDrew ?_; (first | assumption)) | (with_reducible refine hAlloc ?_ _; (first | assumption)))))); have BWx : Hid (Below w.heap.size w _) := bGrown hg (by omega) (by (first | assumption | (with_reducible refine bDrew ?_; (first | assumption | (with_reducible refine bDrew ?_; (first | assumption | (with_reducible refine bDrew ?_; (first | assumption)) | (with_reducible refine bAlloc ?_ _; (first | assumption)))) | (with_reducible refine bAlloc ?_ _; (first | assumption | (with_reducible refine bDrew ?_; (first | assumption)) | (with_reducible refine bAlloc ?_ _; (first | assumption)))))) | (with_reducible refine bAlloc ?_ _; (first | assumption | (with_reducible refine bDrew ?_; (first | assumption | (with_reducible refine bDrew ?_; (first | assumption)) | (with_reducible refine bAlloc ?_ _; (first | assumption)))) | (with_reducible refine bAlloc ?_ _; (first | assumption | (with_reducible refine bDrew ?_; (first | assumption)) | (with_reducible refine bAlloc ?_ _; (first | assumption)))))))); have ehs0 := hsx.out.cell 0; have ehs1 := hsx.out.cell 1; have ehs2 := hsx.out.cell 2; have fhs0 := hsx.out.free 0; have fhs1 := hsx.out.free 1; have fhs2 := hsx.out.free 2; simp at ehs0 ehs1 ehs2; have HU := Lib.hid hown; obtain ⟨Bq9, dq9, rfl⟩ := own_slice hown; clear hown hg hblk hblt hBlt hsz) | (refine step_append_lit rfl _ _ 22 rfl 3 i0 (.int .i64 0) 8 Try.underlying22 hi hz0 hz1 hz2 rfl _ rfl A1 n1 c1 (xs.map (.int .i64)) rfl (by (first | assumption | with_reducible exact hNew _ _ _ rfl | with_reducible exact hNew1 _ _ _ _ | (with_reducible refine hDrew ?_; (first | assumption | with_reducible exact hNew _ _ _ rfl | with_reducible exact hNew1 _ _ _ _ | (with_reducible refine hDrew ?_; (first | assumption | with_reducible exact hNew _ _ _ rfl | with_reducible exact hNew1 _ _ _ _ | (with_reducible refine hDrew ?_; (first | assumption | with_reducible exact hNew _ _ _ rfl | with_reducible exact hNew1 _ _ _ _)) | (with_reducible refine hAlloc ?_ _; (first | assumption | with_reducible exact hNew _ _ _ rfl | with_reducible exact hNew1 _ _ _ _)))) | (with_reducible refine hAlloc ?_ _; (first | assumption | with_reducible exact hNew _ _ _ rfl | with_reducible exact hNew1 _ _ _ _ | (with_reducible refine hDrew ?_; (first | assumption | with_reducible exact hNew _ _ _ rfl | with_reducible exact hNew1 _ _ _ _)) | (with_reducible refine hAlloc ?_ _; (first | assumption | with_reducible exact hNew _ _ _ rfl | with_reducible exact hNew1 _ _ _ _)))))) | (with_reducible refine hAlloc ?_ _; (first | assumption | with_reducible exact hNew _ _ _ rfl | with_reducible exact hNew1 _ _ _ _ | (with_reducible refine hDrew ?_; (first | assumption | with_reducible exact hNew _ _ _ rfl | with_reducible exact hNew1 _ _ _ _ | (with_reducible refine hDrew ?_; (first | assumption | with_reducible exact hNew _ _ _ rfl | with_reducible exact hNew1 _ _ _ _)) | (with_reducible refine hAlloc ?_ _; (first | assumption | with_reducible exact hNew _ _ _ rfl | with_reducible exact hNew1 _ _ _ _)))) | (with_reducible refine hAlloc ?_ _; (first | assumption | with_reducible exact hNew _ _ _ rfl | with_reducible exact hNew1 _ _ _ _ | (with_reducible refine hDrew ?_; (first | assumption | with_reducible exact hNew _ _ _ rfl | with_reducible exact hNew1 _ _ _ _)) | (with_reducible refine hAlloc ?_ _; (first | assumption | with_reducible exact hNew _ _ _ rfl | with_reducible exact hNew1 _ _ _ _)))))))) ((HH1.out.below (Hid.out (by (first | assumption | (with_reducible refine bDrew ?_; (first | assumption | (with_reducible refine bDrew ?_; (first | assumption | (with_reducible refine bDrew ?_; (first | assumption)) | (with_reducible refine bAlloc ?_ _; (first | assumption)))) | (with_reducible refine bAlloc ?_ _; (first | assumption | (with_reducible refine bDrew ?_; (first | assumption)) | (with_reducible refine bAlloc ?_ _; (first | assumption)))))) | (with_reducible refine bAlloc ?_ _; (first | assumption | (with_reducible refine bDrew ?_; (first | assumption | (with_reducible refine bDrew ?_; (first | assumption)) | (with_reducible refine bAlloc ?_ _; (first | assumption)))) | (with_reducible refine bAlloc ?_ _; (first | assumption | (with_reducible refine bDrew ?_; (first | assumption)) | (with_reducible refine bAlloc ?_ _; (first | assumption)))))))))).rd) (by rw [List.length_map]; exact HH1.out.len) (by simp [Value.oneCell']) (by unfold maxLen; omega) (by omega) ?_; intro up wnp hown hg hblk hblt hB hBlt hsz; obtain ⟨Hp, hHp, hblk⟩ := blk_told hblk; (try simp only [drew_size] at hBlt hsz hHp); (try simp at hBlt hsz hHp); have hUp := Lib.hid hblk; have hVp := Lib.hid hblt; have hBlp := hBlt; have hSzp := hsz; (try (have HU := oGrown (v := .slice Bq9 m1 dq9) (n := m1) (xs := es.map (.int .i64)) hg (fun k hk => by have := hUq.out k hk; have := hVq.out k hk; omega) (by first | exact HU | exact oAlloc HU _ | exact oDrew (oAlloc HU _)))); (try (have hLx := hGrown (g := W0.heap.size) (t := 3) (cs := #[]) hg (ne_some (by omega)) (by (first | assumption | with_reducible exact hNew _ _ _ rfl | with_reducible exact hNew1 _ _ _ _ | (with_reducible refine hDrew ?_; (first | assumption | with_reducible exact hNew _ _ _ rfl | with_reducible exact hNew1 _ _ _ _ | (with_reducible refine hDrew ?_; (first | assumption | with_reducible exact hNew _ _ _ rfl | with_reducible exact hNew1 _ _ _ _ | (with_reducible refine hDrew ?_; (first | assumption | with_reducible exact hNew _ _ _ rfl | with_reducible exact hNew1 _ _ _ _)) | (with_reducible refine hAlloc ?_ _; (first | assumption | with_reducible exact hNew _ _ _ rfl | with_reducible exact hNew1 _ _ _ _)))) | (with_reducible refine hAlloc ?_ _; (first | assumption | with_reducible exact hNew _ _ _ rfl | with_reducible exact hNew1 _ _ _ _ | (with_reducible refine hDrew ?_; (first | assumption | with_reducible exact hNew _ _ _ rfl | with_reducible exact hNew1 _ _ _ _)) | (with_reducible refine hAlloc ?_ _; (first | assumption | with_reducible exact hNew _ _ _ rfl | with_reducible exact hNew1 _ _ _ _)))))) | (with_reducible refine hAlloc ?_ _; (first | assumption | with_reducible exact hNew _ _ _ rfl | with_reducible exact hNew1 _ _ _ _ | (with_reducible refine hDrew ?_; (first | assumption | with_reducible exact hNew _ _ _ rfl | with_reducible exact hNew1 _ _ _ _ | (with_reducible refine hDrew ?_; (first | assumption | with_reducible exact hNew _ _ _ rfl | with_reducible exact hNew1 _ _ _ _)) | (with_reducible refine hAlloc ?_ _; (first | assumption | with_reducible exact hNew _ _ _ rfl | with_reducible exact hNew1 _ _ _ _)))) | (with_reducible refine hAlloc ?_ _; (first | assumption | with_reducible exact hNew _ _ _ rfl | with_reducible exact hNew1 _ _ _ _ | (with_reducible refine hDrew ?_; (first | assumption | with_reducible exact hNew _ _ _ rfl | with_reducible exact hNew1 _ _ _ _)) | (with_reducible refine hAlloc ?_ _; (first | assumption | with_reducible exact hNew _ _ _ rfl | with_reducible exact hNew1 _ _ _ _)))))))))); (try (have hLx := hGrown (g := W0.heap.size + 1) (t := 3) (cs := #[]) hg (ne_some (by omega)) (by (first | assumption | with_reducible exact hNew _ _ _ rfl | with_reducible exact hNew1 _ _ _ _ | (with_reducible refine hDrew ?_; (first | assumption | with_reducible exact hNew _ _ _ rfl | with_reducible exact hNew1 _ _ _ _ | (with_reducible refine hDrew ?_; (first | assumption | with_reducible exact hNew _ _ _ rfl | with_reducible exact hNew1 _ _ _ _ | (with_reducible refine hDrew ?_; (first | assumption | with_reducible exact hNew _ _ _ rfl | with_reducible exact hNew1 _ _ _ _)) | (with_reducible refine hAlloc ?_ _; (first | assumption | with_reducible exact hNew _ _ _ rfl | with_reducible exact hNew1 _ _ _ _)))) | (with_reducible refine hAlloc ?_ _; (first | assumption | with_reducible exact hNew _ _ _ rfl | with_reducible exact hNew1 _ _ _ _ | (with_reducible refine hDrew ?_; (first | assumption | with_reducible exact hNew _ _ _ rfl | with_reducible exact hNew1 _ _ _ _)) | (with_reducible refine hAlloc ?_ _; (first | assumption | with_reducible exact hNew _ _ _ rfl | with_reducible exact hNew1 _ _ _ _)))))) | (with_reducible refine hAlloc ?_ _; (first | assumption | with_reducible exact hNew _ _ _ rfl | with_reducible exact hNew1 _ _ _ _ | (with_reducible refine hDrew ?_; (first | assumption | with_reducible exact hNew _ _ _ rfl | with_reducible exact hNew1 _ _ _ _ | (with_reducible refine hDrew ?_; (first | assumption | with_reducible exact hNew _ _ _ rfl | with_reducible exact hNew1 _ _ _ _)) | (with_reducible refine hAlloc ?_ _; (first | assumption | with_reducible exact hNew _ _ _ rfl | with_reducible exact hNew1 _ _ _ _)))) | (with_reducible refine hAlloc ?_ _; (first | assumption | with_reducible exact hNew _ _ _ rfl | with_reducible exact hNew1 _ _ _ _ | (with_reducible refine hDrew ?_; (first | assumption | with_reducible exact hNew _ _ _ rfl | with_reducible exact hNew1 _ _ _ _)) | (with_reducible refine hAlloc ?_ _; (first | assumption | with_reducible exact hNew _ _ _ rfl | with_reducible exact hNew1 _ _ _ _)))))))))); have hy0x := hGrown (g := w.heap.size) (t := 31) (cs := #[.bool g1, .slice A1 n1 c1, .slice B1 m1 d1]) hg (box_ne (g := w.heap.size) (t := 31) (cs := #[.bool g1, .slice A1 n1 c1, .slice B1 m1 d1]) (by (first | (first | assumption | (with_reducible refine hDrew ?_; (first | assumption | (with_reducible refine hDrew ?_; (first | assumption | (with_reducible refine hDrew ?_; (first | assumption)) | (with_reducible refine hAlloc ?_ _; (first | assumption)))) | (with_reducible refine hAlloc ?_ _; (first | assumption | (with_reducible refine hDrew ?_; (first | assumption)) | (with_reducible refine hAlloc ?_ _; (first | assumption)))))) | (with_reducible refine hAlloc ?_ _; (first | assumption | (with_reducible refine hDrew ?_; (first | assumption | (with_reducible refine hDrew ?_; (first | assumption)) | (with_reducible refine hAlloc ?_ _; (first | assumption)))) | (with_reducible refine hAlloc ?_ _; (first | assumption | (with_reducible refine hDrew ?_; (first | assumption)) | (with_reducible refine hAlloc ?_ _; (first | assumption))))))) | (with_reducible refine hFar (hFar (hFar ?_ (by dsimp only; omega) _) (by dsimp only; omega) _) (by dsimp only; omega) _; (first | assumption | (with_reducible refine hDrew ?_; (first | assumption)) | (with_reducible refine hAlloc ?_ _; (first | assumption)))))) hB (by decide)) (by (first | (first | assumption | (with_reducible refine hDrew ?_; (first | assumption | (with_reducible refine hDrew ?_; (first | assumption | (with_reducible refine hDrew ?_; (first | assumption)) | (with_reducible refine hAlloc ?_ _; (first | assumption)))) | (with_reducible refine hAlloc ?_ _; (first | assumption | (with_reducible refine hDrew ?_; (first | assumption)) | (with_reducible refine hAlloc ?_ _; (first | assumption)))))) | (with_reducible refine hAlloc ?_ _; (first | assumption | (with_reducible refine hDrew ?_; (first | assumption | (with_reducible refine hDrew ?_; (first | assumption)) | (with_reducible refine hAlloc ?_ _; (first | assumption)))) | (with_reducible refine hAlloc ?_ _; (first | assumption | (with_reducible refine hDrew ?_; (first | assumption)) | (with_reducible refine hAlloc ?_ _; (first | assumption))))))) | (with_reducible refine hFar (hFar (hFar ?_ (by dsimp only; omega) _) (by dsimp only; omega) _) (by dsimp only; omega) _; (first | assumption | (with_reducible refine hDrew ?_; (first | assumption)) | (with_reducible refine hAlloc ?_ _; (first | assumption)))))); have hsx := hGrown (g := w.heap.size + 1) (t := 31) (cs := #[.bool false, .slice none 0 0, .slice none 0 0]) hg (box_ne (g := w.heap.size + 1) (t := 31) (cs := #[.bool false, .slice none 0 0, .slice none 0 0]) (by (first | (first | assumption | (with_reducible refine hDrew ?_; (first | assumption | (with_reducible refine hDrew ?_; (first | assumption | (with_reducible refine hDrew ?_; (first | assumption)) | (with_reducible refine hAlloc ?_ _; (first | assumption)))) | (with_reducible refine hAlloc ?_ _; (first | assumption | (with_reducible refine hDrew ?_; (first | assumption)) | (with_reducible refine hAlloc ?_ _; (first | assumption)))))) | (with_reducible refine hAlloc ?_ _; (first | assumption | (with_reducible refine hDrew ?_; (first | assumption | (with_reducible refine hDrew ?_; (first | assumption)) | (with_reducible refine hAlloc ?_ _; (first | assumption)))) | (with_reducible refine hAlloc ?_ _; (first | assumption | (with_reducible refine hDrew ?_; (first | assumption)) | (with_reducible refine hAlloc ?_ _; (first | assumption))))))) | (with_reducible refine hFar (hFar (hFar ?_ (by dsimp only; omega) _) (by dsimp only; omega) _) (by dsimp only; omega) _; (first | assumption | (with_reducible refine hDrew ?_; (first | assumption)) | (with_reducible refine hAlloc ?_ _; (first | assumption)))))) hB (by decide)) (by (first | (first | assumption | (with_reducible refine hDrew ?_; (first | assumption | (with_reducible refine hDrew ?_; (first | assumption | (with_reducible refine hDrew ?_; (first | assumption)) | (with_reducible refine hAlloc ?_ _; (first | assumption)))) | (with_reducible refine hAlloc ?_ _; (first | assumption | (with_reducible refine hDrew ?_; (first | assumption)) | (with_reducible refine hAlloc ?_ _; (first | assumption)))))) | (with_reducible refine hAlloc ?_ _; (first | assumption | (with_reducible refine hDrew ?_; (first | assumption | (with_reducible refine hDrew ?_; (first | assumption)) | (with_reducible refine hAlloc ?_ _; (first | assumption)))) | (with_reducible refine hAlloc ?_ _; (first | assumption | (with_reducible refine hDrew ?_; (first | assumption)) | (with_reducible refine hAlloc ?_ _; (first | assumption))))))) | (with_reducible refine hFar (hFar (hFar ?_ (by dsimp only; omega) _) (by dsimp only; omega) _) (by dsimp only; omega) _; (first | assumption | (with_reducible refine hDrew ?_; (first | assumption)) | (with_reducible refine hAlloc ?_ _; (first | assumption)))))); have BWx : Hid (Below w.heap.size w _) := bGrown hg (by omega) (by (first | assumption | (with_reducible refine bDrew ?_; (first | assumption | (with_reducible refine bDrew ?_; (first | assumption | (with_reducible refine bDrew ?_; (first | assumption)) | (with_reducible refine bAlloc ?_ _; (first | assumption)))) | (with_reducible refine bAlloc ?_ _; (first | assumption | (with_reducible refine bDrew ?_; (first | assumption)) | (with_reducible refine bAlloc ?_ _; (first | assumption)))))) | (with_reducible refine bAlloc ?_ _; (first | assumption | (with_reducible refine bDrew ?_; (first | assumption | (with_reducible refine bDrew ?_; (first | assumption)) | (with_reducible refine bAlloc ?_ _; (first | assumption)))) | (with_reducible refine bAlloc ?_ _; (first | assumption | (with_reducible refine bDrew ?_; (first | assumption)) | (with_reducible refine bAlloc ?_ _; (first | assumption)))))))); have ehs0 := hsx.out.cell 0; have ehs1 := hsx.out.cell 1; have ehs2 := hsx.out.cell 2; have fhs0 := hsx.out.free 0; have fhs1 := hsx.out.free 1; have fhs2 := hsx.out.free 2; simp at ehs0 ehs1 ehs2; have HO := Lib.hid hown; obtain ⟨Bp9, dp9, rfl⟩ := own_slice hown; clear hown hg hblk hblt hBlt hsz))
  all_goals
    have HAP := Lib.hid (apart_two' hUp.out hVp.out hUq.out hVq.out (by omega) (by omega) (by omega) (by omega))
    have HN : Hid (xs.length = n1) := HH1.out.1
    have HM : Hid (es.length = m1) := HK1.out.1
    go_wp2_with fail
    refine bodyPost_ret (v := .agg #[.bool g1, .slice Bp9 n1 dp9, .slice Bq9 m1 dq9]) (by simp [results, Try.results92, ehs0, ehs1, ehs2, go_sem]) rfl ?_
    exact ratEnd_store hsx.out (by omega) BWx.out ⟨rfl, rfl, rfl⟩ HN.out HM.out (by omega) (by omega) HO.out (by first | omega | (simp only [drew_size]; simp; omega) | (simp only [drew_size]; omega)) HU.out (by first | omega | (simp only [drew_size]; simp; omega) | (simp only [drew_size]; omega)) HAP.out
section
variable {g1 g2 : Bool} {xs es ys fs : List Int} {r : Int}
theorem cmpV_le {a b : Int} : cmpV a b ≤ 0 ↔ a ≤ b := by
  unfold cmpV
  split
  · simp; omega
  · split <;> simp <;> omega
theorem cmpV_ge {a b : Int} : 0 ≤ cmpV a b ↔ b ≤ a := by
  unfold cmpV
  split
  · simp; omega
  · split <;> simp <;> omega
theorem smin_first (k1 : ROk g1 xs es) (k2 : ROk g2 ys fs) (h : r = cmpV (bval g1 xs * val fs) (bval g2 ys * val es)) (hr : r ≤ 0) : RatMinIs g1 xs es g2 ys fs g1 xs es :=
  .inl ⟨⟨k1, k2⟩, cmpV_le.1 (h ▸ hr), rfl, rfl, rfl⟩
theorem smin_second (k1 : ROk g1 xs es) (k2 : ROk g2 ys fs) (h : r = cmpV (bval g1 xs * val fs) (bval g2 ys * val es)) (hr : ¬ r ≤ 0) : RatMinIs g1 xs es g2 ys fs g2 ys fs :=
  .inr (.inl ⟨⟨k1, k2⟩, fun c => hr (h ▸ cmpV_le.2 c), rfl, rfl, rfl⟩)
theorem smax_first (k1 : ROk g1 xs es) (k2 : ROk g2 ys fs) (h : r = cmpV (bval g1 xs * val fs) (bval g2 ys * val es)) (hr : 0 ≤ r) : RatMaxIs g1 xs es g2 ys fs g1 xs es :=
  .inl ⟨⟨k1, k2⟩, cmpV_ge.1 (h ▸ hr), rfl, rfl, rfl⟩
theorem smax_second (k1 : ROk g1 xs es) (k2 : ROk g2 ys fs) (h : r = cmpV (bval g1 xs * val fs) (bval g2 ys * val es)) (hr : ¬ 0 ≤ r) : RatMaxIs g1 xs es g2 ys fs g2 ys fs :=
  .inr (.inl ⟨⟨k1, k2⟩, fun c => hr (h ▸ cmpV_ge.2 c), rfl, rfl, rfl⟩)
end
set_option maxHeartbeats 3200000 in
theorem spec_ratMin0 (g1 : Bool) (A1 : Option Addr) (n1 c1 : Nat) (xs : List Int) (B1 : Option Addr) (m1 d1 : Nat) (es : List Int) (g2 : Bool) (A2 : Option Addr) (n2 c2 : Nat) (ys : List Int) (B2 : Option Addr) (m2 d2 : Nat) (fs : List Int) (w : World) (h1 : InI w A1 n1 xs) (r1 : Room A1 n1 c1) (k1 : InI w B1 m1 es) (s1 : Room B1 m1 d1) (h2 : InI w A2 n2 ys) (r2 : Room A2 n2 c2) (k2 : InI w B2 m2 fs) (s2 : Room B2 m2 d2) :
    Calls Try.prog 51 #[.agg #[.bool g1, .slice A1 n1 c1, .slice B1 m1 d1], .agg #[.bool g2, .slice A2 n2 c2, .slice B2 m2 d2]] w fun e w' => RatEnd (RatMinIs g1 xs es g2 ys fs) w w' e := by
  have hn1 := h1.2.1
  have hn2 := h2.2.1
  have hm1 := k1.2.1
  have hm2 := k2.2.1
  obtain ⟨W0, hW0⟩ : ∃ W, W = (((w.alloc (.cells #[.bool g1, .slice A1 n1 c1, .slice B1 m1 d1] 31)).alloc (.cells #[.bool g2, .slice A2 n2 c2, .slice B2 m2 d2] 31)).alloc (.cells #[.bool false, .slice none 0 0, .slice none 0 0] 31)) := ⟨_, rfl⟩
  have hy0_0 : Hid (Box W0 (w.heap.size) 31 #[.bool g1, .slice A1 n1 c1, .slice B1 m1 d1]) := by rw [hW0]; exact (((Box.at' (by simp)).alloc _).alloc _)
  have hy1_0 : Hid (Box W0 (w.heap.size + 1) 31 #[.bool g2, .slice A2 n2 c2, .slice B2 m2 d2]) := by rw [hW0]; exact ((Box.at' (by simp)).alloc _)
  have hs_0 : Hid (Box W0 (w.heap.size + 1 + 1) 31 #[.bool false, .slice none 0 0, .slice none 0 0]) := by rw [hW0]; exact (Box.at' (by simp))
  have BW_0 : Hid (Below w.heap.size w W0) := by rw [hW0]; exact ((((Below.refl w.heap.size w).alloc (by simp) _).alloc (by simp) _).alloc (by simp; omega) _)
  have hsz0 : w.heap.size + 1 + 1 + 1 ≤ W0.heap.size := by rw [hW0]; simp
  have HI1 := Lib.hid (h1.below BW_0.out)
  have HI2 := Lib.hid (h2.below BW_0.out)
  have HJ1 := Lib.hid (k1.below BW_0.out)
  have HJ2 := Lib.hid (k2.below BW_0.out)
  have R1 := Lib.hid r1
  have R2 := Lib.hid r2
  have S1 := Lib.hid s1
  have S2 := Lib.hid s2
  clear h1 h2 k1 k2 r1 r2 s1 s2
  go_enter Try.func51, Try.ntmps51
  go_wp2_with fail
  rw [← hW0]
  clear hW0
  refine (spec_ratOk' g1 A1 n1 c1 xs B1 m1 d1 es _ HI1.out HJ1.out).mono ?_
  rintro e wa ⟨⟨b, rfl, hi⟩, hb⟩
  have hy0_1 := Lib.hid (hy0_0.out.below hb hy0_0.out.lt)
  have hy1_1 := Lib.hid (hy1_0.out.below hb hy1_0.out.lt)
  have hs_1 := Lib.hid (hs_0.out.below hb hs_0.out.lt)
  have BW_1 := Lib.hid (BW_0.out.trans (hb.mono BW_0.out.size))
  replace HI1 := Lib.hid (HI1.out.below hb)
  replace HI2 := Lib.hid (HI2.out.below hb)
  replace HJ1 := Lib.hid (HJ1.out.below hb)
  replace HJ2 := Lib.hid (HJ2.out.below hb)
  clear hb
  have ehy00 := hy0_1.out.cell 0
  have ehy01 := hy0_1.out.cell 1
  have ehy02 := hy0_1.out.cell 2
  have ehy10 := hy1_1.out.cell 0
  have ehy11 := hy1_1.out.cell 1
  have ehy12 := hy1_1.out.cell 2
  have ehs0 := hs_1.out.cell 0
  have ehs1 := hs_1.out.cell 1
  have ehs2 := hs_1.out.cell 2
  have fhs0 := hs_1.out.free 0
  have fhs1 := hs_1.out.free 1
  have fhs2 := hs_1.out.free 2
  simp at ehy00 ehy01 ehy02 ehy10 ehy11 ehy12 ehs0 ehs1 ehs2
  cases b
  · have hno : ¬ (ROk g1 xs es ∧ ROk g2 ys fs) := fun h => by have := hi.2 h.1; cases this
    clear hi
    have HZ : Hid (RatMinIs g1 xs es g2 ys fs false [] []) := pick_no hno
    go_wp2_with fail
    refine bodyPost_ret (v := .agg #[.bool false, .slice none 0 0, .slice none 0 0]) (by simp [results, Try.results51, ehs0, ehs1, ehs2, go_sem]) rfl ?_
    exact ratEnd_zero HZ.out (below_store3 BW_1.out (by omega) _ _ _)
  have K1 := Lib.hid (hi.1 rfl)
  clear hi
  go_wp2_with fail
  refine (spec_ratOk' g2 A2 n2 c2 ys B2 m2 d2 fs _ HI2.out HJ2.out).mono ?_
  rintro e wb ⟨⟨b, rfl, hi⟩, hb⟩
  have hy0_2 := Lib.hid (hy0_1.out.below hb hy0_1.out.lt)
  have hy1_2 := Lib.hid (hy1_1.out.below hb hy1_1.out.lt)
  have hs_2 := Lib.hid (hs_1.out.below hb hs_1.out.lt)
  have BW_2 := Lib.hid (BW_1.out.trans (hb.mono BW_1.out.size))
  replace HI1 := Lib.hid (HI1.out.below hb)
  replace HI2 := Lib.hid (HI2.out.below hb)
  replace HJ1 := Lib.hid (HJ1.out.below hb)
  replace HJ2 := Lib.hid (HJ2.out.below hb)
  clear hb
  clear ehy00 ehy01 ehy02 ehy10 ehy11 ehy12 ehs0 fhs0 ehs1 fhs1 ehs2 fhs2
  have ehy00 := hy0_2.out.cell 0
  have ehy01 := hy0_2.out.cell 1
  have ehy02 := hy0_2.out.cell 2
  have ehy10 := hy1_2.out.cell 0
  have ehy11 := hy1_2.out.cell 1
  have ehy12 := hy1_2.out.cell 2
  have ehs0 := hs_2.out.cell 0
  have ehs1 := hs_2.out.cell 1
  have ehs2 := hs_2.out.cell 2
  have fhs0 := hs_2.out.free 0
  have fhs1 := hs_2.out.free 1
  have fhs2 := hs_2.out.free 2
  simp at ehy00 ehy01 ehy02 ehy10 ehy11 ehy12 ehs0 ehs1 ehs2
  cases b
  · have hno : ¬ (ROk g1 xs es ∧ ROk g2 ys fs) := fun h => by have := hi.2 h.2; cases this
    clear hi
    have HZ : Hid (RatMinIs g1 xs es g2 ys fs false [] []) := pick_no hno
    go_wp2_with fail
    refine bodyPost_ret (v := .agg #[.bool false, .slice none 0 0, .slice none 0 0]) (by simp [results, Try.results51, ehs0, ehs1, ehs2, go_sem]) rfl ?_
    exact ratEnd_zero HZ.out (below_store3 BW_2.out (by omega) _ _ _)
  have K2 := Lib.hid (hi.1 rfl)
  clear hi
  have hn1 : n1 ≤ 24 := by have := K1.out.2.2.2.2.1; rwa [HI1.out.1] at this
  have hn2 : n2 ≤ 24 := by have := K2.out.2.2.2.2.1; rwa [HI2.out.1] at this
  have hm1 : m1 ≤ 24 := by have := K1.out.2.2.2.2.2; rwa [HJ1.out.1] at this
  have hm2 : m2 ≤ 24 := by have := K2.out.2.2.2.2.2; rwa [HJ2.out.1] at this
  go_wp2_with fail
  clear ehy00 ehy01 ehy02 ehy10 ehy11 ehy12 ehs0 fhs0 ehs1 fhs1 ehs2 fhs2
  refine (spec_l04Cmp g1 A1 n1 c1 xs B1 m1 d1 es g2 A2 n2 c2 ys B2 m2 d2 fs _ HI1.out R1.out HJ1.out S1.out HI2.out R2.out HJ2.out S2.out K1.out K2.out).mono ?_
  rintro e wc ⟨rfl, hb⟩
  have hy0_3 := Lib.hid (hy0_2.out.below hb hy0_2.out.lt)
  have hy1_3 := Lib.hid (hy1_2.out.below hb hy1_2.out.lt)
  have hs_3 := Lib.hid (hs_2.out.below hb hs_2.out.lt)
  have BW_3 := Lib.hid (BW_2.out.trans (hb.mono BW_2.out.size))
  replace HI1 := Lib.hid (HI1.out.below hb)
  replace HI2 := Lib.hid (HI2.out.below hb)
  replace HJ1 := Lib.hid (HJ1.out.below hb)
  replace HJ2 := Lib.hid (HJ2.out.below hb)
  clear hb
  have ehy00 := hy0_3.out.cell 0
  have ehy01 := hy0_3.out.cell 1
  have ehy02 := hy0_3.out.cell 2
  have ehy10 := hy1_3.out.cell 0
  have ehy11 := hy1_3.out.cell 1
  have ehy12 := hy1_3.out.cell 2
  have ehs0 := hs_3.out.cell 0
  have ehs1 := hs_3.out.cell 1
  have ehs2 := hs_3.out.cell 2
  have fhs0 := hs_3.out.free 0
  have fhs1 := hs_3.out.free 1
  have fhs2 := hs_3.out.free 2
  simp at ehy00 ehy01 ehy02 ehy10 ehy11 ehy12 ehs0 ehs1 ehs2
  obtain ⟨rc, hrc⟩ : ∃ r, r = cmpV (bval g1 xs * val fs) (bval g2 ys * val es) := ⟨_, rfl⟩
  have HRC := Lib.hid hrc
  rw [← hrc]
  clear hrc
  by_cases hc : rc ≤ 0
  · have HC := Lib.hid hc
    go_wp2_with fail
    clear ehy00 ehy01 ehy02 ehy10 ehy11 ehy12 ehs0 fhs0 ehs1 fhs1 ehs2 fhs2
    refine (spec_l04Copy g1 A1 n1 c1 xs B1 m1 d1 es _ HI1.out R1.out HJ1.out S1.out (by rw [HI1.out.1]; omega) (by rw [HJ1.out.1]; omega)).mono ?_
    rintro e wz ⟨s, r, v, dd, u, rfl, hq2, ⟨hl1, ho1⟩, ⟨hl2, ho2⟩, hap, hb⟩
    obtain ⟨e1, e2, e3⟩ := hq2
    have HQ : Hid (RatMinIs g1 xs es g2 ys fs s r dd) := by rw [e1, e2, e3]; exact smin_first K1.out K2.out HRC.out HC.out
    have HAP := Lib.hid hap
    have hszl := BW_3.out.size
    have hs_4 := Lib.hid (hs_3.out.below hb hs_3.out.lt)
    have BW_4 := Lib.hid (BW_3.out.trans (hb.mono BW_3.out.size))
    clear hb
    clear hap e1 e2 e3
    obtain ⟨A9, c9, rfl⟩ := own_slice ho1
    obtain ⟨B9, d9, rfl⟩ := own_slice ho2
    obtain ⟨N9, hN9⟩ : ∃ N, N = r.length := ⟨_, rfl⟩
    obtain ⟨M9, hM9⟩ : ∃ N, N = dd.length := ⟨_, rfl⟩
    rw [← hN9] at hl1 ho1 HAP ⊢
    rw [← hM9] at hl2 ho2 HAP ⊢
    have HN := Lib.hid hN9.symm
    have HM := Lib.hid hM9.symm
    have HO := Lib.hid ho1
    have HU := Lib.hid ho2
    clear ho1 ho2 hN9 hM9
    have ehs0 := hs_4.out.cell 0
    have ehs1 := hs_4.out.cell 1
    have ehs2 := hs_4.out.cell 2
    have fhs0 := hs_4.out.free 0
    have fhs1 := hs_4.out.free 1
    have fhs2 := hs_4.out.free 2
    simp at ehs0 ehs1 ehs2
    go_wp2_with fail
    refine bodyPost_ret (v := .agg #[.bool s, .slice A9 N9 c9, .slice B9 M9 d9]) (by simp [results, Try.results51, ehs0, ehs1, ehs2, go_sem]) rfl ?_
    exact ratEnd_store hs_4.out (by omega) BW_4.out HQ.out HN.out HM.out (by omega) (by omega) HO.out (by omega) HU.out (by omega) HAP.out
  · have HC := Lib.hid hc
    go_wp2_with fail
    clear ehy00 ehy01 ehy02 ehy10 ehy11 ehy12 ehs0 fhs0 ehs1 fhs1 ehs2 fhs2
    refine (spec_l04Copy g2 A2 n2 c2 ys B2 m2 d2 fs _ HI2.out R2.out HJ2.out S2.out (by rw [HI2.out.1]; omega) (by rw [HJ2.out.1]; omega)).mono ?_
    rintro e wz ⟨s, r, v, dd, u, rfl, hq2, ⟨hl1, ho1⟩, ⟨hl2, ho2⟩, hap, hb⟩
    obtain ⟨e1, e2, e3⟩ := hq2
    have HQ : Hid (RatMinIs g1 xs es g2 ys fs s r dd) := by rw [e1, e2, e3]; exact smin_second K1.out K2.out HRC.out (by have := HC.out; omega)
    have HAP := Lib.hid hap
    have hszl := BW_3.out.size
    have hs_4 := Lib.hid (hs_3.out.below hb hs_3.out.lt)
    have BW_4 := Lib.hid (BW_3.out.trans (hb.mono BW_3.out.size))
    clear hb
    clear hap e1 e2 e3
    obtain ⟨A9, c9, rfl⟩ := own_slice ho1
    obtain ⟨B9, d9, rfl⟩ := own_slice ho2
    obtain ⟨N9, hN9⟩ : ∃ N, N = r.length := ⟨_, rfl⟩
    obtain ⟨M9, hM9⟩ : ∃ N, N = dd.length := ⟨_, rfl⟩
    rw [← hN9] at hl1 ho1 HAP ⊢
    rw [← hM9] at hl2 ho2 HAP ⊢
    have HN := Lib.hid hN9.symm
    have HM := Lib.hid hM9.symm
    have HO := Lib.hid ho1
    have HU := Lib.hid ho2
    clear ho1 ho2 hN9 hM9
    have ehs0 := hs_4.out.cell 0
    have ehs1 := hs_4.out.cell 1
    have ehs2 := hs_4.out.cell 2
    have fhs0 := hs_4.out.free 0
    have fhs1 := hs_4.out.free 1
    have fhs2 := hs_4.out.free 2
    simp at ehs0 ehs1 ehs2
    go_wp2_with fail
    refine bodyPost_ret (v := .agg #[.bool s, .slice A9 N9 c9, .slice B9 M9 d9]) (by simp [results, Try.results51, ehs0, ehs1, ehs2, go_sem]) rfl ?_
    exact ratEnd_store hs_4.out (by omega) BW_4.out HQ.out HN.out HM.out (by omega) (by omega) HO.out (by omega) HU.out (by omega) HAP.out
theorem spec_ratMin (g1 : Bool) (A1 : Option Addr) (n1 c1 : Nat) (xs : List Int) (B1 : Option Addr) (m1 d1 : Nat) (es : List Int) (g2 : Bool) (A2 : Option Addr) (n2 c2 : Nat) (ys : List Int) (B2 : Option Addr) (m2 d2 : Nat) (fs : List Int) (w : World) (h1 : InI w A1 n1 xs) (r1 : Room A1 n1 c1) (k1 : InI w B1 m1 es) (s1 : Room B1 m1 d1) (h2 : InI w A2 n2 ys) (r2 : Room A2 n2 c2) (k2 : InI w B2 m2 fs) (s2 : Room B2 m2 d2) :
    Calls Try.prog 51 #[.agg #[.bool g1, .slice A1 n1 c1, .slice B1 m1 d1], .agg #[.bool g2, .slice A2 n2 c2, .slice B2 m2 d2]] w fun e w' => ∃ g r v d u, e = .returned (.agg #[.bool g, v, u]) ∧ RatMinIs g1 xs es g2 ys fs g r d ∧ ResI w w' v r ∧ ResI w w' u d ∧ Apart u v ∧ Below w.heap.size w w' :=
  (spec_ratMin0 g1 A1 n1 c1 xs B1 m1 d1 es g2 A2 n2 c2 ys B2 m2 d2 fs w h1 r1 k1 s1 h2 r2 k2 s2).mono fun _ _ h => h
set_option maxHeartbeats 3200000 in
theorem spec_ratMax0 (g1 : Bool) (A1 : Option Addr) (n1 c1 : Nat) (xs : List Int) (B1 : Option Addr) (m1 d1 : Nat) (es : List Int) (g2 : Bool) (A2 : Option Addr) (n2 c2 : Nat) (ys : List Int) (B2 : Option Addr) (m2 d2 : Nat) (fs : List Int) (w : World) (h1 : InI w A1 n1 xs) (r1 : Room A1 n1 c1) (k1 : InI w B1 m1 es) (s1 : Room B1 m1 d1) (h2 : InI w A2 n2 ys) (r2 : Room A2 n2 c2) (k2 : InI w B2 m2 fs) (s2 : Room B2 m2 d2) :
    Calls Try.prog 53 #[.agg #[.bool g1, .slice A1 n1 c1, .slice B1 m1 d1], .agg #[.bool g2, .slice A2 n2 c2, .slice B2 m2 d2]] w fun e w' => RatEnd (RatMaxIs g1 xs es g2 ys fs) w w' e := by
  have hn1 := h1.2.1
  have hn2 := h2.2.1
  have hm1 := k1.2.1
  have hm2 := k2.2.1
  obtain ⟨W0, hW0⟩ : ∃ W, W = (((w.alloc (.cells #[.bool g1, .slice A1 n1 c1, .slice B1 m1 d1] 31)).alloc (.cells #[.bool g2, .slice A2 n2 c2, .slice B2 m2 d2] 31)).alloc (.cells #[.bool false, .slice none 0 0, .slice none 0 0] 31)) := ⟨_, rfl⟩
  have hy0_0 : Hid (Box W0 (w.heap.size) 31 #[.bool g1, .slice A1 n1 c1, .slice B1 m1 d1]) := by rw [hW0]; exact (((Box.at' (by simp)).alloc _).alloc _)
  have hy1_0 : Hid (Box W0 (w.heap.size + 1) 31 #[.bool g2, .slice A2 n2 c2, .slice B2 m2 d2]) := by rw [hW0]; exact ((Box.at' (by simp)).alloc _)
  have hs_0 : Hid (Box W0 (w.heap.size + 1 + 1) 31 #[.bool false, .slice none 0 0, .slice none 0 0]) := by rw [hW0]; exact (Box.at' (by simp))
  have BW_0 : Hid (Below w.heap.size w W0) := by rw [hW0]; exact ((((Below.refl w.heap.size w).alloc (by simp) _).alloc (by simp) _).alloc (by simp; omega) _)
  have hsz0 : w.heap.size + 1 + 1 + 1 ≤ W0.heap.size := by rw [hW0]; simp
  have HI1 := Lib.hid (h1.below BW_0.out)
  have HI2 := Lib.hid (h2.below BW_0.out)
  have HJ1 := Lib.hid (k1.below BW_0.out)
  have HJ2 := Lib.hid (k2.below BW_0.out)
  have R1 := Lib.hid r1
  have R2 := Lib.hid r2
  have S1 := Lib.hid s1
  have S2 := Lib.hid s2
  clear h1 h2 k1 k2 r1 r2 s1 s2
  go_enter Try.func53, Try.ntmps53
  go_wp2_with fail
  rw [← hW0]
  clear hW0
  refine (spec_ratOk' g1 A1 n1 c1 xs B1 m1 d1 es _ HI1.out HJ1.out).mono ?_
  rintro e wa ⟨⟨b, rfl, hi⟩, hb⟩
  have hy0_1 := Lib.hid (hy0_0.out.below hb hy0_0.out.lt)
  have hy1_1 := Lib.hid (hy1_0.out.below hb hy1_0.out.lt)
  have hs_1 := Lib.hid (hs_0.out.below hb hs_0.out.lt)
  have BW_1 := Lib.hid (BW_0.out.trans (hb.mono BW_0.out.size))
  replace HI1 := Lib.hid (HI1.out.below hb)
  replace HI2 := Lib.hid (HI2.out.below hb)
  replace HJ1 := Lib.hid (HJ1.out.below hb)
  replace HJ2 := Lib.hid (HJ2.out.below hb)
  clear hb
  have ehy00 := hy0_1.out.cell 0
  have ehy01 := hy0_1.out.cell 1
  have ehy02 := hy0_1.out.cell 2
  have ehy10 := hy1_1.out.cell 0
  have ehy11 := hy1_1.out.cell 1
  have ehy12 := hy1_1.out.cell 2
  have ehs0 := hs_1.out.cell 0
  have ehs1 := hs_1.out.cell 1
  have ehs2 := hs_1.out.cell 2
  have fhs0 := hs_1.out.free 0
  have fhs1 := hs_1.out.free 1
  have fhs2 := hs_1.out.free 2
  simp at ehy00 ehy01 ehy02 ehy10 ehy11 ehy12 ehs0 ehs1 ehs2
  cases b
  · have hno : ¬ (ROk g1 xs es ∧ ROk g2 ys fs) := fun h => by have := hi.2 h.1; cases this
    clear hi
    have HZ : Hid (RatMaxIs g1 xs es g2 ys fs false [] []) := pick_no hno
    go_wp2_with fail
    refine bodyPost_ret (v := .agg #[.bool false, .slice none 0 0, .slice none 0 0]) (by simp [results, Try.results53, ehs0, ehs1, ehs2, go_sem]) rfl ?_
    exact ratEnd_zero HZ.out (below_store3 BW_1.out (by omega) _ _ _)
  have K1 := Lib.hid (hi.1 rfl)
  clear hi
  go_wp2_with fail
  refine (spec_ratOk' g2 A2 n2 c2 ys B2 m2 d2 fs _ HI2.out HJ2.out).mono ?_
  rintro e wb ⟨⟨b, rfl, hi⟩, hb⟩
  have hy0_2 := Lib.hid (hy0_1.out.below hb hy0_1.out.lt)
  have hy1_2 := Lib.hid (hy1_1.out.below hb hy1_1.out.lt)
  have hs_2 := Lib.hid (hs_1.out.below hb hs_1.out.lt)
  have BW_2 := Lib.hid (BW_1.out.trans (hb.mono BW_1.out.size))
  replace HI1 := Lib.hid (HI1.out.below hb)
  replace HI2 := Lib.hid (HI2.out.below hb)
  replace HJ1 := Lib.hid (HJ1.out.below hb)
  replace HJ2 := Lib.hid (HJ2.out.below hb)
  clear hb
  clear ehy00 ehy01 ehy02 ehy10 ehy11 ehy12 ehs0 fhs0 ehs1 fhs1 ehs2 fhs2
  have ehy00 := hy0_2.out.cell 0
  have ehy01 := hy0_2.out.cell 1
  have ehy02 := hy0_2.out.cell 2
  have ehy10 := hy1_2.out.cell 0
  have ehy11 := hy1_2.out.cell 1
  have ehy12 := hy1_2.out.cell 2
  have ehs0 := hs_2.out.cell 0
  have ehs1 := hs_2.out.cell 1
  have ehs2 := hs_2.out.cell 2
  have fhs0 := hs_2.out.free 0
  have fhs1 := hs_2.out.free 1
  have fhs2 := hs_2.out.free 2
  simp at ehy00 ehy01 ehy02 ehy10 ehy11 ehy12 ehs0 ehs1 ehs2
  cases b
  · have hno : ¬ (ROk g1 xs es ∧ ROk g2 ys fs) := fun h => by have := hi.2 h.2; cases this
    clear hi
    have HZ : Hid (RatMaxIs g1 xs es g2 ys fs false [] []) := pick_no hno
    go_wp2_with fail
    refine bodyPost_ret (v := .agg #[.bool false, .slice none 0 0, .slice none 0 0]) (by simp [results, Try.results53, ehs0, ehs1, ehs2, go_sem]) rfl ?_
    exact ratEnd_zero HZ.out (below_store3 BW_2.out (by omega) _ _ _)
  have K2 := Lib.hid (hi.1 rfl)
  clear hi
  have hn1 : n1 ≤ 24 := by have := K1.out.2.2.2.2.1; rwa [HI1.out.1] at this
  have hn2 : n2 ≤ 24 := by have := K2.out.2.2.2.2.1; rwa [HI2.out.1] at this
  have hm1 : m1 ≤ 24 := by have := K1.out.2.2.2.2.2; rwa [HJ1.out.1] at this
  have hm2 : m2 ≤ 24 := by have := K2.out.2.2.2.2.2; rwa [HJ2.out.1] at this
  go_wp2_with fail
  clear ehy00 ehy01 ehy02 ehy10 ehy11 ehy12 ehs0 fhs0 ehs1 fhs1 ehs2 fhs2
  refine (spec_l04Cmp g1 A1 n1 c1 xs B1 m1 d1 es g2 A2 n2 c2 ys B2 m2 d2 fs _ HI1.out R1.out HJ1.out S1.out HI2.out R2.out HJ2.out S2.out K1.out K2.out).mono ?_
  rintro e wc ⟨rfl, hb⟩
  have hy0_3 := Lib.hid (hy0_2.out.below hb hy0_2.out.lt)
  have hy1_3 := Lib.hid (hy1_2.out.below hb hy1_2.out.lt)
  have hs_3 := Lib.hid (hs_2.out.below hb hs_2.out.lt)
  have BW_3 := Lib.hid (BW_2.out.trans (hb.mono BW_2.out.size))
  replace HI1 := Lib.hid (HI1.out.below hb)
  replace HI2 := Lib.hid (HI2.out.below hb)
  replace HJ1 := Lib.hid (HJ1.out.below hb)
  replace HJ2 := Lib.hid (HJ2.out.below hb)
  clear hb
  have ehy00 := hy0_3.out.cell 0
  have ehy01 := hy0_3.out.cell 1
  have ehy02 := hy0_3.out.cell 2
  have ehy10 := hy1_3.out.cell 0
  have ehy11 := hy1_3.out.cell 1
  have ehy12 := hy1_3.out.cell 2
  have ehs0 := hs_3.out.cell 0
  have ehs1 := hs_3.out.cell 1
  have ehs2 := hs_3.out.cell 2
  have fhs0 := hs_3.out.free 0
  have fhs1 := hs_3.out.free 1
  have fhs2 := hs_3.out.free 2
  simp at ehy00 ehy01 ehy02 ehy10 ehy11 ehy12 ehs0 ehs1 ehs2
  obtain ⟨rc, hrc⟩ : ∃ r, r = cmpV (bval g1 xs * val fs) (bval g2 ys * val es) := ⟨_, rfl⟩
  have HRC := Lib.hid hrc
  rw [← hrc]
  clear hrc
  by_cases hc : 0 ≤ rc
  · have HC := Lib.hid hc
    go_wp2_with fail
    clear ehy00 ehy01 ehy02 ehy10 ehy11 ehy12 ehs0 fhs0 ehs1 fhs1 ehs2 fhs2
    refine (spec_l04Copy g1 A1 n1 c1 xs B1 m1 d1 es _ HI1.out R1.out HJ1.out S1.out (by rw [HI1.out.1]; omega) (by rw [HJ1.out.1]; omega)).mono ?_
    rintro e wz ⟨s, r, v, dd, u, rfl, hq2, ⟨hl1, ho1⟩, ⟨hl2, ho2⟩, hap, hb⟩
    obtain ⟨e1, e2, e3⟩ := hq2
    have HQ : Hid (RatMaxIs g1 xs es g2 ys fs s r dd) := by rw [e1, e2, e3]; exact smax_first K1.out K2.out HRC.out HC.out
    have HAP := Lib.hid hap
    have hszl := BW_3.out.size
    have hs_4 := Lib.hid (hs_3.out.below hb hs_3.out.lt)
    have BW_4 := Lib.hid (BW_3.out.trans (hb.mono BW_3.out.size))
    clear hb
    clear hap e1 e2 e3
    obtain ⟨A9, c9, rfl⟩ := own_slice ho1
    obtain ⟨B9, d9, rfl⟩ := own_slice ho2
    obtain ⟨N9, hN9⟩ : ∃ N, N = r.length := ⟨_, rfl⟩
    obtain ⟨M9, hM9⟩ : ∃ N, N = dd.length := ⟨_, rfl⟩
    rw [← hN9] at hl1 ho1 HAP ⊢
    rw [← hM9] at hl2 ho2 HAP ⊢
    have HN := Lib.hid hN9.symm
    have HM := Lib.hid hM9.symm
    have HO := Lib.hid ho1
    have HU := Lib.hid ho2
    clear ho1 ho2 hN9 hM9
    have ehs0 := hs_4.out.cell 0
    have ehs1 := hs_4.out.cell 1
    have ehs2 := hs_4.out.cell 2
    have fhs0 := hs_4.out.free 0
    have fhs1 := hs_4.out.free 1
    have fhs2 := hs_4.out.free 2
    simp at ehs0 ehs1 ehs2
    go_wp2_with fail
    refine bodyPost_ret (v := .agg #[.bool s, .slice A9 N9 c9, .slice B9 M9 d9]) (by simp [results, Try.results53, ehs0, ehs1, ehs2, go_sem]) rfl ?_
    exact ratEnd_store hs_4.out (by omega) BW_4.out HQ.out HN.out HM.out (by omega) (by omega) HO.out (by omega) HU.out (by omega) HAP.out
  · have HC := Lib.hid hc
    go_wp2_with fail
    clear ehy00 ehy01 ehy02 ehy10 ehy11 ehy12 ehs0 fhs0 ehs1 fhs1 ehs2 fhs2
    refine (spec_l04Copy g2 A2 n2 c2 ys B2 m2 d2 fs _ HI2.out R2.out HJ2.out S2.out (by rw [HI2.out.1]; omega) (by rw [HJ2.out.1]; omega)).mono ?_
    rintro e wz ⟨s, r, v, dd, u, rfl, hq2, ⟨hl1, ho1⟩, ⟨hl2, ho2⟩, hap, hb⟩
    obtain ⟨e1, e2, e3⟩ := hq2
    have HQ : Hid (RatMaxIs g1 xs es g2 ys fs s r dd) := by rw [e1, e2, e3]; exact smax_second K1.out K2.out HRC.out (by have := HC.out; omega)
    have HAP := Lib.hid hap
    have hszl := BW_3.out.size
    have hs_4 := Lib.hid (hs_3.out.below hb hs_3.out.lt)
    have BW_4 := Lib.hid (BW_3.out.trans (hb.mono BW_3.out.size))
    clear hb
    clear hap e1 e2 e3
    obtain ⟨A9, c9, rfl⟩ := own_slice ho1
    obtain ⟨B9, d9, rfl⟩ := own_slice ho2
    obtain ⟨N9, hN9⟩ : ∃ N, N = r.length := ⟨_, rfl⟩
    obtain ⟨M9, hM9⟩ : ∃ N, N = dd.length := ⟨_, rfl⟩
    rw [← hN9] at hl1 ho1 HAP ⊢
    rw [← hM9] at hl2 ho2 HAP ⊢
    have HN := Lib.hid hN9.symm
    have HM := Lib.hid hM9.symm
    have HO := Lib.hid ho1
    have HU := Lib.hid ho2
    clear ho1 ho2 hN9 hM9
    have ehs0 := hs_4.out.cell 0
    have ehs1 := hs_4.out.cell 1
    have ehs2 := hs_4.out.cell 2
    have fhs0 := hs_4.out.free 0
    have fhs1 := hs_4.out.free 1
    have fhs2 := hs_4.out.free 2
    simp at ehs0 ehs1 ehs2
    go_wp2_with fail
    refine bodyPost_ret (v := .agg #[.bool s, .slice A9 N9 c9, .slice B9 M9 d9]) (by simp [results, Try.results53, ehs0, ehs1, ehs2, go_sem]) rfl ?_
    exact ratEnd_store hs_4.out (by omega) BW_4.out HQ.out HN.out HM.out (by omega) (by omega) HO.out (by omega) HU.out (by omega) HAP.out
theorem spec_ratMax (g1 : Bool) (A1 : Option Addr) (n1 c1 : Nat) (xs : List Int) (B1 : Option Addr) (m1 d1 : Nat) (es : List Int) (g2 : Bool) (A2 : Option Addr) (n2 c2 : Nat) (ys : List Int) (B2 : Option Addr) (m2 d2 : Nat) (fs : List Int) (w : World) (h1 : InI w A1 n1 xs) (r1 : Room A1 n1 c1) (k1 : InI w B1 m1 es) (s1 : Room B1 m1 d1) (h2 : InI w A2 n2 ys) (r2 : Room A2 n2 c2) (k2 : InI w B2 m2 fs) (s2 : Room B2 m2 d2) :
    Calls Try.prog 53 #[.agg #[.bool g1, .slice A1 n1 c1, .slice B1 m1 d1], .agg #[.bool g2, .slice A2 n2 c2, .slice B2 m2 d2]] w fun e w' => ∃ g r v d u, e = .returned (.agg #[.bool g, v, u]) ∧ RatMaxIs g1 xs es g2 ys fs g r d ∧ ResI w w' v r ∧ ResI w w' u d ∧ Apart u v ∧ Below w.heap.size w w' :=
  (spec_ratMax0 g1 A1 n1 c1 xs B1 m1 d1 es g2 A2 n2 c2 ys B2 m2 d2 fs w h1 r1 k1 s1 h2 r2 k2 s2).mono fun _ _ h => h
end Go.Proofs.Ytbfanjalinkmhaa
