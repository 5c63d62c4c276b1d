/- The vector of a member, by the program and by the model. -/
import Derived.Test.YtcmbfgaojlnjcaaStO4
import Derived.Test.YtcmbfgaojlnjcaaStepA
namespace Go.Proofs.Ytcmbfgaojlnjcaa
set_option maxRecDepth 100000
open Go.RowKit

/-- A structure in a variable, one of its members, its two joints. -/
def VHeld (w : World) (g : Nat) (A : Option Addr) (n c : Nat) (B : Option Addr) (m d bm om k : Nat) (mm : MD) (b o p q : Nat) (ja jb : JD) : Prop :=
  Box w g 48 #[.slice A n c, .slice B m d] ∧ AtM w bm (om + k * 3) mm ∧ AtJ w b (o + p * 4) ja ∧ AtJ w b (o + q * 4) jb
section
variable {w w' : World} {g G : Nat} {A : Option Addr} {n c : Nat} {B : Option Addr} {m d bm om k : Nat} {mm : MD} {b o p q : Nat} {ja jb : JD}
theorem VHeld.below (h : VHeld w g A n c B m d bm om k mm b o p q ja jb) (h1 : bm < w.heap.size) (h2 : b < w.heap.size) (hb : Below w.heap.size w w') : VHeld w' g A n c B m d bm om k mm b o p q ja jb :=
  ⟨h.1.below hb h.1.lt, h.2.1.below h1 hb, h.2.2.1.below h2 hb, h.2.2.2.below h2 hb⟩
theorem atM_far4 {j : MD} (h : AtM w b o j) (hne : b ≠ G) (u0 u1 u2 u3 : Value) : AtM ((((w.setCell ⟨G, 0, none⟩ u0).setCell ⟨G, 1, none⟩ u1).setCell ⟨G, 2, none⟩ u2).setCell ⟨G, 3, none⟩ u3) b o j := by
  have hh : ((((w.setCell ⟨G, 0, none⟩ u0).setCell ⟨G, 1, none⟩ u1).setCell ⟨G, 2, none⟩ u2).setCell ⟨G, 3, none⟩ u3).heap[b]? = w.heap[b]? := (Below.heap_setCell _ _ _ b hne).trans ((Below.heap_setCell _ _ _ b hne).trans ((Below.heap_setCell _ _ _ b hne).trans (Below.heap_setCell _ _ _ b hne)))
  have key : ∀ k v, w.cell? ⟨b, k, none⟩ = some v → ((((w.setCell ⟨G, 0, none⟩ u0).setCell ⟨G, 1, none⟩ u1).setCell ⟨G, 2, none⟩ u2).setCell ⟨G, 3, none⟩ u3).cell? ⟨b, k, none⟩ = some v := fun k v hv => (World.cell?_of_block (a := ⟨b, k, none⟩) hh).trans hv
  exact ⟨key _ _ h.1, key _ _ h.2.1, key _ _ h.2.2⟩
theorem VHeld.far4 (h : VHeld w g A n c B m d bm om k mm b o p q ja jb) (h1 : g ≠ G) (h2 : bm ≠ G) (h3 : b ≠ G) (u0 u1 u2 u3 : Value) : VHeld ((((w.setCell ⟨G, 0, none⟩ u0).setCell ⟨G, 1, none⟩ u1).setCell ⟨G, 2, none⟩ u2).setCell ⟨G, 3, none⟩ u3) g A n c B m d bm om k mm b o p q ja jb :=
  ⟨box_far4 h.1 h1 u0 u1 u2 u3, atM_far4 h.2.1 h2 u0 u1 u2 u3, atJ_far4 h.2.2.1 h3 u0 u1 u2 u3, atJ_far4 h.2.2.2 h3 u0 u1 u2 u3⟩
theorem held13 {a0 a1 a2 : Int} {s s' : ByteArray} {x y x' y' : Int} {f f' : Bool} (h : Hid (VHeld w g A n c B m d bm om k ⟨a0, a1, a2⟩ b o p q ⟨s, x, y, f⟩ ⟨s', x', y', f'⟩)) :
    w.cell? ⟨g, 0, none⟩ = some (.slice A n c) ∧ w.cell? ⟨g, 1, none⟩ = some (.slice B m d) ∧ w.cell? ⟨bm, om + k * 3, none⟩ = some (.int .i64 a0) ∧ w.cell? ⟨bm, om + k * 3 + 1, none⟩ = some (.int .i64 a1) ∧ w.cell? ⟨bm, om + k * 3 + 2, none⟩ = some (.int .i64 a2) ∧
      w.cell? ⟨b, o + p * 4, none⟩ = some (.string s) ∧ w.cell? ⟨b, o + p * 4 + 1, none⟩ = some (.int .i64 x) ∧ w.cell? ⟨b, o + p * 4 + 2, none⟩ = some (.int .i64 y) ∧ w.cell? ⟨b, o + p * 4 + 3, none⟩ = some (.bool f) ∧
      w.cell? ⟨b, o + q * 4, none⟩ = some (.string s') ∧ w.cell? ⟨b, o + q * 4 + 1, none⟩ = some (.int .i64 x') ∧ w.cell? ⟨b, o + q * 4 + 2, none⟩ = some (.int .i64 y') ∧ w.cell? ⟨b, o + q * 4 + 3, none⟩ = some (.bool f') :=
  ⟨h.out.1.cell 0, h.out.1.cell 1, h.out.2.1.1, h.out.2.1.2.1, h.out.2.1.2.2, h.out.2.2.1.1, h.out.2.2.1.2.1, h.out.2.2.1.2.2.1, h.out.2.2.1.2.2.2, h.out.2.2.2.1, h.out.2.2.2.2.1, h.out.2.2.2.2.2.1, h.out.2.2.2.2.2.2⟩
end
/-- The vector of the member k, if there is one. -/
def VectorOfIs (js : List JD) (ms : List MD) (k x y : Int) : Prop :=
  (TOk js ms ∧ ∃ kk mm p q ja jb, k = ((kk : Nat) : Int) ∧ ms[kk]? = some mm ∧ mm.a = ((p : Nat) : Int) ∧ mm.b = ((q : Nat) : Int) ∧ js[p]? = some ja ∧ js[q]? = some jb ∧ x = jb.x - ja.x ∧ y = jb.y - ja.y) ∨ (¬ (TOk js ms ∧ 0 ≤ k ∧ k < ms.length) ∧ x = 0 ∧ y = 0)
theorem vectorOf_unique {js : List JD} {ms : List MD} {k x y x' y' : Int} (h : VectorOfIs js ms k x y) (h' : VectorOfIs js ms k x' y') : x = x' ∧ y = y' := by
  rcases h with ⟨ht, kk, mm, p, q, ja, jb, rfl, h2, h3, h4, h5, h6, rfl, rfl⟩ | ⟨hn, rfl, rfl⟩ <;> rcases h' with ⟨ht', kk', mm', p', q', ja', jb', g1, g2, g3, g4, g5, g6, rfl, rfl⟩ | ⟨hn', rfl, rfl⟩
  · obtain rfl : kk = kk' := by omega
    rw [h2] at g2
    obtain rfl := Option.some.inj g2
    obtain rfl : p = p' := by omega
    obtain rfl : q = q' := by omega
    rw [h5] at g5
    rw [h6] at g6
    obtain rfl := Option.some.inj g5
    obtain rfl := Option.some.inj g6
    exact ⟨rfl, rfl⟩
  · exact absurd ⟨ht, by omega, by have := (List.getElem?_eq_some_iff.1 h2).1; omega⟩ hn'
  · exact absurd ⟨ht', by omega, by have := (List.getElem?_eq_some_iff.1 g2).1; omega⟩ hn
  · exact ⟨rfl, rfl⟩
def VecTEnd (js : List JD) (ms : List MD) (k : Int) (w w' : World) (e : Ending) : Prop := ∃ x y, e = .returned (.tuple #[.int .i64 x, .int .i64 y]) ∧ VectorOfIs js ms k x y ∧ Below w.heap.size w w'
set_option maxHeartbeats 6400000 in
theorem impl_vectorOf0 (A : Option Addr) (n c : Nat) (js : List JD) (B : Option Addr) (m d : Nat) (ms : List MD) (kk : Int) (w : World) (h : InT w A n js B m ms) :
    Calls Try.prog 41 #[.agg #[.slice A n c, .slice B m d], .int .i64 kk] w fun e w' => VecTEnd js ms kk w w' e := by
  obtain ⟨j0, hj', hy0, hy1, hy2⟩ := info_parts Try.infoJ
  have hmn := h.1.2.1
  have hmm := h.2.2.1
  have HLN : Hid (js.length = n) := h.1.1
  have HLM : Hid (ms.length = m) := h.2.1
  obtain ⟨W1, hW⟩ : ∃ W, W = w.alloc (.cells #[.slice A n c, .slice B m d] 48) := ⟨_, rfl⟩
  have X0 : Hid (Box W1 w.heap.size 48 #[.slice A n c, .slice B m d]) := by rw [hW]; exact Box.new _ _ _
  have B0 : Hid (Below w.heap.size w W1) := by rw [hW]; exact (Below.refl _ _).alloc (Nat.le_refl _) _
  have HI := Lib.hid h
  clear h
  go_enter Try.func41, Try.ntmps41
  go_wp2_with fail
  rw [← hW]
  clear hW
  refine (impl_structureOk0 A n c js B m d ms _ (HI.out.below B0.out)).mono ?_
  rintro e w1 ⟨b, rfl, hq, hb⟩
  have X1 := Lib.hid (X0.out.below hb X0.out.lt)
  have B1 := Lib.hid (B0.out.trans (hb.mono B0.out.size))
  have HQ := Lib.hid hq
  clear hb hq
  cases b
  case false =>
    have HF : Hid (VecTEnd js ms kk w w1 (.returned (.tuple #[.int .i64 0, .int .i64 0]))) := ⟨0, 0, rfl, .inr ⟨fun q => (by have := HQ.out.2 q.1; cases this), rfl, rfl⟩, B1.out⟩
    go_wp2_with fail
    refine bodyPost_ret (v := .tuple #[.int .i64 0, .int .i64 0]) (by simp [results, Try.results41, go_sem]) rfl ?_
    exact HF.out
  have HOK : Hid (TOk js ms) := HQ.out.1 rfl
  have e1 := X1.out.cell 1
  simp at e1
  go_wp2_with fail
  clear e1
  by_cases hk : 0 ≤ kk ∧ kk < (m : Int)
  case neg =>
    have HF : Hid (VecTEnd js ms kk w w1 (.returned (.tuple #[.int .i64 0, .int .i64 0]))) := ⟨0, 0, rfl, .inr ⟨fun q => hk (by have := HLM.out; omega), rfl, rfl⟩, B1.out⟩
    refine (isIndex_no kk m _ hk).mono ?_
    rintro e w2 ⟨rfl, rfl⟩
    clear hk
    go_wp2_with fail
    refine bodyPost_ret (v := .tuple #[.int .i64 0, .int .i64 0]) (by simp [results, Try.results41, go_sem]) rfl ?_
    exact HF.out
  refine (isIndex_yes kk m _ hk.1 hk.2).mono ?_
  rintro e w2 ⟨rfl, rfl⟩
  obtain ⟨k, rfl⟩ : ∃ k : Nat, kk = k := ⟨kk.toNat, by omega⟩
  have hkm : k < m := by omega
  clear hk
  go_upto_region 3 with fail
  obtain ⟨wm, rfl⟩ : ∃ q, q = w2 := ⟨_, rfl⟩
  obtain ⟨b1, o1, rfl, hlt1, ⟨ma, mc, mk⟩, hx, hatm, _⟩ := (HI.out.2.below B1.out).at_ k hkm
  have HMM := Lib.hid hx
  obtain ⟨p, q, ⟨s, x, y, f⟩, ⟨s', x', y', f'⟩, hpa, hqb, hja, hjb, _⟩ := HOK.out.2.2 _ (List.mem_of_getElem? hx)
  simp only at hpa hqb
  subst hpa hqb
  have HJ1 := Lib.hid hja
  have HJ2 := Lib.hid hjb
  have hpn : p < n := by have := (List.getElem?_eq_some_iff.1 hja).1; have := HLN.out; omega
  have hqn : q < n := by have := (List.getElem?_eq_some_iff.1 hjb).1; have := HLN.out; omega
  obtain ⟨b2, o2, rfl, hlt2, ja', hj1, hat1, _⟩ := (HI.out.1.below B1.out).at_ p hpn
  obtain ⟨b3, o3, he3, _, jb', hj2, hat2, _⟩ := (HI.out.1.below B1.out).at_ q hqn
  cases he3
  obtain rfl : ja' = ⟨s, x, y, f⟩ := by rw [hja] at hj1; exact (Option.some.inj hj1).symm
  obtain rfl : jb' = ⟨s', x', y', f'⟩ := by rw [hjb] at hj2; exact (Option.some.inj hj2).symm
  have hga := (HOK.out.1.2.1 _ (List.mem_of_getElem? hja)).2
  have hgb := (HOK.out.1.2.1 _ (List.mem_of_getElem? hjb)).2
  simp only at hga hgb
  obtain ⟨⟨hxa1, hxa2⟩, hya1, hya2⟩ := hga
  obtain ⟨⟨hxb1, hxb2⟩, hyb1, hyb2⟩ := hgb
  have VM : Hid (VHeld wm w.heap.size (some ⟨b2, o2, none⟩) n c (some ⟨b1, o1, none⟩) m d b1 o1 k ⟨p, q, mk⟩ b2 o2 p q ⟨s, x, y, f⟩ ⟨s', x', y', f'⟩) := ⟨X1.out, hatm, hat1, hat2⟩
  have hl1 : Hid (b1 < wm.drew.heap.size) := hlt1
  have hl2 : Hid (b2 < wm.drew.heap.size) := hlt2
  have hwlt : Hid (w.heap.size < wm.heap.size) := X1.out.lt
  have hk0 : (0 : Int) ≤ (k : Int) := by omega
  have hk1 : (k : Int) < (m : Int) := by omega
  have hp0 : (0 : Int) ≤ (p : Int) := by omega
  have hp1 : (p : Int) < (n : Int) := by omega
  have hq0 : (0 : Int) ≤ (q : Int) := by omega
  have hq1 : (q : Int) < (n : Int) := by omega
  clear hx hja hjb hj1 hj2 hatm hat1 hat2
  go_cut [6, 7] (fun s5 s6 wx => ∃ ga gb : Nat, s5 = .pointer (some ⟨ga, 0, none⟩) ∧ s6 = .pointer (some ⟨gb, 0, none⟩) ∧ Hid (Box wx ga 36 #[.string s, .int .i64 x, .int .i64 y, .bool f]) ∧ Hid (Box wx gb 36 #[.string s', .int .i64 x', .int .i64 y', .bool f']) ∧ Hid (Below wm.heap.size wm wx))
  case first =>
    have V0 : Hid (VHeld wm.drew _ _ _ _ _ _ _ _ _ _ _ _ _ _ _ _ _) := VM.out
    have BD : Hid (Below wm.heap.size wm wm.drew) := (Below.refl _ _).drew
    clear VM X0 X1 B0 B1 HI HQ HOK
    refine wp_region_held_drew (S := (fun w' => w'.cell? ⟨w.heap.size, 0, none⟩ = some (.slice (some ⟨b2, o2, none⟩) n c) ∧ w'.cell? ⟨w.heap.size, 1, none⟩ = some (.slice (some ⟨b1, o1, none⟩) m d) ∧ w'.cell? ⟨b1, o1 + k * 3, none⟩ = some (.int .i64 (p : Int)) ∧ w'.cell? ⟨b1, o1 + k * 3 + 1, none⟩ = some (.int .i64 (q : Int)) ∧ w'.cell? ⟨b1, o1 + k * 3 + 2, none⟩ = some (.int .i64 mk) ∧ w'.cell? ⟨b2, o2 + p * 4, none⟩ = some (.string s) ∧ w'.cell? ⟨b2, o2 + p * 4 + 1, none⟩ = some (.int .i64 x) ∧ w'.cell? ⟨b2, o2 + p * 4 + 2, none⟩ = some (.int .i64 y) ∧ w'.cell? ⟨b2, o2 + p * 4 + 3, none⟩ = some (.bool f) ∧ w'.cell? ⟨b2, o2 + q * 4, none⟩ = some (.string s') ∧ w'.cell? ⟨b2, o2 + q * 4 + 1, none⟩ = some (.int .i64 x') ∧ w'.cell? ⟨b2, o2 + q * 4 + 2, none⟩ = some (.int .i64 y') ∧ w'.cell? ⟨b2, o2 + q * 4 + 3, none⟩ = some (.bool f'))) (by kernel_rfl) ?_ (fun hHeld => ?_)
    · (try dsimp only); (first | with_reducible exact held13 V3 | with_reducible exact held13 V2 | with_reducible exact held13 V1 | with_reducible exact held13 V0)
    refine wpAnyH_go (i := 0) (d := some 19) (v := ?_) (by rfl) (by kernel_rfl) (by kernel_rfl) (by kernel_rfl) (fun _ _ _ h => h) (by assumption) ?_ ?_
    rotate_left 1
    · (intro oS hoS wS hSw; obtain rfl := Option.some.inj hoS; (try dsimp only at hSw); go_simp; try with_reducible rfl)
    (try simp only [Act.put, List.setIfInBounds_toArray, List.set_cons_zero, List.set_cons_succ])
    refine wpAnyH_go (i := 1) (d := some 20) (v := ?_) (by rfl) (by kernel_rfl) (by kernel_rfl) (by kernel_rfl) (fun _ _ _ h => h) (by assumption) ?_ ?_
    rotate_left 1
    · (intro oS hoS wS hSw; obtain rfl := Option.some.inj hoS; (try dsimp only at hSw); go_simp; try with_reducible rfl)
    (try simp only [Act.put, List.setIfInBounds_toArray, List.set_cons_zero, List.set_cons_succ])
    refine wpAnyH_go (i := 2) (d := some 21) (v := ?_) (by rfl) (by kernel_rfl) (by kernel_rfl) (by kernel_rfl) (fun _ _ _ h => h) (by assumption) ?_ ?_
    rotate_left 1
    · (intro oS hoS wS hSw; obtain rfl := Option.some.inj hoS; (try dsimp only at hSw); go_simp; try with_reducible rfl)
    (try simp only [Act.put, List.setIfInBounds_toArray, List.set_cons_zero, List.set_cons_succ])
    refine wpAnyH_go (i := 3) (d := some 22) (v := ?_) (by rfl) (by kernel_rfl) (by kernel_rfl) (by kernel_rfl) (fun _ _ _ h => h) (by assumption) ?_ ?_
    rotate_left 1
    · (intro oS hoS wS hSw; obtain rfl := Option.some.inj hoS; (try dsimp only at hSw); go_simp; try with_reducible rfl)
    (try simp only [Act.put, List.setIfInBounds_toArray, List.set_cons_zero, List.set_cons_succ])
    refine wpAnyH_go (i := 4) (d := some 23) (v := ?_) (by rfl) (by kernel_rfl) (by kernel_rfl) (by kernel_rfl) (fun _ _ _ h => h) (by assumption) ?_ ?_
    rotate_left 1
    · (intro oS hoS wS hSw; obtain rfl := Option.some.inj hoS; (try dsimp only at hSw); go_simp; try with_reducible rfl)
    (try simp only [Act.put, List.setIfInBounds_toArray, List.set_cons_zero, List.set_cons_succ])
    refine wpAnyH_go (i := 5) (d := some 24) (v := ?_) (by rfl) (by kernel_rfl) (by kernel_rfl) (by kernel_rfl) (fun _ _ _ h => h) (by assumption) ?_ ?_
    rotate_left 1
    · (intro oS hoS wS hSw; obtain rfl := Option.some.inj hoS; (try dsimp only at hSw); go_simp; try with_reducible rfl)
    (try simp only [Act.put, List.setIfInBounds_toArray, List.set_cons_zero, List.set_cons_succ])
    refine wpAnyH_go (i := 6) (d := some 25) (v := ?_) (by rfl) (by kernel_rfl) (by kernel_rfl) (by kernel_rfl) (fun _ _ _ h => h) (by assumption) ?_ ?_
    rotate_left 1
    · (intro oS hoS wS hSw; obtain rfl := Option.some.inj hoS; (try dsimp only at hSw); go_simp; try with_reducible rfl)
    (try simp only [Act.put, List.setIfInBounds_toArray, List.set_cons_zero, List.set_cons_succ])
    refine wpAnyH_go (i := 7) (d := some 26) (v := ?_) (by rfl) (by kernel_rfl) (by kernel_rfl) (by kernel_rfl) (fun _ _ _ h => h) (by assumption) ?_ ?_
    rotate_left 1
    · (intro oS hoS wS hSw; obtain rfl := Option.some.inj hoS; (try dsimp only at hSw); go_simp; try with_reducible rfl)
    (try simp only [Act.put, List.setIfInBounds_toArray, List.set_cons_zero, List.set_cons_succ])
    refine wpAnyH_go (i := 8) (d := some 27) (v := ?_) (by rfl) (by kernel_rfl) (by kernel_rfl) (by kernel_rfl) (fun _ _ _ h => h) (by assumption) ?_ ?_
    rotate_left 1
    · (intro oS hoS wS hSw; obtain rfl := Option.some.inj hoS; (try dsimp only at hSw); go_simp; try with_reducible rfl)
    (try simp only [Act.put, List.setIfInBounds_toArray, List.set_cons_zero, List.set_cons_succ])
    refine wpAnyH_go (i := 9) (d := some 28) (v := ?_) (by rfl) (by kernel_rfl) (by kernel_rfl) (by kernel_rfl) (fun _ _ _ h => h) (by assumption) ?_ ?_
    rotate_left 1
    · (intro oS hoS wS hSw; obtain rfl := Option.some.inj hoS; (try dsimp only at hSw); go_simp; try with_reducible rfl)
    (try simp only [Act.put, List.setIfInBounds_toArray, List.set_cons_zero, List.set_cons_succ])
    refine wpAnyH_go (i := 10) (d := some 29) (v := ?_) (by rfl) (by kernel_rfl) (by kernel_rfl) (by kernel_rfl) (fun _ _ _ h => h) (by assumption) ?_ ?_
    rotate_left 1
    · (intro oS hoS wS hSw; obtain rfl := Option.some.inj hoS; (try dsimp only at hSw); go_simp; try with_reducible rfl)
    (try simp only [Act.put, List.setIfInBounds_toArray, List.set_cons_zero, List.set_cons_succ])
    refine wpAnyH_go (i := 11) (d := some 30) (v := ?_) (by rfl) (by kernel_rfl) (by kernel_rfl) (by kernel_rfl) (fun _ _ _ h => h) (by assumption) ?_ ?_
    rotate_left 1
    · (intro oS hoS wS hSw; obtain rfl := Option.some.inj hoS; (try dsimp only at hSw); go_simp; try with_reducible rfl)
    (try simp only [Act.put, List.setIfInBounds_toArray, List.set_cons_zero, List.set_cons_succ])
    refine wpAnyH_go (i := 12) (d := some 31) (v := ?_) (by rfl) (by kernel_rfl) (by kernel_rfl) (by kernel_rfl) (fun _ _ _ h => h) (by assumption) ?_ ?_
    rotate_left 1
    · (intro oS hoS wS hSw; obtain rfl := Option.some.inj hoS; (try dsimp only at hSw); go_simp; try with_reducible rfl)
    (try simp only [Act.put, List.setIfInBounds_toArray, List.set_cons_zero, List.set_cons_succ])
    refine wpAnyH_go (i := 13) (d := some 32) (v := ?_) (by rfl) (by kernel_rfl) (by kernel_rfl) (by kernel_rfl) (fun _ _ _ h => h) (by assumption) ?_ ?_
    rotate_left 1
    · (intro oS hoS wS hSw; obtain rfl := Option.some.inj hoS; (try dsimp only at hSw); go_simp; try with_reducible rfl)
    (try simp only [Act.put, List.setIfInBounds_toArray, List.set_cons_zero, List.set_cons_succ])
    refine wpAnyH_go (i := 14) (d := some 33) (v := ?_) (by rfl) (by kernel_rfl) (by kernel_rfl) (by kernel_rfl) (fun _ _ _ h => h) (by assumption) ?_ ?_
    rotate_left 1
    · (intro oS hoS wS hSw; obtain rfl := Option.some.inj hoS; (try dsimp only at hSw); go_simp; try with_reducible rfl)
    (try simp only [Act.put, List.setIfInBounds_toArray, List.set_cons_zero, List.set_cons_succ])
    refine wpAnyH_go (i := 15) (d := some 34) (v := ?_) (by rfl) (by kernel_rfl) (by kernel_rfl) (by kernel_rfl) (fun _ _ _ h => h) (by assumption) ?_ ?_
    rotate_left 1
    · (intro oS hoS wS hSw; obtain rfl := Option.some.inj hoS; (try dsimp only at hSw); go_simp; try with_reducible rfl)
    (try simp only [Act.put, List.setIfInBounds_toArray, List.set_cons_zero, List.set_cons_succ])
    refine wpAnyH_go (i := 16) (d := some 35) (v := ?_) (by rfl) (by kernel_rfl) (by kernel_rfl) (by kernel_rfl) (fun _ _ _ h => h) (by assumption) ?_ ?_
    rotate_left 1
    · (intro oS hoS wS hSw; obtain rfl := Option.some.inj hoS; (try dsimp only at hSw); go_simp; try with_reducible rfl)
    (try simp only [Act.put, List.setIfInBounds_toArray, List.set_cons_zero, List.set_cons_succ])
    refine wpAnyH_go (i := 17) (d := some 36) (v := ?_) (by rfl) (by kernel_rfl) (by kernel_rfl) (by kernel_rfl) (fun _ _ _ h => h) (by assumption) ?_ ?_
    rotate_left 1
    · (intro oS hoS wS hSw; obtain rfl := Option.some.inj hoS; (try dsimp only at hSw); go_simp; try with_reducible rfl)
    (try simp only [Act.put, List.setIfInBounds_toArray, List.set_cons_zero, List.set_cons_succ])
    refine wpAnyH_go (i := 18) (d := some 37) (v := ?_) (by rfl) (by kernel_rfl) (by kernel_rfl) (by kernel_rfl) (fun _ _ _ h => h) (by assumption) ?_ ?_
    rotate_left 1
    · (intro oS hoS wS hSw; obtain rfl := Option.some.inj hoS; (try dsimp only at hSw); go_simp; try with_reducible rfl)
    (try simp only [Act.put, List.setIfInBounds_toArray, List.set_cons_zero, List.set_cons_succ])
    refine wpAnyH_go (i := 19) (d := some 38) (v := ?_) (by rfl) (by kernel_rfl) (by kernel_rfl) (by kernel_rfl) (fun _ _ _ h => h) (by assumption) ?_ ?_
    rotate_left 1
    · (intro oS hoS wS hSw; obtain rfl := Option.some.inj hoS; (try dsimp only at hSw); go_simp; try with_reducible rfl)
    (try simp only [Act.put, List.setIfInBounds_toArray, List.set_cons_zero, List.set_cons_succ])
    refine wpAnyH_makers (fuel := 2) 2 [20, 21] [6, 7] [0, 1] (fun j => match j with | 0 => RBox 36 (Value.cells (.agg #[.string ByteArray.empty, .int .i64 0, .int .i64 0, .bool false])) | _ => RBox 36 (Value.cells (.agg #[.string ByteArray.empty, .int .i64 0, .int .i64 0, .bool false]))) (by kernel_rfl) (by kernel_rfl) (fun w1 hb1 => held13 (Lib.hid (V0.out.below hl1.out hl2.out hb1))) ?_ ?_ ?_
    · intro j hj lo hi v w1 w2 h1 h2 h3
      match j, hj with
      | 0, _ => exact RBox.keep h1 h3
      | 1, _ => exact RBox.keep h1 h3
    · intro j hj
      match j, hj with
      | 0, _ =>
        intro oS hoS Y wy hby K' hK
        simp only [List.getD_cons_zero, List.getElem?_toArray, List.getElem?_cons_zero, List.getElem?_cons_succ, Option.some.injEq] at hoS
        subst hoS
        exact need_alloc rfl 36 rfl j0 _ hj' hy0 fun v wv hbv hro => hK.out _ _ hbv hro
      | 1, _ =>
        intro oS hoS Y wy hby K' hK
        simp only [List.getD_cons_zero, List.getD_cons_succ, List.getElem?_toArray, List.getElem?_cons_zero, List.getElem?_cons_succ, Option.some.injEq] at hoS
        subst hoS
        exact need_alloc rfl 36 rfl j0 _ hj' hy0 fun v wv hbv hro => hK.out _ _ hbv hro
    · intro D Y LO HI wz hstop hbz hres hdis
      simp only [stopB, List.all_cons, List.all_nil, Bool.and_true, Bool.and_eq_true] at hstop
      obtain ⟨hdone0, hdone1⟩ := hstop
      have hr0 := hres 0 (by decide) hdone0
      have hr1 := hres 1 (by decide) hdone1
      have hd01 := hdis 0 1 (by decide) (by decide) (by decide) hdone0 hdone1
      simp only [leftB, lstB, hdone0, hdone1, if_true, List.getD_cons_zero, List.getD_cons_succ]
      simp only [actB, List.getD_cons_zero, List.getD_cons_succ, Act.put, List.setIfInBounds_toArray, List.set_cons_zero, List.set_cons_succ]
      generalize Y 0 = y0 at hr0 ⊢
      generalize Y 1 = y1 at hr1 ⊢
      clear hres hdis
      obtain ⟨⟨ga, rfl, ha1, ha2, hA⟩, hA1, hA2, hA3⟩ := hr0
      obtain ⟨⟨gb, rfl, hb1, hb2, hB⟩, hB1, hB2, hB3⟩ := hr1
      have hzd : wm.heap.size ≤ wm.drew.heap.size := Nat.le_refl _
      have hab : ga ≠ gb := by omega
      have hza : wm.heap.size ≤ ga := by omega
      have hzb : wm.heap.size ≤ gb := by omega
      have hl1' := hl1.out
      have hl2' := hl2.out
      have hwl := hwlt.out
      have hma : w.heap.size ≠ ga := by omega
      have hmb : w.heap.size ≠ gb := by omega
      have h1a : b1 ≠ ga := by omega
      have h1b : b1 ≠ gb := by omega
      have h2a : b2 ≠ ga := by omega
      have h2b : b2 ≠ gb := by omega
      have V1 := Lib.hid (V0.out.below hl1.out hl2.out hbz)
      have BZ := Lib.hid (BD.out.trans (hbz.mono BD.out.size))
      have YA0 := Lib.hid hA
      have YB0 := Lib.hid hB
      have V2 := Lib.hid (V1.out.far4 hma h1a h2a (.string s) (.int .i64 x) (.int .i64 y) (.bool f))
      have YB1 := Lib.hid (box_far4 YB0.out (Ne.symm hab) (.string s) (.int .i64 x) (.int .i64 y) (.bool f))
      have YA1 : Hid (Box ((((wz.setCell ⟨ga, 0, none⟩ (.string s)).setCell ⟨ga, 1, none⟩ (.int .i64 x)).setCell ⟨ga, 2, none⟩ (.int .i64 y)).setCell ⟨ga, 3, none⟩ (.bool f)) ga 36 #[.string s, .int .i64 x, .int .i64 y, .bool f]) := by have h := box_set4 (Lib.hid YA0.out) (.string s) (.int .i64 x) (.int .i64 y) (.bool f); exact h
      have V3 := Lib.hid (V2.out.far4 hmb h1b h2b (.string s') (.int .i64 x') (.int .i64 y') (.bool f'))
      have YA2 := Lib.hid (box_far4 YA1.out hab (.string s') (.int .i64 x') (.int .i64 y') (.bool f'))
      have YB2 : Hid (Box ((((((((wz.setCell ⟨ga, 0, none⟩ (.string s)).setCell ⟨ga, 1, none⟩ (.int .i64 x)).setCell ⟨ga, 2, none⟩ (.int .i64 y)).setCell ⟨ga, 3, none⟩ (.bool f)).setCell ⟨gb, 0, none⟩ (.string s')).setCell ⟨gb, 1, none⟩ (.int .i64 x')).setCell ⟨gb, 2, none⟩ (.int .i64 y')).setCell ⟨gb, 3, none⟩ (.bool f')) gb 36 #[.string s', .int .i64 x', .int .i64 y', .bool f']) := by have h := box_set4 (Lib.hid YB1.out) (.string s') (.int .i64 x') (.int .i64 y') (.bool f'); exact h
      have B2 : Hid (Below wm.heap.size wm ((((((((wz.setCell ⟨ga, 0, none⟩ (.string s)).setCell ⟨ga, 1, none⟩ (.int .i64 x)).setCell ⟨ga, 2, none⟩ (.int .i64 y)).setCell ⟨ga, 3, none⟩ (.bool f)).setCell ⟨gb, 0, none⟩ (.string s')).setCell ⟨gb, 1, none⟩ (.int .i64 x')).setCell ⟨gb, 2, none⟩ (.int .i64 y')).setCell ⟨gb, 3, none⟩ (.bool f'))) := (((((((BZ.out.setCell hza _).setCell hza _).setCell hza _).setCell hza _).setCell hzb _).setCell hzb _).setCell hzb _).setCell hzb _
      have hHeld := held13 V1
      have ea0 := YA0.out.cell 0
      have ea1 := YA0.out.cell 1
      have ea2 := YA0.out.cell 2
      have ea3 := YA0.out.cell 3
      have fa0 := YA0.out.free 0
      have fa1 := YA0.out.free 1
      have fa2 := YA0.out.free 2
      have fa3 := YA0.out.free 3
      have eb0 := YB1.out.cell 0
      have eb1 := YB1.out.cell 1
      have eb2 := YB1.out.cell 2
      have eb3 := YB1.out.cell 3
      have fb0 := YB1.out.free 0
      have fb1 := YB1.out.free 1
      have fb2 := YB1.out.free 2
      have fb3 := YB1.out.free 3
      simp [Value.cells] at ea0 ea1 ea2 ea3 eb0 eb1 eb2 eb3
      clear hA hB ha1 ha2 hb1 hb2 hA1 hA2 hA3 hB1 hB2 hB3 hd01 hbz hl1' hl2' hwl
      refine wpAnyH_ready (rs := [22]) (by kernel_rfl) (by simp) ?_
      refine AllReadyH.cons rfl (fun KK hK => ?_) AllReadyH.nil
      go_simp
      refine hK.out _ _ ?_ (fun hHeld => ?_)
      · (try dsimp only); (first | with_reducible exact held13 V3 | with_reducible exact held13 V2 | with_reducible exact held13 V1 | with_reducible exact held13 V0)
      clear hK KK
      (try simp only [Act.put, List.setIfInBounds_toArray])
      refine wpAnyH_ready (rs := [23]) (by kernel_rfl) (by simp) ?_
      refine AllReadyH.cons rfl (fun KK hK => ?_) AllReadyH.nil
      go_simp
      refine hK.out _ _ ?_ (fun hHeld => ?_)
      · (try dsimp only); (first | with_reducible exact held13 V3 | with_reducible exact held13 V2 | with_reducible exact held13 V1 | with_reducible exact held13 V0)
      clear hK KK
      (try simp only [Act.put, List.setIfInBounds_toArray])
      refine wpAnyH_done (by kernel_rfl) ?_ _
      clear ea0 fa0 eb0 fb0 ea1 fa1 eb1 fb1 ea2 fa2 eb2 fb2 ea3 fa3 eb3 fb3
      go_wp2_with fail
      go_meet
      exact ⟨ga, gb, rfl, rfl, YA2, YB2, B2⟩
  obtain ⟨ga, gb, rfl, rfl, YA, YB, B3⟩ := hcut
  obtain ⟨wx, rfl⟩ : ∃ q, q = wc := ⟨_, rfl⟩
  have BX : Hid (∀ q, Below w.heap.size w (wx.drewN q)) := fun q => below_drewN (B1.out.trans (B3.out.mono B1.out.size)) q
  have a1 := YA.out.cell 1
  have a2 := YA.out.cell 2
  have b1' := YB.out.cell 1
  have b2' := YB.out.cell 2
  simp at a1 a2 b1' b2'
  have HF : Hid (∀ q, VecTEnd js ms k w (wx.drewN q) (.returned (.tuple #[.int .i64 (x' - x), .int .i64 (y' - y)]))) := fun qq => ⟨_, _, rfl, .inl ⟨HOK.out, k, _, p, q, _, _, rfl, HMM.out, rfl, rfl, HJ1.out, HJ2.out, rfl, rfl⟩, BX.out qq⟩
  clear VM
  go_wp2_with fail
  go_quiet (fail)
  go_wp2_with fail
  refine bodyPost_ret (v := .tuple #[.int .i64 (x' - x), .int .i64 (y' - y)]) (by simp [results, Try.results41, go_sem]) rfl ?_
  exact HF.out _
set_option maxHeartbeats 6400000 in
theorem spec_l12Vector (A : Option Addr) (n c : Nat) (js : List JD) (B : Option Addr) (m d : Nat) (ms : List MD) (k : Nat) (w : World) (h : InT w A n js B m ms) (HOK : Hid (TOk js ms)) (hkm : k < m) :
    Calls Try.prog 72 #[.agg #[.slice A n c, .slice B m d], .int .i64 k] w fun e w' => VecTEnd js ms k w w' e := by
  obtain ⟨j0, hj', hy0, hy1, hy2⟩ := info_parts Try.infoJ
  have hmn := h.1.2.1
  have hmm := h.2.2.1
  have HLN : Hid (js.length = n) := h.1.1
  have HLM : Hid (ms.length = m) := h.2.1
  obtain ⟨W1, hW⟩ : ∃ W, W = w.alloc (.cells #[.slice A n c, .slice B m d] 48) := ⟨_, rfl⟩
  have X1 : Hid (Box W1 w.heap.size 48 #[.slice A n c, .slice B m d]) := by rw [hW]; exact Box.new _ _ _
  have B1 : Hid (Below w.heap.size w W1) := by rw [hW]; exact (Below.refl _ _).alloc (Nat.le_refl _) _
  have HI := Lib.hid h
  clear h
  go_enter Try.func72, Try.ntmps72
  go_upto_region 1 with fail
  rw [← hW]
  clear hW
  obtain ⟨w2, rfl⟩ : ∃ q, q = W1 := ⟨_, rfl⟩
  obtain ⟨wm, rfl⟩ : ∃ q, q = w2 := ⟨_, rfl⟩
  obtain ⟨b1, o1, rfl, hlt1, ⟨ma, mc, mk⟩, hx, hatm, _⟩ := (HI.out.2.below B1.out).at_ k hkm
  have HMM := Lib.hid hx
  obtain ⟨p, q, ⟨s, x, y, f⟩, ⟨s', x', y', f'⟩, hpa, hqb, hja, hjb, _⟩ := HOK.out.2.2 _ (List.mem_of_getElem? hx)
  simp only at hpa hqb
  subst hpa hqb
  have HJ1 := Lib.hid hja
  have HJ2 := Lib.hid hjb
  have hpn : p < n := by have := (List.getElem?_eq_some_iff.1 hja).1; have := HLN.out; omega
  have hqn : q < n := by have := (List.getElem?_eq_some_iff.1 hjb).1; have := HLN.out; omega
  obtain ⟨b2, o2, rfl, hlt2, ja', hj1, hat1, _⟩ := (HI.out.1.below B1.out).at_ p hpn
  obtain ⟨b3, o3, he3, _, jb', hj2, hat2, _⟩ := (HI.out.1.below B1.out).at_ q hqn
  cases he3
  obtain rfl : ja' = ⟨s, x, y, f⟩ := by rw [hja] at hj1; exact (Option.some.inj hj1).symm
  obtain rfl : jb' = ⟨s', x', y', f'⟩ := by rw [hjb] at hj2; exact (Option.some.inj hj2).symm
  have hga := (HOK.out.1.2.1 _ (List.mem_of_getElem? hja)).2
  have hgb := (HOK.out.1.2.1 _ (List.mem_of_getElem? hjb)).2
  simp only at hga hgb
  obtain ⟨⟨hxa1, hxa2⟩, hya1, hya2⟩ := hga
  obtain ⟨⟨hxb1, hxb2⟩, hyb1, hyb2⟩ := hgb
  have VM : Hid (VHeld wm w.heap.size (some ⟨b2, o2, none⟩) n c (some ⟨b1, o1, none⟩) m d b1 o1 k ⟨p, q, mk⟩ b2 o2 p q ⟨s, x, y, f⟩ ⟨s', x', y', f'⟩) := ⟨X1.out, hatm, hat1, hat2⟩
  have hl1 : Hid (b1 < wm.drew.heap.size) := hlt1
  have hl2 : Hid (b2 < wm.drew.heap.size) := hlt2
  have hwlt : Hid (w.heap.size < wm.heap.size) := X1.out.lt
  have hk0 : (0 : Int) ≤ (k : Int) := by omega
  have hk1 : (k : Int) < (m : Int) := by omega
  have hp0 : (0 : Int) ≤ (p : Int) := by omega
  have hp1 : (p : Int) < (n : Int) := by omega
  have hq0 : (0 : Int) ≤ (q : Int) := by omega
  have hq1 : (q : Int) < (n : Int) := by omega
  clear hx hja hjb hj1 hj2 hatm hat1 hat2
  go_cut [6] (fun s6 wx => ∃ g : Nat, s6 = .pointer (some ⟨g, 0, none⟩) ∧ wm.heap.size ≤ g ∧ Hid (Box wx g 36 #[.string s, .int .i64 x, .int .i64 y, .bool f]) ∧ Hid (VHeld wx w.heap.size (some ⟨b2, o2, none⟩) n c (some ⟨b1, o1, none⟩) m d b1 o1 k ⟨p, q, mk⟩ b2 o2 p q ⟨s, x, y, f⟩ ⟨s', x', y', f'⟩) ∧ Hid (Below wm.heap.size wm wx))
  case first =>
    have V0 : Hid (VHeld wm.drew _ _ _ _ _ _ _ _ _ _ _ _ _ _ _ _ _) := VM.out
    have BD : Hid (Below wm.heap.size wm wm.drew) := (Below.refl _ _).drew
    clear VM X1 B1 HI HOK
    refine wp_region_held_drew (S := (fun w' => w'.cell? ⟨w.heap.size, 0, none⟩ = some (.slice (some ⟨b2, o2, none⟩) n c) ∧ w'.cell? ⟨w.heap.size, 1, none⟩ = some (.slice (some ⟨b1, o1, none⟩) m d) ∧ w'.cell? ⟨b1, o1 + k * 3, none⟩ = some (.int .i64 (p : Int)) ∧ w'.cell? ⟨b1, o1 + k * 3 + 1, none⟩ = some (.int .i64 (q : Int)) ∧ w'.cell? ⟨b1, o1 + k * 3 + 2, none⟩ = some (.int .i64 mk) ∧ w'.cell? ⟨b2, o2 + p * 4, none⟩ = some (.string s) ∧ w'.cell? ⟨b2, o2 + p * 4 + 1, none⟩ = some (.int .i64 x) ∧ w'.cell? ⟨b2, o2 + p * 4 + 2, none⟩ = some (.int .i64 y) ∧ w'.cell? ⟨b2, o2 + p * 4 + 3, none⟩ = some (.bool f) ∧ w'.cell? ⟨b2, o2 + q * 4, none⟩ = some (.string s') ∧ w'.cell? ⟨b2, o2 + q * 4 + 1, none⟩ = some (.int .i64 x') ∧ w'.cell? ⟨b2, o2 + q * 4 + 2, none⟩ = some (.int .i64 y') ∧ w'.cell? ⟨b2, o2 + q * 4 + 3, none⟩ = some (.bool f'))) (by kernel_rfl) ?_ (fun hHeld => ?_)
    · (try dsimp only); (first | with_reducible exact held13 V2 | with_reducible exact held13 V1 | with_reducible exact held13 V0)
    refine wpAnyH_go (i := 0) (d := some 8) (v := ?_) (by rfl) (by kernel_rfl) (by kernel_rfl) (by kernel_rfl) (fun _ _ _ h => h) (by assumption) ?_ ?_
    rotate_left 1
    · (intro oS hoS wS hSw; obtain rfl := Option.some.inj hoS; (try dsimp only at hSw); go_simp; try with_reducible rfl)
    (try simp only [Act.put, List.setIfInBounds_toArray])
    refine wpAnyH_go (i := 1) (d := some 9) (v := ?_) (by rfl) (by kernel_rfl) (by kernel_rfl) (by kernel_rfl) (fun _ _ _ h => h) (by assumption) ?_ ?_
    rotate_left 1
    · (intro oS hoS wS hSw; obtain rfl := Option.some.inj hoS; (try dsimp only at hSw); go_simp; try with_reducible rfl)
    (try simp only [Act.put, List.setIfInBounds_toArray])
    refine wpAnyH_go (i := 2) (d := some 10) (v := ?_) (by rfl) (by kernel_rfl) (by kernel_rfl) (by kernel_rfl) (fun _ _ _ h => h) (by assumption) ?_ ?_
    rotate_left 1
    · (intro oS hoS wS hSw; obtain rfl := Option.some.inj hoS; (try dsimp only at hSw); go_simp; try with_reducible rfl)
    (try simp only [Act.put, List.setIfInBounds_toArray])
    refine wpAnyH_go (i := 3) (d := some 11) (v := ?_) (by rfl) (by kernel_rfl) (by kernel_rfl) (by kernel_rfl) (fun _ _ _ h => h) (by assumption) ?_ ?_
    rotate_left 1
    · (intro oS hoS wS hSw; obtain rfl := Option.some.inj hoS; (try dsimp only at hSw); go_simp; try with_reducible rfl)
    (try simp only [Act.put, List.setIfInBounds_toArray])
    refine wpAnyH_go (i := 4) (d := some 12) (v := ?_) (by rfl) (by kernel_rfl) (by kernel_rfl) (by kernel_rfl) (fun _ _ _ h => h) (by assumption) ?_ ?_
    rotate_left 1
    · (intro oS hoS wS hSw; obtain rfl := Option.some.inj hoS; (try dsimp only at hSw); go_simp; try with_reducible rfl)
    (try simp only [Act.put, List.setIfInBounds_toArray])
    refine wpAnyH_go (i := 5) (d := some 13) (v := ?_) (by rfl) (by kernel_rfl) (by kernel_rfl) (by kernel_rfl) (fun _ _ _ h => h) (by assumption) ?_ ?_
    rotate_left 1
    · (intro oS hoS wS hSw; obtain rfl := Option.some.inj hoS; (try dsimp only at hSw); go_simp; try with_reducible rfl)
    (try simp only [Act.put, List.setIfInBounds_toArray])
    refine wpAnyH_go (i := 6) (d := some 14) (v := ?_) (by rfl) (by kernel_rfl) (by kernel_rfl) (by kernel_rfl) (fun _ _ _ h => h) (by assumption) ?_ ?_
    rotate_left 1
    · (intro oS hoS wS hSw; obtain rfl := Option.some.inj hoS; (try dsimp only at hSw); go_simp; try with_reducible rfl)
    (try simp only [Act.put, List.setIfInBounds_toArray])
    refine wpAnyH_go (i := 7) (d := some 15) (v := ?_) (by rfl) (by kernel_rfl) (by kernel_rfl) (by kernel_rfl) (fun _ _ _ h => h) (by assumption) ?_ ?_
    rotate_left 1
    · (intro oS hoS wS hSw; obtain rfl := Option.some.inj hoS; (try dsimp only at hSw); go_simp; try with_reducible rfl)
    (try simp only [Act.put, List.setIfInBounds_toArray])
    refine wpAnyH_go (i := 8) (d := some 16) (v := ?_) (by rfl) (by kernel_rfl) (by kernel_rfl) (by kernel_rfl) (fun _ _ _ h => h) (by assumption) ?_ ?_
    rotate_left 1
    · (intro oS hoS wS hSw; obtain rfl := Option.some.inj hoS; (try dsimp only at hSw); go_simp; try with_reducible rfl)
    (try simp only [Act.put, List.setIfInBounds_toArray])
    refine wpAnyH_go (i := 9) (d := some 17) (v := ?_) (by rfl) (by kernel_rfl) (by kernel_rfl) (by kernel_rfl) (fun _ _ _ h => h) (by assumption) ?_ ?_
    rotate_left 1
    · (intro oS hoS wS hSw; obtain rfl := Option.some.inj hoS; (try dsimp only at hSw); go_simp; try with_reducible rfl)
    (try simp only [Act.put, List.setIfInBounds_toArray])
    refine wpAnyH_ready (rs := [10]) (by kernel_rfl) (by simp) ?_
    refine AllReadyH.cons rfl (fun K' hK => ?_) AllReadyH.nil
    refine step_alloc_at rfl 36 rfl j0 _ hj' hy0 ?_
    intro g wn hg hbx hbn hsn
    have V1 := Lib.hid (V0.out.below hl1.out hl2.out hbn)
    have BN := Lib.hid (BD.out.trans (hbn.mono BD.out.size))
    have YN := Lib.hid hbx
    have hgz : wm.heap.size ≤ g := by have h1 := hg.out; have h2 := BD.out.size; omega
    have hgl : wm.drew.heap.size ≤ g := by have h1 := hg.out; omega
    have hl1' := hl1.out
    have hl2' := hl2.out
    have hma : w.heap.size ≠ g := by have := hwlt.out; have h2 : wm.heap.size = wm.drew.heap.size := rfl; omega
    have h1a : b1 ≠ g := by omega
    have h2a : b2 ≠ g := by omega
    have V2 := Lib.hid (V1.out.far4 hma h1a h2a (.string s) (.int .i64 x) (.int .i64 y) (.bool f))
    have YN1 : Hid (Box ((((wn.setCell ⟨g, 0, none⟩ (.string s)).setCell ⟨g, 1, none⟩ (.int .i64 x)).setCell ⟨g, 2, none⟩ (.int .i64 y)).setCell ⟨g, 3, none⟩ (.bool f)) g 36 #[.string s, .int .i64 x, .int .i64 y, .bool f]) := by have h := box_set4 (Lib.hid YN.out) (.string s) (.int .i64 x) (.int .i64 y) (.bool f); exact h
    have B2 : Hid (Below wm.heap.size wm ((((wn.setCell ⟨g, 0, none⟩ (.string s)).setCell ⟨g, 1, none⟩ (.int .i64 x)).setCell ⟨g, 2, none⟩ (.int .i64 y)).setCell ⟨g, 3, none⟩ (.bool f))) := (((BN.out.setCell hgz _).setCell hgz _).setCell hgz _).setCell hgz _
    clear hg hbx hbn hsn hl1' hl2'
    refine hK.out _ _ ?_ (fun hHeld => ?_)
    · (try dsimp only); (first | with_reducible exact held13 V2 | with_reducible exact held13 V1 | with_reducible exact held13 V0)
    clear hK K'
    (try simp only [Act.put, List.setIfInBounds_toArray, List.set_cons_zero, List.set_cons_succ])
    have ea0 := YN.out.cell 0
    have ea1 := YN.out.cell 1
    have ea2 := YN.out.cell 2
    have ea3 := YN.out.cell 3
    have fa0 := YN.out.free 0
    have fa1 := YN.out.free 1
    have fa2 := YN.out.free 2
    have fa3 := YN.out.free 3
    simp [Value.cells] at ea0 ea1 ea2 ea3
    refine wpAnyH_ready (rs := [11]) (by kernel_rfl) (by simp) ?_
    refine AllReadyH.cons rfl (fun KK hK => ?_) AllReadyH.nil
    go_simp
    refine hK.out _ _ ?_ (fun hHeld => ?_)
    · (try dsimp only); (first | with_reducible exact held13 V2 | with_reducible exact held13 V1 | with_reducible exact held13 V0)
    clear hK KK
    (try simp only [Act.put, List.setIfInBounds_toArray])
    refine wpAnyH_done (by kernel_rfl) ?_ _
    clear ea0 fa0 ea1 fa1 ea2 fa2 ea3 fa3
    go_wp2_with fail
    go_meet
    exact ⟨g, rfl, hgz, YN1, V2, B2⟩
  obtain ⟨ga, rfl, hga, YA, VM2, B3⟩ := hcut
  obtain ⟨wy, rfl⟩ : ∃ q, q = wm := ⟨_, rfl⟩
  obtain ⟨wm, rfl⟩ : ∃ q, q = wc := ⟨_, rfl⟩
  have hsz : wy.heap.size ≤ wm.heap.size := B3.out.size
  have BW : Hid (Below w.heap.size w wm) := B1.out.trans (B3.out.mono B1.out.size)
  have hl1 : Hid (b1 < wm.drew.heap.size) := Nat.lt_of_lt_of_le hl1.out hsz
  have hl2 : Hid (b2 < wm.drew.heap.size) := Nat.lt_of_lt_of_le hl2.out hsz
  have hwlt : Hid (w.heap.size < wm.heap.size) := Nat.lt_of_lt_of_le hwlt.out hsz
  clear VM
  go_upto_region 2 with fail
  go_cut [7] (fun s7 wx => ∃ g : Nat, s7 = .pointer (some ⟨g, 0, none⟩) ∧ Hid (Box wx g 36 #[.string s', .int .i64 x', .int .i64 y', .bool f']) ∧ Hid (Below wm.heap.size wm wx))
  case first =>
    have V0 : Hid (VHeld wm.drew _ _ _ _ _ _ _ _ _ _ _ _ _ _ _ _ _) := VM2.out
    have BD : Hid (Below wm.heap.size wm wm.drew) := (Below.refl _ _).drew
    clear VM2 X1 B1 HI HOK YA B3 BW
    refine wp_region_held_drew (S := (fun w' => w'.cell? ⟨w.heap.size, 0, none⟩ = some (.slice (some ⟨b2, o2, none⟩) n c) ∧ w'.cell? ⟨w.heap.size, 1, none⟩ = some (.slice (some ⟨b1, o1, none⟩) m d) ∧ w'.cell? ⟨b1, o1 + k * 3, none⟩ = some (.int .i64 (p : Int)) ∧ w'.cell? ⟨b1, o1 + k * 3 + 1, none⟩ = some (.int .i64 (q : Int)) ∧ w'.cell? ⟨b1, o1 + k * 3 + 2, none⟩ = some (.int .i64 mk) ∧ w'.cell? ⟨b2, o2 + p * 4, none⟩ = some (.string s) ∧ w'.cell? ⟨b2, o2 + p * 4 + 1, none⟩ = some (.int .i64 x) ∧ w'.cell? ⟨b2, o2 + p * 4 + 2, none⟩ = some (.int .i64 y) ∧ w'.cell? ⟨b2, o2 + p * 4 + 3, none⟩ = some (.bool f) ∧ w'.cell? ⟨b2, o2 + q * 4, none⟩ = some (.string s') ∧ w'.cell? ⟨b2, o2 + q * 4 + 1, none⟩ = some (.int .i64 x') ∧ w'.cell? ⟨b2, o2 + q * 4 + 2, none⟩ = some (.int .i64 y') ∧ w'.cell? ⟨b2, o2 + q * 4 + 3, none⟩ = some (.bool f'))) (by kernel_rfl) ?_ (fun hHeld => ?_)
    · (try dsimp only); (first | with_reducible exact held13 V2 | with_reducible exact held13 V1 | with_reducible exact held13 V0)
    refine wpAnyH_go (i := 0) (d := some 18) (v := ?_) (by rfl) (by kernel_rfl) (by kernel_rfl) (by kernel_rfl) (fun _ _ _ h => h) (by assumption) ?_ ?_
    rotate_left 1
    · (intro oS hoS wS hSw; obtain rfl := Option.some.inj hoS; (try dsimp only at hSw); go_simp; try with_reducible rfl)
    (try simp only [Act.put, List.setIfInBounds_toArray])
    refine wpAnyH_go (i := 1) (d := some 19) (v := ?_) (by rfl) (by kernel_rfl) (by kernel_rfl) (by kernel_rfl) (fun _ _ _ h => h) (by assumption) ?_ ?_
    rotate_left 1
    · (intro oS hoS wS hSw; obtain rfl := Option.some.inj hoS; (try dsimp only at hSw); go_simp; try with_reducible rfl)
    (try simp only [Act.put, List.setIfInBounds_toArray])
    refine wpAnyH_go (i := 2) (d := some 20) (v := ?_) (by rfl) (by kernel_rfl) (by kernel_rfl) (by kernel_rfl) (fun _ _ _ h => h) (by assumption) ?_ ?_
    rotate_left 1
    · (intro oS hoS wS hSw; obtain rfl := Option.some.inj hoS; (try dsimp only at hSw); go_simp; try with_reducible rfl)
    (try simp only [Act.put, List.setIfInBounds_toArray])
    refine wpAnyH_go (i := 3) (d := some 21) (v := ?_) (by rfl) (by kernel_rfl) (by kernel_rfl) (by kernel_rfl) (fun _ _ _ h => h) (by assumption) ?_ ?_
    rotate_left 1
    · (intro oS hoS wS hSw; obtain rfl := Option.some.inj hoS; (try dsimp only at hSw); go_simp; try with_reducible rfl)
    (try simp only [Act.put, List.setIfInBounds_toArray])
    refine wpAnyH_go (i := 4) (d := some 22) (v := ?_) (by rfl) (by kernel_rfl) (by kernel_rfl) (by kernel_rfl) (fun _ _ _ h => h) (by assumption) ?_ ?_
    rotate_left 1
    · (intro oS hoS wS hSw; obtain rfl := Option.some.inj hoS; (try dsimp only at hSw); go_simp; try with_reducible rfl)
    (try simp only [Act.put, List.setIfInBounds_toArray])
    refine wpAnyH_go (i := 5) (d := some 23) (v := ?_) (by rfl) (by kernel_rfl) (by kernel_rfl) (by kernel_rfl) (fun _ _ _ h => h) (by assumption) ?_ ?_
    rotate_left 1
    · (intro oS hoS wS hSw; obtain rfl := Option.some.inj hoS; (try dsimp only at hSw); go_simp; try with_reducible rfl)
    (try simp only [Act.put, List.setIfInBounds_toArray])
    refine wpAnyH_go (i := 6) (d := some 24) (v := ?_) (by rfl) (by kernel_rfl) (by kernel_rfl) (by kernel_rfl) (fun _ _ _ h => h) (by assumption) ?_ ?_
    rotate_left 1
    · (intro oS hoS wS hSw; obtain rfl := Option.some.inj hoS; (try dsimp only at hSw); go_simp; try with_reducible rfl)
    (try simp only [Act.put, List.setIfInBounds_toArray])
    refine wpAnyH_go (i := 7) (d := some 25) (v := ?_) (by rfl) (by kernel_rfl) (by kernel_rfl) (by kernel_rfl) (fun _ _ _ h => h) (by assumption) ?_ ?_
    rotate_left 1
    · (intro oS hoS wS hSw; obtain rfl := Option.some.inj hoS; (try dsimp only at hSw); go_simp; try with_reducible rfl)
    (try simp only [Act.put, List.setIfInBounds_toArray])
    refine wpAnyH_go (i := 8) (d := some 26) (v := ?_) (by rfl) (by kernel_rfl) (by kernel_rfl) (by kernel_rfl) (fun _ _ _ h => h) (by assumption) ?_ ?_
    rotate_left 1
    · (intro oS hoS wS hSw; obtain rfl := Option.some.inj hoS; (try dsimp only at hSw); go_simp; try with_reducible rfl)
    (try simp only [Act.put, List.setIfInBounds_toArray])
    refine wpAnyH_go (i := 9) (d := some 27) (v := ?_) (by rfl) (by kernel_rfl) (by kernel_rfl) (by kernel_rfl) (fun _ _ _ h => h) (by assumption) ?_ ?_
    rotate_left 1
    · (intro oS hoS wS hSw; obtain rfl := Option.some.inj hoS; (try dsimp only at hSw); go_simp; try with_reducible rfl)
    (try simp only [Act.put, List.setIfInBounds_toArray])
    refine wpAnyH_ready (rs := [10]) (by kernel_rfl) (by simp) ?_
    refine AllReadyH.cons rfl (fun K' hK => ?_) AllReadyH.nil
    refine step_alloc_at rfl 36 rfl j0 _ hj' hy0 ?_
    intro g wn hg hbx hbn hsn
    have V1 := Lib.hid (V0.out.below hl1.out hl2.out hbn)
    have BN := Lib.hid (BD.out.trans (hbn.mono BD.out.size))
    have YN := Lib.hid hbx
    have hgz : wm.heap.size ≤ g := by have h1 := hg.out; have h2 := BD.out.size; omega
    have hgl : wm.drew.heap.size ≤ g := by have h1 := hg.out; omega
    have hl1' := hl1.out
    have hl2' := hl2.out
    have hma : w.heap.size ≠ g := by have := hwlt.out; have h2 : wm.heap.size = wm.drew.heap.size := rfl; omega
    have h1a : b1 ≠ g := by omega
    have h2a : b2 ≠ g := by omega
    have V2 := Lib.hid (V1.out.far4 hma h1a h2a (.string s') (.int .i64 x') (.int .i64 y') (.bool f'))
    have YN1 : Hid (Box ((((wn.setCell ⟨g, 0, none⟩ (.string s')).setCell ⟨g, 1, none⟩ (.int .i64 x')).setCell ⟨g, 2, none⟩ (.int .i64 y')).setCell ⟨g, 3, none⟩ (.bool f')) g 36 #[.string s', .int .i64 x', .int .i64 y', .bool f']) := by have h := box_set4 (Lib.hid YN.out) (.string s') (.int .i64 x') (.int .i64 y') (.bool f'); exact h
    have B2 : Hid (Below wm.heap.size wm ((((wn.setCell ⟨g, 0, none⟩ (.string s')).setCell ⟨g, 1, none⟩ (.int .i64 x')).setCell ⟨g, 2, none⟩ (.int .i64 y')).setCell ⟨g, 3, none⟩ (.bool f'))) := (((BN.out.setCell hgz _).setCell hgz _).setCell hgz _).setCell hgz _
    clear hg hbx hbn hsn hl1' hl2'
    refine hK.out _ _ ?_ (fun hHeld => ?_)
    · (try dsimp only); (first | with_reducible exact held13 V2 | with_reducible exact held13 V1 | with_reducible exact held13 V0)
    clear hK K'
    (try simp only [Act.put, List.setIfInBounds_toArray, List.set_cons_zero, List.set_cons_succ])
    have ea0 := YN.out.cell 0
    have ea1 := YN.out.cell 1
    have ea2 := YN.out.cell 2
    have ea3 := YN.out.cell 3
    have fa0 := YN.out.free 0
    have fa1 := YN.out.free 1
    have fa2 := YN.out.free 2
    have fa3 := YN.out.free 3
    simp [Value.cells] at ea0 ea1 ea2 ea3
    refine wpAnyH_ready (rs := [11]) (by kernel_rfl) (by simp) ?_
    refine AllReadyH.cons rfl (fun KK hK => ?_) AllReadyH.nil
    go_simp
    refine hK.out _ _ ?_ (fun hHeld => ?_)
    · (try dsimp only); (first | with_reducible exact held13 V2 | with_reducible exact held13 V1 | with_reducible exact held13 V0)
    clear hK KK
    (try simp only [Act.put, List.setIfInBounds_toArray])
    refine wpAnyH_done (by kernel_rfl) ?_ _
    clear ea0 fa0 ea1 fa1 ea2 fa2 ea3 fa3
    go_wp2_with fail
    go_meet
    exact ⟨g, rfl, YN1, B2⟩
  obtain ⟨gb, rfl, YB, B4⟩ := hcut
  obtain ⟨wx, rfl⟩ : ∃ q, q = wc := ⟨_, rfl⟩
  have YA2 := Lib.hid (YA.out.below B4.out YA.out.lt)
  have BX : Hid (∀ q, Below w.heap.size w (wx.drewN q)) := fun q => below_drewN (BW.out.trans (B4.out.mono BW.out.size)) q
  have a1 := YA2.out.cell 1
  have a2 := YA2.out.cell 2
  have b1' := YB.out.cell 1
  have b2' := YB.out.cell 2
  simp at a1 a2 b1' b2'
  have HF : Hid (∀ q, VecTEnd js ms k w (wx.drewN q) (.returned (.tuple #[.int .i64 (x' - x), .int .i64 (y' - y)]))) := fun qq => ⟨_, _, rfl, .inl ⟨HOK.out, k, _, p, q, _, _, rfl, HMM.out, rfl, rfl, HJ1.out, HJ2.out, rfl, rfl⟩, BX.out qq⟩
  go_wp2_with fail
  go_quiet (fail)
  go_wp2_with fail
  refine bodyPost_ret (v := .tuple #[.int .i64 (x' - x), .int .i64 (y' - y)]) (by simp [results, Try.results72, go_sem]) rfl ?_
  exact HF.out _
set_option maxHeartbeats 3200000 in
theorem spec_vectorOf0 (A : Option Addr) (n c : Nat) (js : List JD) (B : Option Addr) (m d : Nat) (ms : List MD) (kk : Int) (w : World) (h : InT w A n js B m ms) :
    Calls Try.prog 40 #[.agg #[.slice A n c, .slice B m d], .int .i64 kk] w fun e w' => VecTEnd js ms kk w w' e := by
  have hmn := h.1.2.1
  have hmm := h.2.2.1
  have HLM : Hid (ms.length = m) := h.2.1
  obtain ⟨W1, hW⟩ : ∃ W, W = w.alloc (.cells #[.slice A n c, .slice B m d] 48) := ⟨_, rfl⟩
  have X0 : Hid (Box W1 w.heap.size 48 #[.slice A n c, .slice B m d]) := by rw [hW]; exact Box.new _ _ _
  have B0 : Hid (Below w.heap.size w W1) := by rw [hW]; exact (Below.refl _ _).alloc (Nat.le_refl _) _
  have HI := Lib.hid h
  clear h
  go_enter Try.func40, Try.ntmps40
  go_wp2_with fail
  rw [← hW]
  clear hW
  refine (spec_structureOk0 A n c js B m d ms _ (HI.out.below B0.out)).mono ?_
  rintro e w1 ⟨b, rfl, hq, hb⟩
  have X1 := Lib.hid (X0.out.below hb X0.out.lt)
  have B1 := Lib.hid (B0.out.trans (hb.mono B0.out.size))
  have HQ := Lib.hid hq
  clear hb hq
  cases b
  case false =>
    have HF : Hid (VecTEnd js ms kk w w1 (.returned (.tuple #[.int .i64 0, .int .i64 0]))) := ⟨0, 0, rfl, .inr ⟨fun q => (by have := HQ.out.2 q.1; cases this), rfl, rfl⟩, B1.out⟩
    go_wp2_with fail
    refine bodyPost_ret (v := .tuple #[.int .i64 0, .int .i64 0]) (by simp [results, Try.results40, go_sem]) rfl ?_
    exact HF.out
  have HOK : Hid (TOk js ms) := HQ.out.1 rfl
  have e1 := X1.out.cell 1
  simp at e1
  go_wp2_with fail
  clear e1
  by_cases hk : 0 ≤ kk ∧ kk ≤ (m : Int) - 1
  case neg =>
    have HF : Hid (VecTEnd js ms kk w w1 (.returned (.tuple #[.int .i64 0, .int .i64 0]))) := ⟨0, 0, rfl, .inr ⟨fun q => hk (by have := HLM.out; omega), rfl, rfl⟩, B1.out⟩
    refine (l01In_no kk 0 ((m : Int) - 1) _ hk).mono ?_
    rintro e w2 ⟨rfl, rfl⟩
    clear hk
    go_wp2_with fail
    refine bodyPost_ret (v := .tuple #[.int .i64 0, .int .i64 0]) (by simp [results, Try.results40, go_sem]) rfl ?_
    exact HF.out
  refine (l01In_yes kk 0 ((m : Int) - 1) _ hk.1 hk.2).mono ?_
  rintro e w2 ⟨rfl, rfl⟩
  obtain ⟨k, rfl⟩ : ∃ k : Nat, kk = k := ⟨kk.toNat, by omega⟩
  have hkm : k < m := by omega
  have q0 := X1.out.cell 0
  have q1 := X1.out.cell 1
  simp at q0 q1
  clear hk
  go_wp2_with fail
  refine (spec_l12Vector A n c js B m d ms k _ (HI.out.below B1.out) HOK hkm).mono ?_
  rintro e w3 ⟨x, y, rfl, hq, hb⟩
  have HF : Hid (VecTEnd js ms k w w3 (.returned (.tuple #[.int .i64 x, .int .i64 y]))) := ⟨x, y, rfl, hq, B1.out.trans (hb.mono B1.out.size)⟩
  clear hq hb q0 q1
  go_wp2_with fail
  refine bodyPost_ret (v := .tuple #[.int .i64 x, .int .i64 y]) (by simp [results, Try.results40, go_sem]) rfl ?_
  exact HF.out
end Go.Proofs.Ytcmbfgaojlnjcaa
