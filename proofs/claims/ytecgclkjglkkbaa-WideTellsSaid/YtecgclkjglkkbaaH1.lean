/- Blocks that live while a function runs: which block holds which cells; all that lay before lies as it lay. -/
import Derived.Test.YtecgclkjglkkbaaLW
import Derived.Deep.RegionHeld3
namespace Go.Proofs.Ytecgclkjglkkbaa
open Go Go.RowKit Go.Shelf
set_option linter.unusedSimpArgs false
set_option linter.unusedVariables false

/-- The listed blocks, the newest first, hold the listed cells; what lay at the start lies as it lay. -/
def Lv (w : World) (l : List (Nat × Obj)) (W : World) : Prop :=
  (∀ p ∈ l, W.heap[p.1]? = some p.2) ∧ l.Pairwise (fun p q => q.1 ≠ p.1) ∧ (∀ p ∈ l, w.heap.size ≤ p.1) ∧ Below w.heap.size w W

theorem lv_nil (w : World) : Lv w [] w := ⟨fun _ h => (by cases h), .nil, fun _ h => (by cases h), Below.refl _ _⟩
theorem lv_lt {w W : World} {l : List (Nat × Obj)} (h : Lv w l W) {p : Nat × Obj} (hp : p ∈ l) : p.1 < W.heap.size := (Array.getElem?_eq_some_iff.1 (h.1 p hp)).1
theorem lv_below {w W W1 : World} {l : List (Nat × Obj)} (h : Lv w l W) (hB : Below W.heap.size W W1) : Lv w l W1 :=
  ⟨fun p hp => (hB.block p.1 (lv_lt h hp)).trans (h.1 p hp), h.2.1, h.2.2.1, h.2.2.2.trans (hB.mono h.2.2.2.size)⟩
theorem lv_drew {w W : World} {l : List (Nat × Obj)} (h : Lv w l W) : Lv w l W.drew := ⟨h.1, h.2.1, h.2.2.1, h.2.2.2.drew⟩
theorem lv_alloc {w W : World} {l : List (Nat × Obj)} (h : Lv w l W) (o : Obj) : Lv w ((W.heap.size, o) :: l) (W.alloc o) := by
  have hB : Below W.heap.size W (W.alloc o) := (Below.refl _ W).alloc (Nat.le_refl _) o
  have h2 := lv_below h hB
  refine ⟨fun p hp => ?_, .cons (fun q hq => Nat.ne_of_lt (lv_lt h hq)) h.2.1, fun p hp => ?_, h2.2.2.2⟩
  · rcases List.mem_cons.1 hp with rfl | hp
    · exact World.alloc_heap_new W o
    · exact h2.1 p hp
  · rcases List.mem_cons.1 hp with rfl | hp
    · exact h.2.2.2.size
    · exact h.2.2.1 p hp
theorem lv_tail {w W : World} {l : List (Nat × Obj)} {p : Nat × Obj} (h : Lv w (p :: l) W) : Lv w l W :=
  ⟨fun q hq => h.1 q (List.mem_cons_of_mem _ hq), (List.pairwise_cons.1 h.2.1).2, fun q hq => h.2.2.1 q (List.mem_cons_of_mem _ hq), h.2.2.2⟩
theorem lv_cell {w W : World} {l : List (Nat × Obj)} (h : Lv w l W) {B : Nat} {cs : Array Value} {T : TypeId} (hm : (B, Obj.cells cs T (0, 0)) ∈ l) {i : Nat} {v : Value} (hv : cs[i]? = some v) : W.cell? ⟨B, i, none⟩ = some v := by
  have := h.1 _ hm
  simp only [World.cell?]
  rw [this]
  exact hv
theorem lv_frozen {w W : World} {l : List (Nat × Obj)} (h : Lv w l W) {B : Nat} {cs : Array Value} {T : TypeId} (hm : (B, Obj.cells cs T (0, 0)) ∈ l) (i : Nat) : W.frozen? ⟨B, i, none⟩ = false := by
  have := h.1 _ hm
  simp only [World.frozen?]
  rw [this]
  simp
theorem lv_at4 {w W : World} {l : List (Nat × Obj)} (h : Lv w l W) {B : Nat} {r : Nat → Nat} (hm : (B, Obj.cells #[.int .u64 (r 0), .int .u64 (r 1), .int .u64 (r 2), .int .u64 (r 3)] 24 (0, 0)) ∈ l) : At4 W B r := h.1 _ hm
theorem lv_cells4 {w W : World} {l : List (Nat × Obj)} (h : Lv w l W) {B : Nat} {T : TypeId} {c0 c1 c2 c3 : Value} (hm : (B, Obj.cells #[c0, c1, c2, c3] T (0, 0)) ∈ l) :
    W.cell? ⟨B, 0, none⟩ = some c0 ∧ W.cell? ⟨B, 1, none⟩ = some c1 ∧ W.cell? ⟨B, 2, none⟩ = some c2 ∧ W.cell? ⟨B, 3, none⟩ = some c3 :=
  ⟨lv_cell h hm rfl, lv_cell h hm rfl, lv_cell h hm rfl, lv_cell h hm rfl⟩

theorem pairwise_mid {l1 l2 : List (Nat × Obj)} {B : Nat} {o o' : Obj} (h : (l1 ++ (B, o) :: l2).Pairwise (fun p q => q.1 ≠ p.1)) : (l1 ++ (B, o') :: l2).Pairwise (fun p q => q.1 ≠ p.1) := by
  rw [List.pairwise_append, List.pairwise_cons] at h ⊢
  obtain ⟨h1, ⟨h2, h3⟩, h4⟩ := h
  refine ⟨h1, ⟨h2, h3⟩, fun p hp q hq => ?_⟩
  rcases List.mem_cons.1 hq with rfl | hq
  · exact h4 p hp (B, o) (by simp)
  · exact h4 p hp q (List.mem_cons_of_mem _ hq)
theorem lv_set {w W : World} (l1 : List (Nat × Obj)) {l2 : List (Nat × Obj)} {B : Nat} {cs : Array Value} {T : TypeId} (h : Lv w (l1 ++ (B, Obj.cells cs T (0, 0)) :: l2) W) (i : Nat) (v : Value) :
    Lv w (l1 ++ (B, Obj.cells (cs.setIfInBounds i v) T (0, 0)) :: l2) (W.setCell ⟨B, i, none⟩ v) := by
  have hmem : (B, Obj.cells cs T (0, 0)) ∈ l1 ++ (B, Obj.cells cs T (0, 0)) :: l2 := List.mem_append_right _ (List.mem_cons_self)
  have hb := h.1 _ hmem
  have hge := h.2.2.1 _ hmem
  have hpw := List.pairwise_append.1 h.2.1
  have hpc := List.pairwise_cons.1 hpw.2.1
  have hne : ∀ p ∈ l1 ++ l2, p.1 ≠ B := by
    intro p hp
    rcases List.mem_append.1 hp with hp | hp
    · exact fun e => hpw.2.2 p hp _ List.mem_cons_self e.symm
    · exact hpc.1 p hp
  refine ⟨fun p hp => ?_, pairwise_mid h.2.1, fun p hp => ?_, h.2.2.2.setCell (p := ⟨B, i, none⟩) hge v⟩
  · have hc : p = (B, Obj.cells (cs.setIfInBounds i v) T (0, 0)) ∨ p ∈ l1 ++ l2 := by
      rcases List.mem_append.1 hp with hp | hp
      · exact .inr (List.mem_append_left _ hp)
      · rcases List.mem_cons.1 hp with hp | hp
        · exact .inl hp
        · exact .inr (List.mem_append_right _ hp)
    rcases hc with rfl | hp
    · obtain ⟨hlt, hk⟩ := Array.getElem?_eq_some_iff.1 hb
      show (W.heap.modify B _)[B]? = _
      rw [Array.getElem?_eq_getElem (by rw [Array.size_modify]; exact hlt), Array.getElem_modify_self, hk]
      rfl
    · have hm : p ∈ l1 ++ (B, Obj.cells cs T (0, 0)) :: l2 := by
        rcases List.mem_append.1 hp with hp | hp
        · exact List.mem_append_left _ hp
        · exact List.mem_append_right _ (List.mem_cons_of_mem _ hp)
      exact (Below.heap_setCell W ⟨B, i, none⟩ v p.1 (hne p hp)).trans (h.1 p hm)
  · rcases List.mem_append.1 hp with hp | hp
    · exact h.2.2.1 p (List.mem_append_left _ hp)
    · rcases List.mem_cons.1 hp with rfl | hp
      · exact hge
      · exact h.2.2.1 p (List.mem_append_right _ (List.mem_cons_of_mem _ hp))
theorem lv_store1 {w W : World} (l1 : List (Nat × Obj)) {l2 : List (Nat × Obj)} {B : Nat} {c0 : Value} {T : TypeId} (h : Lv w (l1 ++ (B, Obj.cells #[c0] T (0, 0)) :: l2) W) (v0 : Value) :
    Lv w (l1 ++ (B, Obj.cells #[v0] T (0, 0)) :: l2) (W.setCell ⟨B, 0, none⟩ v0) := lv_set l1 h 0 v0
theorem lv_store4 {w W : World} (l1 : List (Nat × Obj)) {l2 : List (Nat × Obj)} {B : Nat} {c0 c1 c2 c3 : Value} {T : TypeId} (h : Lv w (l1 ++ (B, Obj.cells #[c0, c1, c2, c3] T (0, 0)) :: l2) W) (v0 v1 v2 v3 : Value) :
    Lv w (l1 ++ (B, Obj.cells #[v0, v1, v2, v3] T (0, 0)) :: l2) ((((W.setCell ⟨B, 0, none⟩ v0).setCell ⟨B, 1, none⟩ v1).setCell ⟨B, 2, none⟩ v2).setCell ⟨B, 3, none⟩ v3) :=
  lv_set l1 (lv_set l1 (lv_set l1 (lv_set l1 h 0 v0) 1 v1) 2 v2) 3 v3
theorem lv_store5 {w W : World} (l1 : List (Nat × Obj)) {l2 : List (Nat × Obj)} {B : Nat} {c0 c1 c2 c3 c4 : Value} {T : TypeId} (h : Lv w (l1 ++ (B, Obj.cells #[c0, c1, c2, c3, c4] T (0, 0)) :: l2) W) (v0 v1 v2 v3 v4 : Value) :
    Lv w (l1 ++ (B, Obj.cells #[v0, v1, v2, v3, v4] T (0, 0)) :: l2) (((((W.setCell ⟨B, 0, none⟩ v0).setCell ⟨B, 1, none⟩ v1).setCell ⟨B, 2, none⟩ v2).setCell ⟨B, 3, none⟩ v3).setCell ⟨B, 4, none⟩ v4) := by
  have h2 := lv_set l1 (lv_set l1 (lv_set l1 (lv_set l1 (lv_set l1 h 0 v0) 1 v1) 2 v2) 3 v3) 4 v4
  simp only [List.setIfInBounds_toArray, List.set_cons_zero, List.set_cons_succ] at h2
  exact h2
theorem lv_store8 {w W : World} (l1 : List (Nat × Obj)) {l2 : List (Nat × Obj)} {B : Nat} {c0 c1 c2 c3 c4 c5 c6 c7 : Value} {T : TypeId} (h : Lv w (l1 ++ (B, Obj.cells #[c0, c1, c2, c3, c4, c5, c6, c7] T (0, 0)) :: l2) W) (v0 v1 v2 v3 v4 v5 v6 v7 : Value) :
    Lv w (l1 ++ (B, Obj.cells #[v0, v1, v2, v3, v4, v5, v6, v7] T (0, 0)) :: l2) ((((((((W.setCell ⟨B, 0, none⟩ v0).setCell ⟨B, 1, none⟩ v1).setCell ⟨B, 2, none⟩ v2).setCell ⟨B, 3, none⟩ v3).setCell ⟨B, 4, none⟩ v4).setCell ⟨B, 5, none⟩ v5).setCell ⟨B, 6, none⟩ v6).setCell ⟨B, 7, none⟩ v7) := by
  have h2 := lv_set l1 (lv_set l1 (lv_set l1 (lv_set l1 (lv_set l1 (lv_set l1 (lv_set l1 (lv_set l1 h 0 v0) 1 v1) 2 v2) 3 v3) 4 v4) 5 v5) 6 v6) 7 v7
  simp only [List.setIfInBounds_toArray, List.set_cons_zero, List.set_cons_succ] at h2
  exact h2
theorem lv_store13 {w W : World} (l1 : List (Nat × Obj)) {l2 : List (Nat × Obj)} {B : Nat} {c0 c1 c2 c3 c4 c5 c6 c7 c8 c9 c10 c11 c12 : Value} {T : TypeId} (h : Lv w (l1 ++ (B, Obj.cells #[c0, c1, c2, c3, c4, c5, c6, c7, c8, c9, c10, c11, c12] T (0, 0)) :: l2) W) (v0 v1 v2 v3 v4 v5 v6 v7 v8 v9 v10 v11 v12 : Value) :
    Lv w (l1 ++ (B, Obj.cells #[v0, v1, v2, v3, v4, v5, v6, v7, v8, v9, v10, v11, v12] T (0, 0)) :: l2) (((((((((((((W.setCell ⟨B, 0, none⟩ v0).setCell ⟨B, 1, none⟩ v1).setCell ⟨B, 2, none⟩ v2).setCell ⟨B, 3, none⟩ v3).setCell ⟨B, 4, none⟩ v4).setCell ⟨B, 5, none⟩ v5).setCell ⟨B, 6, none⟩ v6).setCell ⟨B, 7, none⟩ v7).setCell ⟨B, 8, none⟩ v8).setCell ⟨B, 9, none⟩ v9).setCell ⟨B, 10, none⟩ v10).setCell ⟨B, 11, none⟩ v11).setCell ⟨B, 12, none⟩ v12) := by
  have h2 := lv_set l1 (lv_set l1 (lv_set l1 (lv_set l1 (lv_set l1 (lv_set l1 (lv_set l1 (lv_set l1 (lv_set l1 (lv_set l1 (lv_set l1 (lv_set l1 (lv_set l1 h 0 v0) 1 v1) 2 v2) 3 v3) 4 v4) 5 v5) 6 v6) 7 v7) 8 v8) 9 v9) 10 v10) 11 v11) 12 v12
  simp only [List.setIfInBounds_toArray, List.set_cons_zero, List.set_cons_succ] at h2
  exact h2
theorem lv_store16 {w W : World} (l1 : List (Nat × Obj)) {l2 : List (Nat × Obj)} {B : Nat} {c0 c1 c2 c3 c4 c5 c6 c7 c8 c9 c10 c11 c12 c13 c14 c15 : Value} {T : TypeId} (h : Lv w (l1 ++ (B, Obj.cells #[c0, c1, c2, c3, c4, c5, c6, c7, c8, c9, c10, c11, c12, c13, c14, c15] T (0, 0)) :: l2) W) (v0 v1 v2 v3 v4 v5 v6 v7 v8 v9 v10 v11 v12 v13 v14 v15 : Value) :
    Lv w (l1 ++ (B, Obj.cells #[v0, v1, v2, v3, v4, v5, v6, v7, v8, v9, v10, v11, v12, v13, v14, v15] T (0, 0)) :: l2) ((((((((((((((((W.setCell ⟨B, 0, none⟩ v0).setCell ⟨B, 1, none⟩ v1).setCell ⟨B, 2, none⟩ v2).setCell ⟨B, 3, none⟩ v3).setCell ⟨B, 4, none⟩ v4).setCell ⟨B, 5, none⟩ v5).setCell ⟨B, 6, none⟩ v6).setCell ⟨B, 7, none⟩ v7).setCell ⟨B, 8, none⟩ v8).setCell ⟨B, 9, none⟩ v9).setCell ⟨B, 10, none⟩ v10).setCell ⟨B, 11, none⟩ v11).setCell ⟨B, 12, none⟩ v12).setCell ⟨B, 13, none⟩ v13).setCell ⟨B, 14, none⟩ v14).setCell ⟨B, 15, none⟩ v15) := by
  have h2 := lv_set l1 (lv_set l1 (lv_set l1 (lv_set l1 (lv_set l1 (lv_set l1 (lv_set l1 (lv_set l1 (lv_set l1 (lv_set l1 (lv_set l1 (lv_set l1 (lv_set l1 (lv_set l1 (lv_set l1 (lv_set l1 h 0 v0) 1 v1) 2 v2) 3 v3) 4 v4) 5 v5) 6 v6) 7 v7) 8 v8) 9 v9) 10 v10) 11 v11) 12 v12) 13 v13) 14 v14) 15 v15
  simp only [List.setIfInBounds_toArray, List.set_cons_zero, List.set_cons_succ] at h2
  exact h2
theorem lv_new {w : World} (o : Obj) : Lv w [(w.heap.size, o)] (w.alloc o) := lv_alloc (lv_nil w) o
theorem lv_sub {w W : World} {l l' : List (Nat × Obj)} (hs : l'.Sublist l) (h : Lv w l W) : Lv w l' W :=
  ⟨fun p hp => h.1 p (hs.subset hp), h.2.1.sublist hs, fun p hp => h.2.2.1 p (hs.subset hp), h.2.2.2⟩
theorem lv_swap {w W : World} {l : List (Nat × Obj)} {x y : Nat × Obj} (h : Lv w (x :: y :: l) W) : Lv w (y :: x :: l) W := by
  have h1 := List.pairwise_cons.1 h.2.1
  have h2 := List.pairwise_cons.1 h1.2
  have hm : ∀ p, p ∈ y :: x :: l → p ∈ x :: y :: l := by
    intro p hp
    simp only [List.mem_cons] at hp ⊢
    rcases hp with hp | hp | hp
    · exact .inr (.inl hp)
    · exact .inl hp
    · exact .inr (.inr hp)
  refine ⟨fun p hp => h.1 p (hm p hp), .cons (fun q hq => ?_) (.cons (fun q hq => h1.1 q (List.mem_cons_of_mem _ hq)) h2.2), fun p hp => h.2.2.1 p (hm p hp), h.2.2.2⟩
  rcases List.mem_cons.1 hq with rfl | hq
  · exact fun e => h1.1 y List.mem_cons_self e.symm
  · exact h2.1 q hq
/-- A world and its newest block under names. -/
theorem lv_grow {w W : World} {l : List (Nat × Obj)} (h : Lv w l W) (o : Obj) : ∃ V B, W.alloc o = V ∧ W.heap.size = B ∧ Lv w ((B, o) :: l) V := ⟨_, _, rfl, rfl, lv_alloc h o⟩

theorem lv_cells1 {w W : World} {l : List (Nat × Obj)} (h : Lv w l W) {B : Nat} {T : TypeId} {c0 : Value} (hm : (B, Obj.cells #[c0] T (0, 0)) ∈ l) :
    W.cell? ⟨B, 0, none⟩ = some c0 :=
  lv_cell h hm rfl
theorem lv_cells5 {w W : World} {l : List (Nat × Obj)} (h : Lv w l W) {B : Nat} {T : TypeId} {c0 c1 c2 c3 c4 : Value} (hm : (B, Obj.cells #[c0, c1, c2, c3, c4] T (0, 0)) ∈ l) :
    W.cell? ⟨B, 0, none⟩ = some c0 ∧ W.cell? ⟨B, 1, none⟩ = some c1 ∧ W.cell? ⟨B, 2, none⟩ = some c2 ∧ W.cell? ⟨B, 3, none⟩ = some c3 ∧ W.cell? ⟨B, 4, none⟩ = some c4 :=
  ⟨lv_cell h hm rfl, lv_cell h hm rfl, lv_cell h hm rfl, lv_cell h hm rfl, lv_cell h hm rfl⟩
theorem lv_cells8 {w W : World} {l : List (Nat × Obj)} (h : Lv w l W) {B : Nat} {T : TypeId} {c0 c1 c2 c3 c4 c5 c6 c7 : Value} (hm : (B, Obj.cells #[c0, c1, c2, c3, c4, c5, c6, c7] T (0, 0)) ∈ l) :
    W.cell? ⟨B, 0, none⟩ = some c0 ∧ W.cell? ⟨B, 1, none⟩ = some c1 ∧ W.cell? ⟨B, 2, none⟩ = some c2 ∧ W.cell? ⟨B, 3, none⟩ = some c3 ∧ W.cell? ⟨B, 4, none⟩ = some c4 ∧ W.cell? ⟨B, 5, none⟩ = some c5 ∧ W.cell? ⟨B, 6, none⟩ = some c6 ∧ W.cell? ⟨B, 7, none⟩ = some c7 :=
  ⟨lv_cell h hm rfl, lv_cell h hm rfl, lv_cell h hm rfl, lv_cell h hm rfl, lv_cell h hm rfl, lv_cell h hm rfl, lv_cell h hm rfl, lv_cell h hm rfl⟩
theorem lv_cells13 {w W : World} {l : List (Nat × Obj)} (h : Lv w l W) {B : Nat} {T : TypeId} {c0 c1 c2 c3 c4 c5 c6 c7 c8 c9 c10 c11 c12 : Value} (hm : (B, Obj.cells #[c0, c1, c2, c3, c4, c5, c6, c7, c8, c9, c10, c11, c12] T (0, 0)) ∈ l) :
    W.cell? ⟨B, 0, none⟩ = some c0 ∧ W.cell? ⟨B, 1, none⟩ = some c1 ∧ W.cell? ⟨B, 2, none⟩ = some c2 ∧ W.cell? ⟨B, 3, none⟩ = some c3 ∧ W.cell? ⟨B, 4, none⟩ = some c4 ∧ W.cell? ⟨B, 5, none⟩ = some c5 ∧ W.cell? ⟨B, 6, none⟩ = some c6 ∧ W.cell? ⟨B, 7, none⟩ = some c7 ∧ W.cell? ⟨B, 8, none⟩ = some c8 ∧ W.cell? ⟨B, 9, none⟩ = some c9 ∧ W.cell? ⟨B, 10, none⟩ = some c10 ∧ W.cell? ⟨B, 11, none⟩ = some c11 ∧ W.cell? ⟨B, 12, none⟩ = some c12 :=
  ⟨lv_cell h hm rfl, lv_cell h hm rfl, lv_cell h hm rfl, lv_cell h hm rfl, lv_cell h hm rfl, lv_cell h hm rfl, lv_cell h hm rfl, lv_cell h hm rfl, lv_cell h hm rfl, lv_cell h hm rfl, lv_cell h hm rfl, lv_cell h hm rfl, lv_cell h hm rfl⟩
theorem lv_cells16 {w W : World} {l : List (Nat × Obj)} (h : Lv w l W) {B : Nat} {T : TypeId} {c0 c1 c2 c3 c4 c5 c6 c7 c8 c9 c10 c11 c12 c13 c14 c15 : Value} (hm : (B, Obj.cells #[c0, c1, c2, c3, c4, c5, c6, c7, c8, c9, c10, c11, c12, c13, c14, c15] T (0, 0)) ∈ l) :
    W.cell? ⟨B, 0, none⟩ = some c0 ∧ W.cell? ⟨B, 1, none⟩ = some c1 ∧ W.cell? ⟨B, 2, none⟩ = some c2 ∧ W.cell? ⟨B, 3, none⟩ = some c3 ∧ W.cell? ⟨B, 4, none⟩ = some c4 ∧ W.cell? ⟨B, 5, none⟩ = some c5 ∧ W.cell? ⟨B, 6, none⟩ = some c6 ∧ W.cell? ⟨B, 7, none⟩ = some c7 ∧ W.cell? ⟨B, 8, none⟩ = some c8 ∧ W.cell? ⟨B, 9, none⟩ = some c9 ∧ W.cell? ⟨B, 10, none⟩ = some c10 ∧ W.cell? ⟨B, 11, none⟩ = some c11 ∧ W.cell? ⟨B, 12, none⟩ = some c12 ∧ W.cell? ⟨B, 13, none⟩ = some c13 ∧ W.cell? ⟨B, 14, none⟩ = some c14 ∧ W.cell? ⟨B, 15, none⟩ = some c15 :=
  ⟨lv_cell h hm rfl, lv_cell h hm rfl, lv_cell h hm rfl, lv_cell h hm rfl, lv_cell h hm rfl, lv_cell h hm rfl, lv_cell h hm rfl, lv_cell h hm rfl, lv_cell h hm rfl, lv_cell h hm rfl, lv_cell h hm rfl, lv_cell h hm rfl, lv_cell h hm rfl, lv_cell h hm rfl, lv_cell h hm rfl, lv_cell h hm rfl⟩

theorem lm0 {α : Type} {x : α} {l : List α} : x ∈ x :: l := List.Mem.head _
theorem lm1 {α : Type} {x a0 : α} {l : List α} : x ∈ a0 :: x :: l := List.Mem.tail _ lm0
theorem lm2 {α : Type} {x a0 a1 : α} {l : List α} : x ∈ a0 :: a1 :: x :: l := List.Mem.tail _ lm1
theorem lm3 {α : Type} {x a0 a1 a2 : α} {l : List α} : x ∈ a0 :: a1 :: a2 :: x :: l := List.Mem.tail _ lm2
theorem lm4 {α : Type} {x a0 a1 a2 a3 : α} {l : List α} : x ∈ a0 :: a1 :: a2 :: a3 :: x :: l := List.Mem.tail _ lm3
theorem lm5 {α : Type} {x a0 a1 a2 a3 a4 : α} {l : List α} : x ∈ a0 :: a1 :: a2 :: a3 :: a4 :: x :: l := List.Mem.tail _ lm4
theorem lm6 {α : Type} {x a0 a1 a2 a3 a4 a5 : α} {l : List α} : x ∈ a0 :: a1 :: a2 :: a3 :: a4 :: a5 :: x :: l := List.Mem.tail _ lm5
theorem lm7 {α : Type} {x a0 a1 a2 a3 a4 a5 a6 : α} {l : List α} : x ∈ a0 :: a1 :: a2 :: a3 :: a4 :: a5 :: a6 :: x :: l := List.Mem.tail _ lm6
theorem lm8 {α : Type} {x a0 a1 a2 a3 a4 a5 a6 a7 : α} {l : List α} : x ∈ a0 :: a1 :: a2 :: a3 :: a4 :: a5 :: a6 :: a7 :: x :: l := List.Mem.tail _ lm7
theorem lm9 {α : Type} {x a0 a1 a2 a3 a4 a5 a6 a7 a8 : α} {l : List α} : x ∈ a0 :: a1 :: a2 :: a3 :: a4 :: a5 :: a6 :: a7 :: a8 :: x :: l := List.Mem.tail _ lm8
theorem lm10 {α : Type} {x a0 a1 a2 a3 a4 a5 a6 a7 a8 a9 : α} {l : List α} : x ∈ a0 :: a1 :: a2 :: a3 :: a4 :: a5 :: a6 :: a7 :: a8 :: a9 :: x :: l := List.Mem.tail _ lm9
theorem lm11 {α : Type} {x a0 a1 a2 a3 a4 a5 a6 a7 a8 a9 a10 : α} {l : List α} : x ∈ a0 :: a1 :: a2 :: a3 :: a4 :: a5 :: a6 :: a7 :: a8 :: a9 :: a10 :: x :: l := List.Mem.tail _ lm10
theorem lm12 {α : Type} {x a0 a1 a2 a3 a4 a5 a6 a7 a8 a9 a10 a11 : α} {l : List α} : x ∈ a0 :: a1 :: a2 :: a3 :: a4 :: a5 :: a6 :: a7 :: a8 :: a9 :: a10 :: a11 :: x :: l := List.Mem.tail _ lm11
theorem lm13 {α : Type} {x a0 a1 a2 a3 a4 a5 a6 a7 a8 a9 a10 a11 a12 : α} {l : List α} : x ∈ a0 :: a1 :: a2 :: a3 :: a4 :: a5 :: a6 :: a7 :: a8 :: a9 :: a10 :: a11 :: a12 :: x :: l := List.Mem.tail _ lm12
theorem lm14 {α : Type} {x a0 a1 a2 a3 a4 a5 a6 a7 a8 a9 a10 a11 a12 a13 : α} {l : List α} : x ∈ a0 :: a1 :: a2 :: a3 :: a4 :: a5 :: a6 :: a7 :: a8 :: a9 :: a10 :: a11 :: a12 :: a13 :: x :: l := List.Mem.tail _ lm13
theorem lm15 {α : Type} {x a0 a1 a2 a3 a4 a5 a6 a7 a8 a9 a10 a11 a12 a13 a14 : α} {l : List α} : x ∈ a0 :: a1 :: a2 :: a3 :: a4 :: a5 :: a6 :: a7 :: a8 :: a9 :: a10 :: a11 :: a12 :: a13 :: a14 :: x :: l := List.Mem.tail _ lm14
theorem lm16 {α : Type} {x a0 a1 a2 a3 a4 a5 a6 a7 a8 a9 a10 a11 a12 a13 a14 a15 : α} {l : List α} : x ∈ a0 :: a1 :: a2 :: a3 :: a4 :: a5 :: a6 :: a7 :: a8 :: a9 :: a10 :: a11 :: a12 :: a13 :: a14 :: a15 :: x :: l := List.Mem.tail _ lm15
theorem lm17 {α : Type} {x a0 a1 a2 a3 a4 a5 a6 a7 a8 a9 a10 a11 a12 a13 a14 a15 a16 : α} {l : List α} : x ∈ a0 :: a1 :: a2 :: a3 :: a4 :: a5 :: a6 :: a7 :: a8 :: a9 :: a10 :: a11 :: a12 :: a13 :: a14 :: a15 :: a16 :: x :: l := List.Mem.tail _ lm16
theorem lm18 {α : Type} {x a0 a1 a2 a3 a4 a5 a6 a7 a8 a9 a10 a11 a12 a13 a14 a15 a16 a17 : α} {l : List α} : x ∈ a0 :: a1 :: a2 :: a3 :: a4 :: a5 :: a6 :: a7 :: a8 :: a9 :: a10 :: a11 :: a12 :: a13 :: a14 :: a15 :: a16 :: a17 :: x :: l := List.Mem.tail _ lm17
theorem lm19 {α : Type} {x a0 a1 a2 a3 a4 a5 a6 a7 a8 a9 a10 a11 a12 a13 a14 a15 a16 a17 a18 : α} {l : List α} : x ∈ a0 :: a1 :: a2 :: a3 :: a4 :: a5 :: a6 :: a7 :: a8 :: a9 :: a10 :: a11 :: a12 :: a13 :: a14 :: a15 :: a16 :: a17 :: a18 :: x :: l := List.Mem.tail _ lm18
theorem lm20 {α : Type} {x a0 a1 a2 a3 a4 a5 a6 a7 a8 a9 a10 a11 a12 a13 a14 a15 a16 a17 a18 a19 : α} {l : List α} : x ∈ a0 :: a1 :: a2 :: a3 :: a4 :: a5 :: a6 :: a7 :: a8 :: a9 :: a10 :: a11 :: a12 :: a13 :: a14 :: a15 :: a16 :: a17 :: a18 :: a19 :: x :: l := List.Mem.tail _ lm19
theorem lm21 {α : Type} {x a0 a1 a2 a3 a4 a5 a6 a7 a8 a9 a10 a11 a12 a13 a14 a15 a16 a17 a18 a19 a20 : α} {l : List α} : x ∈ a0 :: a1 :: a2 :: a3 :: a4 :: a5 :: a6 :: a7 :: a8 :: a9 :: a10 :: a11 :: a12 :: a13 :: a14 :: a15 :: a16 :: a17 :: a18 :: a19 :: a20 :: x :: l := List.Mem.tail _ lm20
theorem sk {α : Type} {a : α} {l l' : List α} (h : l'.Sublist l) : (a :: l').Sublist (a :: l) := List.Sublist.cons_cons a h
theorem sd {α : Type} {a : α} {l l' : List α} (h : l'.Sublist l) : l'.Sublist (a :: l) := List.Sublist.cons a h
theorem sn {α : Type} : ([] : List α).Sublist [] := List.Sublist.slnil

section
variable {P : Program} {ops : Array Oper} {Q : Exit → Act → World → Prop} {md : Region.Mode} {S : World → Prop}
/-- Take an operation that only reads. -/
theorem tk (i : Nat) (oi : Oper) {v : Value} {fuel : Nat} {listed : Array Bool} {a : Act} {w : World} (hy : ∀ w, S w → (execOp a.eval oi).run P w = .ok (.value v) w)
    (h : wpAnyH P md ops Q S fuel (listed.setIfInBounds i true) (a.put oi.dst v) w) (hS : S w := by assumption) (hi : ops[i]? = some oi := by exact rfl)
    (hs : Region.noSelect ops = true := by kernel_rfl) (hf : Region.free md ops listed i = true := by kernel_rfl) (hr : (Region.ready md ops listed).contains i = true := by kernel_rfl)
    (hQ : ∀ c a w, Q (.panic c) (a.put oi.dst v) w → Q (.panic c) a w := by exact fun _ _ _ h => h) (hw : Region.wanted oi (yielded ops a.tmps) = true := by rfl) : wpAnyH P md ops Q S (fuel + 1) listed a w :=
  wpAnyH_take hi hs hf hr hQ (Or.inl ⟨hw, hy⟩) hS h
/-- Take an operation that is not wanted. -/
theorem tu (i : Nat) (oi : Oper) {fuel : Nat} {listed : Array Bool} {a : Act} {w : World}
    (h : wpAnyH P md ops Q S fuel (listed.setIfInBounds i true) (a.put oi.dst undef) w) (hS : S w := by assumption) (hi : ops[i]? = some oi := by exact rfl)
    (hs : Region.noSelect ops = true := by kernel_rfl) (hf : Region.free md ops listed i = true := by kernel_rfl) (hr : (Region.ready md ops listed).contains i = true := by kernel_rfl)
    (hQ : ∀ c a w, Q (.panic c) (a.put oi.dst undef) w → Q (.panic c) a w := by exact fun _ _ _ h => h) (hw : Region.wanted oi (yielded ops a.tmps) = false := by rfl) : wpAnyH P md ops Q S (fuel + 1) listed a w :=
  wpAnyH_take hi hs hf hr hQ (Or.inr ⟨hw, rfl⟩) hS h
/-- One operation comes up. -/
theorem rd1 (i : Nat) (oi : Oper) {fuel : Nat} {listed : Array Bool} {a : Act} {w : World}
    (h : ∀ K' : Act → World → Prop, Shut (∀ a w, S w → (S w → wpAnyH P md ops Q S fuel (listed.setIfInBounds i true) a w) → K' a w) → if Region.wanted oi (yielded ops a.tmps) = true then Oper.wp P oi a w K' Q else K' (a.put oi.dst undef) w)
    (hr : Region.ready md ops listed = [i] := by kernel_rfl) (ho : ops[i]? = some oi := by exact rfl) : wpAnyH P md ops Q S (fuel + 1) listed a w :=
  wpAnyH_ready hr (by simp) (AllReadyH.cons ho h AllReadyH.nil)
/-- One of two comes up. -/
theorem rd2 (i j : Nat) (oi oj : Oper) {fuel : Nat} {listed : Array Bool} {a : Act} {w : World}
    (h : ∀ K' : Act → World → Prop, Shut (∀ a w, S w → (S w → wpAnyH P md ops Q S fuel (listed.setIfInBounds i true) a w) → K' a w) → if Region.wanted oi (yielded ops a.tmps) = true then Oper.wp P oi a w K' Q else K' (a.put oi.dst undef) w)
    (h2 : ∀ K' : Act → World → Prop, Shut (∀ a w, S w → (S w → wpAnyH P md ops Q S fuel (listed.setIfInBounds j true) a w) → K' a w) → if Region.wanted oj (yielded ops a.tmps) = true then Oper.wp P oj a w K' Q else K' (a.put oj.dst undef) w)
    (hr : Region.ready md ops listed = [i, j] := by kernel_rfl) (ho : ops[i]? = some oi := by exact rfl) (ho2 : ops[j]? = some oj := by rfl) : wpAnyH P md ops Q S (fuel + 1) listed a w :=
  wpAnyH_ready hr (by simp) (AllReadyH.cons ho h (AllReadyH.cons ho2 h2 AllReadyH.nil))
end

end Go.Proofs.Ytecgclkjglkkbaa
