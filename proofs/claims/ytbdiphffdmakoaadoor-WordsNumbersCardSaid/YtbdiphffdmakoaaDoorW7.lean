/- wakes answers true, where the library's tables are as their initialisers lay them. -/
import Derived.Test.YtbdiphffdmakoaaDoorW6
namespace Go.Proofs.YtbdiphffdmakoaaDoor
open Go Go.RowKit Go.MapKept Go.Shelf

def wt1 : ByteArray := ⟨#[32, 103, 111, 227, 128, 128, 226, 136, 146, 49, 50]⟩
def wt2 : ByteArray := ⟨#[97, 195, 169, 32, 255]⟩

theorem ws1 : splitR wt1 = ([(1, ⟨#[103, 111]⟩), (4, ⟨#[226, 136, 146, 49, 50]⟩)], 7, 0) := by kernel_rfl
theorem ws2 : splitR wt2 = ([], 3, 10) := by kernel_rfl
theorem wn1 : numR ⟨#[226, 136, 146, 49, 50]⟩ = (-12, 0) := by kernel_rfl
theorem wn2 : numR ⟨#[49, 49, 53, 50, 57, 50, 49, 53, 48, 52, 54, 48, 54, 56, 52, 54, 57, 55, 55]⟩ = (0, 20) := by kernel_rfl
theorem wn3 : numR ⟨#[239, 188, 145, 239, 188, 146]⟩ = (12, 0) := by kernel_rfl
theorem wp1 : Lib.itoa (-7) = [45, 55] := by kernel_rfl
theorem wj1 : joinR [⟨#[97]⟩, ⟨#[98]⟩] = ⟨#[97, 32, 98]⟩ := by kernel_rfl
theorem wc1 : (runes ⟨#[255, 195, 169]⟩).length = 2 := by kernel_rfl
theorem wb1 : blankB 12288 = true := by kernel_rfl
theorem wb2 : blankB 120 = false := by kernel_rfl

theorem wk_split1 (w : World) :
    Calls Tryd.prog 9 #[.string ⟨#[32, 103, 111, 227, 128, 128, 226, 136, 146, 49, 50]⟩] w fun e w' => ∃ g c, e = .returned (.tuple #[.slice (some ⟨g, 0, none⟩) 2 c, .int .i64 7, .int .i64 0]) ∧ g < w'.heap.size ∧
      w'.cell? ⟨g, 0, none⟩ = some (.int .i64 1) ∧ w'.cell? ⟨g, 1, none⟩ = some (.string ⟨#[103, 111]⟩) ∧ w'.cell? ⟨g, 2, none⟩ = some (.int .i64 4) ∧ w'.cell? ⟨g, 3, none⟩ = some (.string ⟨#[226, 136, 146, 49, 50]⟩) ∧ Below w.heap.size w w' := by
  refine (split_any wt1 w (by decide)).mono ?_
  rintro e w' ⟨v, rfl, hown, hB⟩
  rw [ws1] at hown ⊢
  obtain ⟨g, c, rfl⟩ := ownsRow_succ hown
  have hc := fun j hj => hown.cellAt j hj
  have hl : g < w'.heap.size := World.block_lt_of_cell? _ _ (hc 0 (by decide))
  exact ⟨g, c, rfl, hl, hc 0 (by decide), hc 1 (by decide), hc 2 (by decide), hc 3 (by decide), hB⟩

theorem wk_split2 (w : World) :
    Calls Tryd.prog 9 #[.string ⟨#[97, 195, 169, 32, 255]⟩] w fun e w' => ∃ v, e = .returned (.tuple #[v, .int .i64 3, .int .i64 10]) ∧ Below w.heap.size w w' := by
  refine (split_any wt2 w (by decide)).mono ?_
  rintro e w' ⟨v, rfl, hown, hB⟩
  rw [ws2]
  exact ⟨v, rfl, hB⟩

theorem wk_num1 (w : World) : Calls Tryd.prog 11 #[.string ⟨#[226, 136, 146, 49, 50]⟩] w fun e w' => e = .returned (.tuple #[.int .i64 (-12), .int .i64 0]) ∧ Below w.heap.size w w' := by
  have h := number_any ⟨#[226, 136, 146, 49, 50]⟩ w (by decide)
  rw [wn1] at h
  exact h
theorem wk_num2 (w : World) : Calls Tryd.prog 11 #[.string ⟨#[49, 49, 53, 50, 57, 50, 49, 53, 48, 52, 54, 48, 54, 56, 52, 54, 57, 55, 55]⟩] w fun e w' => e = .returned (.tuple #[.int .i64 0, .int .i64 20]) ∧ Below w.heap.size w w' := by
  have h := number_any ⟨#[49, 49, 53, 50, 57, 50, 49, 53, 48, 52, 54, 48, 54, 56, 52, 54, 57, 55, 55]⟩ w (by decide)
  rw [wn2] at h
  exact h
theorem wk_num3 (w : World) : Calls Tryd.prog 11 #[.string ⟨#[239, 188, 145, 239, 188, 146]⟩] w fun e w' => e = .returned (.tuple #[.int .i64 12, .int .i64 0]) ∧ Below w.heap.size w w' := by
  have h := number_any ⟨#[239, 188, 145, 239, 188, 146]⟩ w (by decide)
  rw [wn3] at h
  exact h
theorem wk_put (w : World) (hT : Tabs w) : Calls Tryd.prog 18 #[.int .i64 (-7)] w fun e w' => e = .returned (.string ⟨#[45, 55]⟩) ∧ Below w.heap.size w w' := by
  have h := put_any (-7) (by decide) (by decide) w hT
  rw [wp1] at h
  exact h
theorem wk_join (bk c : Nat) (w : World) (h0 : w.cell? ⟨bk, 0, none⟩ = some (.string ⟨#[97]⟩)) (h1 : w.cell? ⟨bk, 1, none⟩ = some (.string ⟨#[98]⟩)) (hc : 2 ≤ c) :
    Calls Tryd.prog 20 #[.slice (some ⟨bk, 0, none⟩) 2 c] w fun e w' => e = .returned (.string ⟨#[97, 32, 98]⟩) ∧ Below w.heap.size w w' := by
  have h := join_any bk 0 c [⟨#[97]⟩, ⟨#[98]⟩] w (fun j x hj => by
    match j, hj with
    | 0, hj => cases hj; exact h0
    | 1, hj => cases hj; exact h1
    | j + 2, hj => simp at hj) (World.block_lt_of_cell? _ _ h0) (by decide) hc (of_decide_eq_true (by kernel_rfl))
  rw [wj1] at h
  exact h
theorem wk_count (w : World) : Calls Tryd.prog 14 #[.string ⟨#[255, 195, 169]⟩] w fun e w' => e = .returned (.int .i64 2) ∧ Below w.heap.size w w' := by
  refine (count_any ⟨#[255, 195, 169]⟩ w (by decide)).mono ?_
  rintro e w' ⟨rfl, pos, rfl⟩
  rw [wc1]
  exact ⟨rfl, (Below.refl _ _).alloc (Nat.le_refl _) _⟩
theorem wk_blank1 (w : World) : Calls Tryd.prog 16 #[.int .i32 12288] w fun e w' => e = .returned (.bool true) ∧ Below w.heap.size w w' := by
  refine (blank_any 12288 w).mono ?_
  rintro e w' ⟨rfl, rfl⟩
  rw [wb1]
  exact ⟨rfl, (Below.refl _ _).alloc (Nat.le_refl _) _⟩
theorem wk_blank2 (w : World) : Calls Tryd.prog 16 #[.int .i32 120] w fun e w' => e = .returned (.bool false) ∧ Below w.heap.size w w' := by
  refine (blank_any 120 w).mono ?_
  rintro e w' ⟨rfl, rfl⟩
  rw [wb2]
  exact ⟨rfl, (Below.refl _ _).alloc (Nat.le_refl _) _⟩

set_option maxRecDepth 100000 in
set_option maxHeartbeats 2000000 in
theorem wakes_any (w : World) (hT : Tabs w) : Calls Tryd.prog 8 #[] w fun e w' => e = .returned (.bool true) ∧ Below w.heap.size w w' := by
  go_enter Tryd.func8, Tryd.ntmps8
  go_wp2_with (first
    | (go_at_call 9; ((with_reducible refine (wk_split1 _).mono ?_); rintro e w1 ⟨g, c, rfl, hg, c0, c1, c2, c3, hB1⟩)))
  refine (wk_num1 _).mono ?_
  rintro e w2 ⟨rfl, hB2⟩
  go_wp2_with fail
  refine (wk_split2 _).mono ?_
  rintro e w3 ⟨v3, rfl, hB3⟩
  go_wp2_with fail
  refine (wk_num2 _).mono ?_
  rintro e w4 ⟨rfl, hB4⟩
  go_wp2_with fail
  refine (wk_num3 _).mono ?_
  rintro e w5 ⟨rfl, hB5⟩
  have hB25 : Below w1.heap.size w1 w5 := ((hB2.trans (hB3.mono hB2.size)).trans (hB4.mono (Nat.le_trans hB2.size hB3.size))).trans (hB5.mono (Nat.le_trans (Nat.le_trans hB2.size hB3.size) hB4.size))
  have hB05 : Below w.heap.size w w5 := hB1.trans (hB25.mono hB1.size)
  have d0 := (hB25.cell (p := ⟨g, 0, none⟩) hg).trans c0
  have d1 := (hB25.cell (p := ⟨g, 1, none⟩) hg).trans c1
  have d2 := (hB25.cell (p := ⟨g, 2, none⟩) hg).trans c2
  have T5 : Tabs w5 := hT.below hB05
  clear c0 c1 c2 c3 hB1 hB2 hB3 hB4 hB5 hB25
  go_wp2_with fail
  refine (wk_put _ T5).mono ?_
  rintro e w6 ⟨rfl, hB6⟩
  go_wp2_with fail
  refine (wk_join _ _ _ ((cells_two_new w6 (.string ⟨#[97]⟩) (.string ⟨#[98]⟩) 9) 0 _ rfl) ((cells_two_new w6 (.string ⟨#[97]⟩) (.string ⟨#[98]⟩) 9) 1 _ rfl) (by decide)).mono ?_
  rintro e w7 ⟨rfl, hB7⟩
  have hB6a : Below w5.heap.size w5 (w6.alloc (.cells #[.string ⟨#[97]⟩, .string ⟨#[98]⟩] 9)) := hB6.alloc hB6.size _
  have hB07 : Below w.heap.size w w7 := (hB05.trans (hB6a.mono hB05.size)).trans (hB7.mono (Nat.le_trans hB05.size hB6a.size))
  clear hB7 hB6 hB6a d0 d1 d2
  go_wp2_with fail
  refine (wk_count _).mono ?_
  rintro e w8 ⟨rfl, hB8⟩
  go_wp2_with fail
  refine (wk_blank1 _).mono ?_
  rintro e w9 ⟨rfl, hB9⟩
  go_wp2_with fail
  refine (wk_blank2 _).mono ?_
  rintro e w10 ⟨rfl, hB10⟩
  have hB0 : Below w.heap.size w w10 := ((hB07.trans (hB8.mono hB07.size)).trans (hB9.mono (Nat.le_trans hB07.size hB8.size))).trans (hB10.mono (Nat.le_trans (Nat.le_trans hB07.size hB8.size) hB9.size))
  clear hB8 hB9 hB10
  go_wp2_with fail
  go_ret
  exact ⟨rfl, hB0⟩

end Go.Proofs.YtbdiphffdmakoaaDoor
