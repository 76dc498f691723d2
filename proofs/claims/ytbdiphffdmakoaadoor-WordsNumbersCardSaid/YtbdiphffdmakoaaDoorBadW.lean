/- WordsBad answers true at every input whose first text has at most 2000000 bytes, where the library's tables are as their initialisers lay them. -/
import Derived.Test.YtbdiphffdmakoaaDoorP3
import Derived.Test.YtbdiphffdmakoaaDoorW7
import Derived.Test.YtbdiphffdmakoaaDoorW9
namespace Go.Proofs.YtbdiphffdmakoaaDoor
open Go Go.RowKit Go.MapKept Go.Shelf

/-- The index that the law reckons is one of six. -/
theorem tmod_range (k m : Int) (hm : 0 < m) : -m < k.tmod m ∧ k.tmod m < m := by
  rcases Int.le_total 0 k with h | h
  · rw [Int.tmod_eq_emod_of_nonneg h]
    have := Int.emod_nonneg k (b := m) (by omega)
    have := Int.emod_lt_of_pos k hm
    omega
  · have e : k.tmod m = -((-k).tmod m) := by rw [Int.neg_tmod]; omega
    rw [e, Int.tmod_eq_emod_of_nonneg (by omega)]
    have := Int.emod_nonneg (-k) (b := m) (by omega)
    have := Int.emod_lt_of_pos (-k) hm
    omega

theorem idx_range (k m : Int) (hm : 0 < m) (hm2 : m ≤ 1000000) : 0 ≤ (wrap64 (k.tmod m + m)).tmod m ∧ (wrap64 (k.tmod m + m)).tmod m < m := by
  have h := tmod_range k m hm
  have e : wrap64 (k.tmod m + m) = k.tmod m + m := by unfold wrap64; omega
  rw [e, Int.tmod_eq_emod_of_nonneg (by omega)]
  exact ⟨Int.emod_nonneg _ (by omega), Int.emod_lt_of_pos _ hm⟩

theorem refSplit_err (s : ByteArray) (w : World) (hs : s.size ≤ 2000000) (hT : Tabs w) :
    Calls Tryd.prog 10 #[.string s] w fun e w' => ∃ v m, e = .returned (.tuple #[v, .int .i64 m, .int .i64 (splitR s).2.2]) ∧ Below w.heap.size w w' :=
  (refSplit_any s w hs hT).mono fun _ _ ⟨v, he, _, hB⟩ => ⟨v, _, he, hB⟩

theorem split_bad (t : ByteArray) (m : Nat) (w : World) (ht : t.size ≤ 1000000000) (h : splitR t = ([], m, 10)) :
    Calls Tryd.prog 9 #[.string t] w fun e w' => ∃ p c, e = .returned (.tuple #[.slice p 0 c, .int .i64 m, .int .i64 10]) ∧ Below w.heap.size w w' :=
  (split_any t w ht).mono fun _ _ ⟨v, he, hown, hB⟩ => by
    rw [h] at he hown
    obtain ⟨p, c, rfl⟩ := row_slice hown
    exact ⟨p, c, he, hB⟩

theorem split_fine (t : ByteArray) (m : Nat) (w : World) (ht : t.size ≤ 1000000000) (h1 : (splitR t).2.1 = m) (h : (splitR t).2.2 = 0) :
    Calls Tryd.prog 9 #[.string t] w fun e w' => ∃ v, e = .returned (.tuple #[v, .int .i64 m, .int .i64 0]) ∧ Below w.heap.size w w' :=
  (split_any t w ht).mono fun _ _ ⟨v, he, hown, hB⟩ => by
    rw [h, h1] at he
    exact ⟨v, he, hB⟩

theorem count_below (s : ByteArray) (w : World) (hs : s.size ≤ maxLen) : Calls Tryd.prog 14 #[.string s] w fun e w' => e = .returned (.int .i64 (runes s).length) ∧ Below w.heap.size w w' :=
  (count_any s w hs).mono fun _ _ ⟨he, pos, hw⟩ => by subst hw; exact ⟨he, (Below.refl _ _).alloc (Nat.le_refl _) _⟩

set_option maxRecDepth 100000 in
set_option maxHeartbeats 2000000 in
theorem bad_walk (x y : ByteArray) (k : Int) (w : World) (hx : x.size ≤ 2000000) (hy : y.size ≤ 9223372036854775807) (hT : Tabs w) :
    Calls Tryd.prog 5 #[.string x, .string y, .int .i64 k] w fun e w' => e = .returned (.bool true) ∧ Below w.heap.size w w' := by
  by_cases hout : 100 < x.size ∨ 100 < y.size ∨ ¬ (splitR x).2.2 = 0
  · have hdec : decide (100 < (x.size : Int)) = true ∨ (decide (100 < (x.size : Int)) = false ∧ decide (100 < (y.size : Int)) = true) ∨
        (decide (100 < (x.size : Int)) = false ∧ decide (100 < (y.size : Int)) = false ∧ ((splitR x).2.2 != 0) = true) := by
      by_cases h1 : 100 < x.size
      · left; simp; omega
      · by_cases h2 : 100 < y.size
        · right; left; exact ⟨by simp; omega, by simp; omega⟩
        · right; right
          rcases hout with h | h | h
          · omega
          · omega
          · exact ⟨by simp; omega, by simp; omega, by simpa using h⟩
    clear hout
    rcases hdec with d1 | ⟨d1, d2⟩ | ⟨d1, d2, d3⟩
    all_goals
      go_enter Tryd.func5, Tryd.ntmps5
      go_wp2_with fail
      refine (refSplit_err x w hx hT).mono ?_
      rintro e w1 ⟨v1, m1, rfl, hB1⟩
      have T1 := hT.below hB1
      go_wp2_with (go_at_call 8; refine (wakes_any _ T1).mono ?_; rintro e w2 ⟨rfl, hB2⟩)
      go_ret
      exact ⟨rfl, hB1.trans (hB2.mono hB1.size)⟩
  · simp only [not_or, Classical.not_not, Nat.not_lt] at hout
    obtain ⟨h1, h2, h3⟩ := hout
    have hf := fine_spec x h3
    have hr := idx_range k 6 (by omega) (by omega)
    have hj : ∃ j : Nat, j < 6 ∧ (wrap64 (k.tmod 6 + 6)).tmod 6 = (j : Int) := ⟨((wrap64 (k.tmod 6 + 6)).tmod 6).toNat, by omega, by omega⟩
    clear hr
    obtain ⟨j, hj, hi⟩ := hj
    have hb := bad_spec x y j h3
    have HB := Lib.hid hb
    have HF := Lib.hid hf
    have H3 := Lib.hid h3
    have d1 : decide (100 < (x.size : Int)) = false := by simp; omega
    have d2 : decide (100 < (y.size : Int)) = false := by simp; omega
    have hsz : (x ++ badS j ++ y).size ≤ 1000000000 := by rw [app_size, app_size]; have := badS_pos j; omega
    have HSZ := Lib.hid hsz
    clear hb hf h3 hsz
    have hj' : j = 0 ∨ j = 1 ∨ j = 2 ∨ j = 3 ∨ j = 4 ∨ j = 5 := by omega
    clear hj
    rcases hj' with rfl | rfl | rfl | rfl | rfl | rfl
    all_goals
      simp only [Int.cast_ofNat_Int] at hi
      go_enter Tryd.func5, Tryd.ntmps5
      go_wp2_with fail
      refine (refSplit_err x w hx hT).mono ?_
      rintro e w1 ⟨v1, m1, rfl, hB1⟩
      rw [H3.out]
      go_wp2_with fail
      refine (split_bad _ _ _ HSZ.out HB.out).mono ?_
      rintro e w2 ⟨p2, c2, rfl, hB2⟩
      go_wp2_with fail
      refine (split_fine _ _ _ (by omega) HF.out H3.out).mono ?_
      rintro e w3 ⟨v3, rfl, hB3⟩
      go_wp2_with fail
      refine (count_below _ _ (by unfold maxLen; omega)).mono ?_
      rintro e w4 ⟨rfl, hB4⟩
      have hB1a := hB1.alloc hB1.size (.cells #[.string ⟨#[255]⟩, .string ⟨#[0]⟩, .string ⟨#[127]⟩, .string ⟨#[239, 191, 189]⟩, .string ⟨#[195, 40]⟩, .string ⟨#[13]⟩] 40)
      have hB12 := hB1a.trans (hB2.mono hB1a.size)
      have hB13 := hB12.trans (hB3.mono hB12.size)
      have hB14 := hB13.trans (hB4.mono hB13.size)
      have T4 := hT.below hB14
      clear hB1 hB1a hB2 hB12 hB13 hB3 hB4
      go_wp2_with fail
      refine (wakes_any _ T4).mono ?_
      rintro e w5 ⟨rfl, hB5⟩
      go_wp2_with fail
      go_ret
      exact ⟨rfl, hB14.trans (hB5.mono hB14.size)⟩

end Go.Proofs.YtbdiphffdmakoaaDoor
