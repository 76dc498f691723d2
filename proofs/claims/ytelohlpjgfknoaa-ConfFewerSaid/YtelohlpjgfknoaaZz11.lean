/- Texts of the seat, joined. -/
import Derived.Test.YtelohlpjgfknoaaZz10
import Derived.Test.YtelohlpjgfknoaaZz8
import Derived.Test.YtelohlpjgfknoaaZz7
/- Configurations: what each call answers, wherever the masses lie. -/
namespace Go.Proofs.Ytelohlpjgfknoaa
open Go Go.RowKit
set_option linter.unusedSimpArgs false
set_option linter.unusedVariables false
set_option maxRecDepth 100000

theorem w37_v (x lo hi : Int) : PureX Try.prog 37 #[ii x, ii lo, ii hi] (rt (bb (inZ x lo hi))) := by
  unfold inZ
  by_cases h : lo ≤ x
  · rw [decide_eq_true h, Bool.true_and]
    exact runF_pure mix (w37_t x lo hi) ⟨decide_eq_true h, trivial⟩ rfl rfl
  · rw [decide_eq_false h, Bool.false_and]
    exact runF_pure mix (w37_f x lo hi) ⟨decide_eq_false h, trivial⟩ rfl rfl
theorem w32_v (x lo hi : Int) : PureX Try.prog 32 #[ii x, ii lo, ii hi] (rt (bb (inZ x lo hi))) := by
  unfold inZ
  by_cases h : lo ≤ x
  · rw [decide_eq_true h, Bool.true_and]
    exact runF_pure mix (w32_t x lo hi) ⟨decide_eq_true h, trivial⟩ rfl rfl
  · rw [decide_eq_false h, Bool.false_and]
    exact runF_pure mix (w32_f x lo hi) ⟨decide_eq_false h, trivial⟩ rfl rfl
theorem w37 {x lo hi : Int} {p : Bool} (h : inZ x lo hi = p) : PureX Try.prog 37 #[ii x, ii lo, ii hi] (rt (bb p)) := h ▸ w37_v x lo hi
theorem w32 {x lo hi : Int} {p : Bool} (h : inZ x lo hi = p) : PureX Try.prog 32 #[ii x, ii lo, ii hi] (rt (bb p)) := h ▸ w32_v x lo hi
theorem may_p {x : Int} {p : Bool} (h : inZ x 1 4 = p) : PureX Try.prog 28 #[ii x] (rt (bb p)) := by
  cases p
  · exact runF_pure mix (may_0 x) ⟨w37 h, trivial⟩ rfl rfl
  · exact runF_pure mix (may_1 x) ⟨w37 h, trivial⟩ rfl rfl
theorem len_4 {L : List Int} (h : inZ (L.length : Int) 1 4 = true) : 1 ≤ L.length ∧ L.length ≤ 4 := by
  have := inZ_iff.1 h
  omega
section
variable (g b t' q m : Int)
theorem light_s {L : List Int} (h : 1 ≤ L.length ∧ L.length ≤ 4) : Sem1 Try.prog 40 (fun s => #[cv s g b t' q m]) L (bb (lightL L)) := by
  match L, h with
  | [a1], _ =>
    refine sem1_seen (ren_cv g b t' q m) rfl (fun h => (by cases h)) (fun cap hl hc => ?_)
    cases e1 : inZ a1 1 1024
    · rw [show lightL [a1] = false by simp [lightL, e1]]
      exact runF_calls mix (light_1_0 cap a1 g b t' q m) ⟨w37 e1, trivial⟩ rfl rfl
    · skip
      rw [show lightL [a1] = true by simp [lightL, e1]]
      exact runF_calls mix (light_1_1 cap a1 g b t' q m) ⟨w37 e1, trivial⟩ rfl rfl
  | [a1, a2], _ =>
    refine sem1_seen (ren_cv g b t' q m) rfl (fun h => (by cases h)) (fun cap hl hc => ?_)
    cases e1 : inZ a1 1 1024
    · rw [show lightL [a1, a2] = false by simp [lightL, e1]]
      exact runF_calls mix (light_2_0 cap a1 a2 g b t' q m) ⟨w37 e1, trivial⟩ rfl rfl
    · skip
      cases e2 : inZ a2 1 1024
      · rw [show lightL [a1, a2] = false by simp [lightL, e2]]
        exact runF_calls mix (light_2_1 cap a1 a2 g b t' q m) ⟨w37 e1, w37 e2, trivial⟩ rfl rfl
      · skip
        rw [show lightL [a1, a2] = true by simp [lightL, e1, e2]]
        exact runF_calls mix (light_2_2 cap a1 a2 g b t' q m) ⟨w37 e1, w37 e2, trivial⟩ rfl rfl
  | [a1, a2, a3], _ =>
    refine sem1_seen (ren_cv g b t' q m) rfl (fun h => (by cases h)) (fun cap hl hc => ?_)
    cases e1 : inZ a1 1 1024
    · rw [show lightL [a1, a2, a3] = false by simp [lightL, e1]]
      exact runF_calls mix (light_3_0 cap a1 a2 a3 g b t' q m) ⟨w37 e1, trivial⟩ rfl rfl
    · skip
      cases e2 : inZ a2 1 1024
      · rw [show lightL [a1, a2, a3] = false by simp [lightL, e2]]
        exact runF_calls mix (light_3_1 cap a1 a2 a3 g b t' q m) ⟨w37 e1, w37 e2, trivial⟩ rfl rfl
      · skip
        cases e3 : inZ a3 1 1024
        · rw [show lightL [a1, a2, a3] = false by simp [lightL, e3]]
          exact runF_calls mix (light_3_2 cap a1 a2 a3 g b t' q m) ⟨w37 e1, w37 e2, w37 e3, trivial⟩ rfl rfl
        · skip
          rw [show lightL [a1, a2, a3] = true by simp [lightL, e1, e2, e3]]
          exact runF_calls mix (light_3_3 cap a1 a2 a3 g b t' q m) ⟨w37 e1, w37 e2, w37 e3, trivial⟩ rfl rfl
  | [a1, a2, a3, a4], _ =>
    refine sem1_seen (ren_cv g b t' q m) rfl (fun h => (by cases h)) (fun cap hl hc => ?_)
    cases e1 : inZ a1 1 1024
    · rw [show lightL [a1, a2, a3, a4] = false by simp [lightL, e1]]
      exact runF_calls mix (light_4_0 cap a1 a2 a3 a4 g b t' q m) ⟨w37 e1, trivial⟩ rfl rfl
    · skip
      cases e2 : inZ a2 1 1024
      · rw [show lightL [a1, a2, a3, a4] = false by simp [lightL, e2]]
        exact runF_calls mix (light_4_1 cap a1 a2 a3 a4 g b t' q m) ⟨w37 e1, w37 e2, trivial⟩ rfl rfl
      · skip
        cases e3 : inZ a3 1 1024
        · rw [show lightL [a1, a2, a3, a4] = false by simp [lightL, e3]]
          exact runF_calls mix (light_4_2 cap a1 a2 a3 a4 g b t' q m) ⟨w37 e1, w37 e2, w37 e3, trivial⟩ rfl rfl
        · skip
          cases e4 : inZ a4 1 1024
          · rw [show lightL [a1, a2, a3, a4] = false by simp [lightL, e4]]
            exact runF_calls mix (light_4_3 cap a1 a2 a3 a4 g b t' q m) ⟨w37 e1, w37 e2, w37 e3, w37 e4, trivial⟩ rfl rfl
          · skip
            rw [show lightL [a1, a2, a3, a4] = true by simp [lightL, e1, e2, e3, e4]]
            exact runF_calls mix (light_4_4 cap a1 a2 a3 a4 g b t' q m) ⟨w37 e1, w37 e2, w37 e3, w37 e4, trivial⟩ rfl rfl
  | [], h => exact absurd h.1 (by decide)
  | _ :: _ :: _ :: _ :: _ :: r, h => exact absurd h.2 (by simp)
/-- The name that is told. -/
theorem why_s (L : List Int) : Sem1 Try.prog 17 (fun s => #[cv s g b t' q m]) L (str (whyL L g b t' q m)) := by
  refine sem1_mk (ren_cv g b t' q m) rfl (fun h => ?_) (fun off cap hl hc => ?_)
  · subst h
    exact runF_pure mix (why_n g b t' q m) ⟨may_p rfl, trivial⟩ rfl rfl
  cases h0 : inZ (L.length : Int) 1 4
  · rw [show whyL L g b t' q m = nBodies by simp [whyL, h0]]
    exact runF_calls mix (why_0 off L.length cap _ g b t' q m) ⟨may_p h0, trivial⟩ rfl rfl
  have w := sem1_calls (light_s g b t' q m (len_4 h0)) (ren_cv g b t' q m) rfl (H := [(1, win off (cwx fl1 off L))]) (s := slw 1 off L.length cap) (fun β w hR => ll_win hR rfl hl hc)
  cases h1 : lightL L
  · rw [show whyL L g b t' q m = nMass by simp [whyL, h0, h1]]
    rw [h1] at w
    exact runF_calls mix (why_1 off L.length cap _ g b t' q m) ⟨may_p h0, w, trivial⟩ rfl rfl
  rw [h1] at w
  cases c0 : inZ g 1 1048576
  · rw [show whyL L g b t' q m = nConst by simp [whyL, h0, h1, c0]]
    exact runF_calls mix (why_2 off L.length cap _ g b t' q m) ⟨may_p h0, w, w37 c0, trivial⟩ rfl rfl
  cases c1 : inZ b 1 1048576
  · rw [show whyL L g b t' q m = nBox by simp [whyL, h0, h1, c0, c1]]
    exact runF_calls mix (why_3 off L.length cap _ g b t' q m) ⟨may_p h0, w, w37 c0, w37 c1, trivial⟩ rfl rfl
  cases c2 : inZ t' 1 65536
  · rw [show whyL L g b t' q m = nTop by simp [whyL, h0, h1, c0, c1, c2]]
    exact runF_calls mix (why_4 off L.length cap _ g b t' q m) ⟨may_p h0, w, w37 c0, w37 c1, w37 c2, trivial⟩ rfl rfl
  cases c3 : inZ q 1 (wi (2 * b))
  · rw [show whyL L g b t' q m = nNear by simp [whyL, h0, h1, c0, c1, c2, c3]]
    exact runF_calls mix (why_5 off L.length cap _ g b t' q m) ⟨may_p h0, w, w37 c0, w37 c1, w37 c2, w37 c3, trivial⟩ rfl rfl
  cases c4 : inZ m 0 4
  · rw [show whyL L g b t' q m = nMeth by simp [whyL, h0, h1, c0, c1, c2, c3, c4]]
    exact runF_calls mix (why_6 off L.length cap _ g b t' q m) ⟨may_p h0, w, w37 c0, w37 c1, w37 c2, w37 c3, w37 c4, trivial⟩ rfl rfl
  rw [show whyL L g b t' q m = [] by simp [whyL, h0, h1, c0, c1, c2, c3, c4]]
  exact runF_calls mix (why_7 off L.length cap _ g b t' q m) ⟨may_p h0, w, w37 c0, w37 c1, w37 c2, w37 c3, w37 c4, trivial⟩ rfl rfl
theorem dwhy_s (L : List Int) : Sem1 Try.prog 18 (fun s => #[cv s g b t' q m]) L (str (whyL L g b t' q m)) := by
  cases h0 : inZ (L.length : Int) 1 4
  · refine sem1_mk (ren_cv g b t' q m) rfl (fun h => ?_) (fun off cap hl hc => ?_)
    · subst h
      exact runF_pure mix (dwhy_n g b t' q m) ⟨w32 rfl, trivial⟩ rfl rfl
    rw [show whyL L g b t' q m = nBodies by simp [whyL, h0]]
    exact runF_calls mix (dwhy_0 off L.length cap _ g b t' q m) ⟨w32 h0, trivial⟩ rfl rfl
  have h := len_4 h0
  match L, h0, h with
  | [a1], h0, _ =>
    refine sem1_seen (ren_cv g b t' q m) rfl (fun h => (by cases h)) (fun cap hl hc => ?_)
    cases e1 : inZ a1 1 1024
    · rw [show whyL [a1] g b t' q m = nMass by simp only [whyL, h0, Bool.true_eq_false, if_false, reduceIte]; simp [lightL, e1]]
      exact runF_calls mix (dwhy_1_m0 cap a1 g b t' q m) ⟨w32 rfl, w32 e1, trivial⟩ rfl rfl
    have hl1 : lightL [a1] = true := by simp [lightL, e1]
    cases c0 : inZ g 1 1048576
    · rw [show whyL [a1] g b t' q m = nConst by simp only [whyL, h0, hl1, c0, Bool.true_eq_false, if_true, if_false, reduceIte]]
      exact runF_calls mix (dwhy_1_2 cap a1 g b t' q m) ⟨w32 rfl, w32 e1, w32 c0, trivial⟩ rfl rfl
    cases c1 : inZ b 1 1048576
    · rw [show whyL [a1] g b t' q m = nBox by simp only [whyL, h0, hl1, c0, c1, Bool.true_eq_false, if_true, if_false, reduceIte]]
      exact runF_calls mix (dwhy_1_3 cap a1 g b t' q m) ⟨w32 rfl, w32 e1, w32 c0, w32 c1, trivial⟩ rfl rfl
    cases c2 : inZ t' 1 65536
    · rw [show whyL [a1] g b t' q m = nTop by simp only [whyL, h0, hl1, c0, c1, c2, Bool.true_eq_false, if_true, if_false, reduceIte]]
      exact runF_calls mix (dwhy_1_4 cap a1 g b t' q m) ⟨w32 rfl, w32 e1, w32 c0, w32 c1, w32 c2, trivial⟩ rfl rfl
    cases c3 : inZ q 1 (wi (2 * b))
    · rw [show whyL [a1] g b t' q m = nNear by simp only [whyL, h0, hl1, c0, c1, c2, c3, Bool.true_eq_false, if_true, if_false, reduceIte]]
      exact runF_calls mix (dwhy_1_5 cap a1 g b t' q m) ⟨w32 rfl, w32 e1, w32 c0, w32 c1, w32 c2, w32 c3, trivial⟩ rfl rfl
    cases c4 : inZ m 0 4
    · rw [show whyL [a1] g b t' q m = nMeth by simp only [whyL, h0, hl1, c0, c1, c2, c3, c4, Bool.true_eq_false, if_true, if_false, reduceIte]]
      exact runF_calls mix (dwhy_1_6 cap a1 g b t' q m) ⟨w32 rfl, w32 e1, w32 c0, w32 c1, w32 c2, w32 c3, w32 c4, trivial⟩ rfl rfl
    rw [show whyL [a1] g b t' q m = [] by simp only [whyL, h0, hl1, c0, c1, c2, c3, c4, Bool.true_eq_false, if_false, reduceIte]]
    exact runF_calls mix (dwhy_1_7 cap a1 g b t' q m) ⟨w32 rfl, w32 e1, w32 c0, w32 c1, w32 c2, w32 c3, w32 c4, trivial⟩ rfl rfl
  | [a1, a2], h0, _ =>
    refine sem1_seen (ren_cv g b t' q m) rfl (fun h => (by cases h)) (fun cap hl hc => ?_)
    cases e1 : inZ a1 1 1024
    · rw [show whyL [a1, a2] g b t' q m = nMass by simp only [whyL, h0, Bool.true_eq_false, if_false, reduceIte]; simp [lightL, e1]]
      exact runF_calls mix (dwhy_2_m0 cap a1 a2 g b t' q m) ⟨w32 rfl, w32 e1, trivial⟩ rfl rfl
    cases e2 : inZ a2 1 1024
    · rw [show whyL [a1, a2] g b t' q m = nMass by simp only [whyL, h0, Bool.true_eq_false, if_false, reduceIte]; simp [lightL, e2]]
      exact runF_calls mix (dwhy_2_m1 cap a1 a2 g b t' q m) ⟨w32 rfl, w32 e1, w32 e2, trivial⟩ rfl rfl
    have hl1 : lightL [a1, a2] = true := by simp [lightL, e1, e2]
    cases c0 : inZ g 1 1048576
    · rw [show whyL [a1, a2] g b t' q m = nConst by simp only [whyL, h0, hl1, c0, Bool.true_eq_false, if_true, if_false, reduceIte]]
      exact runF_calls mix (dwhy_2_2 cap a1 a2 g b t' q m) ⟨w32 rfl, w32 e1, w32 e2, w32 c0, trivial⟩ rfl rfl
    cases c1 : inZ b 1 1048576
    · rw [show whyL [a1, a2] g b t' q m = nBox by simp only [whyL, h0, hl1, c0, c1, Bool.true_eq_false, if_true, if_false, reduceIte]]
      exact runF_calls mix (dwhy_2_3 cap a1 a2 g b t' q m) ⟨w32 rfl, w32 e1, w32 e2, w32 c0, w32 c1, trivial⟩ rfl rfl
    cases c2 : inZ t' 1 65536
    · rw [show whyL [a1, a2] g b t' q m = nTop by simp only [whyL, h0, hl1, c0, c1, c2, Bool.true_eq_false, if_true, if_false, reduceIte]]
      exact runF_calls mix (dwhy_2_4 cap a1 a2 g b t' q m) ⟨w32 rfl, w32 e1, w32 e2, w32 c0, w32 c1, w32 c2, trivial⟩ rfl rfl
    cases c3 : inZ q 1 (wi (2 * b))
    · rw [show whyL [a1, a2] g b t' q m = nNear by simp only [whyL, h0, hl1, c0, c1, c2, c3, Bool.true_eq_false, if_true, if_false, reduceIte]]
      exact runF_calls mix (dwhy_2_5 cap a1 a2 g b t' q m) ⟨w32 rfl, w32 e1, w32 e2, w32 c0, w32 c1, w32 c2, w32 c3, trivial⟩ rfl rfl
    cases c4 : inZ m 0 4
    · rw [show whyL [a1, a2] g b t' q m = nMeth by simp only [whyL, h0, hl1, c0, c1, c2, c3, c4, Bool.true_eq_false, if_true, if_false, reduceIte]]
      exact runF_calls mix (dwhy_2_6 cap a1 a2 g b t' q m) ⟨w32 rfl, w32 e1, w32 e2, w32 c0, w32 c1, w32 c2, w32 c3, w32 c4, trivial⟩ rfl rfl
    rw [show whyL [a1, a2] g b t' q m = [] by simp only [whyL, h0, hl1, c0, c1, c2, c3, c4, Bool.true_eq_false, if_false, reduceIte]]
    exact runF_calls mix (dwhy_2_7 cap a1 a2 g b t' q m) ⟨w32 rfl, w32 e1, w32 e2, w32 c0, w32 c1, w32 c2, w32 c3, w32 c4, trivial⟩ rfl rfl
  | [a1, a2, a3], h0, _ =>
    refine sem1_seen (ren_cv g b t' q m) rfl (fun h => (by cases h)) (fun cap hl hc => ?_)
    cases e1 : inZ a1 1 1024
    · rw [show whyL [a1, a2, a3] g b t' q m = nMass by simp only [whyL, h0, Bool.true_eq_false, if_false, reduceIte]; simp [lightL, e1]]
      exact runF_calls mix (dwhy_3_m0 cap a1 a2 a3 g b t' q m) ⟨w32 rfl, w32 e1, trivial⟩ rfl rfl
    cases e2 : inZ a2 1 1024
    · rw [show whyL [a1, a2, a3] g b t' q m = nMass by simp only [whyL, h0, Bool.true_eq_false, if_false, reduceIte]; simp [lightL, e2]]
      exact runF_calls mix (dwhy_3_m1 cap a1 a2 a3 g b t' q m) ⟨w32 rfl, w32 e1, w32 e2, trivial⟩ rfl rfl
    cases e3 : inZ a3 1 1024
    · rw [show whyL [a1, a2, a3] g b t' q m = nMass by simp only [whyL, h0, Bool.true_eq_false, if_false, reduceIte]; simp [lightL, e3]]
      exact runF_calls mix (dwhy_3_m2 cap a1 a2 a3 g b t' q m) ⟨w32 rfl, w32 e1, w32 e2, w32 e3, trivial⟩ rfl rfl
    have hl1 : lightL [a1, a2, a3] = true := by simp [lightL, e1, e2, e3]
    cases c0 : inZ g 1 1048576
    · rw [show whyL [a1, a2, a3] g b t' q m = nConst by simp only [whyL, h0, hl1, c0, Bool.true_eq_false, if_true, if_false, reduceIte]]
      exact runF_calls mix (dwhy_3_2 cap a1 a2 a3 g b t' q m) ⟨w32 rfl, w32 e1, w32 e2, w32 e3, w32 c0, trivial⟩ rfl rfl
    cases c1 : inZ b 1 1048576
    · rw [show whyL [a1, a2, a3] g b t' q m = nBox by simp only [whyL, h0, hl1, c0, c1, Bool.true_eq_false, if_true, if_false, reduceIte]]
      exact runF_calls mix (dwhy_3_3 cap a1 a2 a3 g b t' q m) ⟨w32 rfl, w32 e1, w32 e2, w32 e3, w32 c0, w32 c1, trivial⟩ rfl rfl
    cases c2 : inZ t' 1 65536
    · rw [show whyL [a1, a2, a3] g b t' q m = nTop by simp only [whyL, h0, hl1, c0, c1, c2, Bool.true_eq_false, if_true, if_false, reduceIte]]
      exact runF_calls mix (dwhy_3_4 cap a1 a2 a3 g b t' q m) ⟨w32 rfl, w32 e1, w32 e2, w32 e3, w32 c0, w32 c1, w32 c2, trivial⟩ rfl rfl
    cases c3 : inZ q 1 (wi (2 * b))
    · rw [show whyL [a1, a2, a3] g b t' q m = nNear by simp only [whyL, h0, hl1, c0, c1, c2, c3, Bool.true_eq_false, if_true, if_false, reduceIte]]
      exact runF_calls mix (dwhy_3_5 cap a1 a2 a3 g b t' q m) ⟨w32 rfl, w32 e1, w32 e2, w32 e3, w32 c0, w32 c1, w32 c2, w32 c3, trivial⟩ rfl rfl
    cases c4 : inZ m 0 4
    · rw [show whyL [a1, a2, a3] g b t' q m = nMeth by simp only [whyL, h0, hl1, c0, c1, c2, c3, c4, Bool.true_eq_false, if_true, if_false, reduceIte]]
      exact runF_calls mix (dwhy_3_6 cap a1 a2 a3 g b t' q m) ⟨w32 rfl, w32 e1, w32 e2, w32 e3, w32 c0, w32 c1, w32 c2, w32 c3, w32 c4, trivial⟩ rfl rfl
    rw [show whyL [a1, a2, a3] g b t' q m = [] by simp only [whyL, h0, hl1, c0, c1, c2, c3, c4, Bool.true_eq_false, if_false, reduceIte]]
    exact runF_calls mix (dwhy_3_7 cap a1 a2 a3 g b t' q m) ⟨w32 rfl, w32 e1, w32 e2, w32 e3, w32 c0, w32 c1, w32 c2, w32 c3, w32 c4, trivial⟩ rfl rfl
  | [a1, a2, a3, a4], h0, _ =>
    refine sem1_seen (ren_cv g b t' q m) rfl (fun h => (by cases h)) (fun cap hl hc => ?_)
    cases e1 : inZ a1 1 1024
    · rw [show whyL [a1, a2, a3, a4] g b t' q m = nMass by simp only [whyL, h0, Bool.true_eq_false, if_false, reduceIte]; simp [lightL, e1]]
      exact runF_calls mix (dwhy_4_m0 cap a1 a2 a3 a4 g b t' q m) ⟨w32 rfl, w32 e1, trivial⟩ rfl rfl
    cases e2 : inZ a2 1 1024
    · rw [show whyL [a1, a2, a3, a4] g b t' q m = nMass by simp only [whyL, h0, Bool.true_eq_false, if_false, reduceIte]; simp [lightL, e2]]
      exact runF_calls mix (dwhy_4_m1 cap a1 a2 a3 a4 g b t' q m) ⟨w32 rfl, w32 e1, w32 e2, trivial⟩ rfl rfl
    cases e3 : inZ a3 1 1024
    · rw [show whyL [a1, a2, a3, a4] g b t' q m = nMass by simp only [whyL, h0, Bool.true_eq_false, if_false, reduceIte]; simp [lightL, e3]]
      exact runF_calls mix (dwhy_4_m2 cap a1 a2 a3 a4 g b t' q m) ⟨w32 rfl, w32 e1, w32 e2, w32 e3, trivial⟩ rfl rfl
    cases e4 : inZ a4 1 1024
    · rw [show whyL [a1, a2, a3, a4] g b t' q m = nMass by simp only [whyL, h0, Bool.true_eq_false, if_false, reduceIte]; simp [lightL, e4]]
      exact runF_calls mix (dwhy_4_m3 cap a1 a2 a3 a4 g b t' q m) ⟨w32 rfl, w32 e1, w32 e2, w32 e3, w32 e4, trivial⟩ rfl rfl
    have hl1 : lightL [a1, a2, a3, a4] = true := by simp [lightL, e1, e2, e3, e4]
    cases c0 : inZ g 1 1048576
    · rw [show whyL [a1, a2, a3, a4] g b t' q m = nConst by simp only [whyL, h0, hl1, c0, Bool.true_eq_false, if_true, if_false, reduceIte]]
      exact runF_calls mix (dwhy_4_2 cap a1 a2 a3 a4 g b t' q m) ⟨w32 rfl, w32 e1, w32 e2, w32 e3, w32 e4, w32 c0, trivial⟩ rfl rfl
    cases c1 : inZ b 1 1048576
    · rw [show whyL [a1, a2, a3, a4] g b t' q m = nBox by simp only [whyL, h0, hl1, c0, c1, Bool.true_eq_false, if_true, if_false, reduceIte]]
      exact runF_calls mix (dwhy_4_3 cap a1 a2 a3 a4 g b t' q m) ⟨w32 rfl, w32 e1, w32 e2, w32 e3, w32 e4, w32 c0, w32 c1, trivial⟩ rfl rfl
    cases c2 : inZ t' 1 65536
    · rw [show whyL [a1, a2, a3, a4] g b t' q m = nTop by simp only [whyL, h0, hl1, c0, c1, c2, Bool.true_eq_false, if_true, if_false, reduceIte]]
      exact runF_calls mix (dwhy_4_4 cap a1 a2 a3 a4 g b t' q m) ⟨w32 rfl, w32 e1, w32 e2, w32 e3, w32 e4, w32 c0, w32 c1, w32 c2, trivial⟩ rfl rfl
    cases c3 : inZ q 1 (wi (2 * b))
    · rw [show whyL [a1, a2, a3, a4] g b t' q m = nNear by simp only [whyL, h0, hl1, c0, c1, c2, c3, Bool.true_eq_false, if_true, if_false, reduceIte]]
      exact runF_calls mix (dwhy_4_5 cap a1 a2 a3 a4 g b t' q m) ⟨w32 rfl, w32 e1, w32 e2, w32 e3, w32 e4, w32 c0, w32 c1, w32 c2, w32 c3, trivial⟩ rfl rfl
    cases c4 : inZ m 0 4
    · rw [show whyL [a1, a2, a3, a4] g b t' q m = nMeth by simp only [whyL, h0, hl1, c0, c1, c2, c3, c4, Bool.true_eq_false, if_true, if_false, reduceIte]]
      exact runF_calls mix (dwhy_4_6 cap a1 a2 a3 a4 g b t' q m) ⟨w32 rfl, w32 e1, w32 e2, w32 e3, w32 e4, w32 c0, w32 c1, w32 c2, w32 c3, w32 c4, trivial⟩ rfl rfl
    rw [show whyL [a1, a2, a3, a4] g b t' q m = [] by simp only [whyL, h0, hl1, c0, c1, c2, c3, c4, Bool.true_eq_false, if_false, reduceIte]]
    exact runF_calls mix (dwhy_4_7 cap a1 a2 a3 a4 g b t' q m) ⟨w32 rfl, w32 e1, w32 e2, w32 e3, w32 e4, w32 c0, w32 c1, w32 c2, w32 c3, w32 c4, trivial⟩ rfl rfl
  | [], _, h => exact absurd h.1 (by decide)
  | _ :: _ :: _ :: _ :: _ :: r, _, h => exact absurd h.2 (by simp)
theorem whyL_cases (L : List Int) (g b t' q m : Int) : whyL L g b t' q m = nBodies ∨ whyL L g b t' q m = nMass ∨ whyL L g b t' q m = nConst ∨ whyL L g b t' q m = nBox ∨ whyL L g b t' q m = nTop ∨ whyL L g b t' q m = nNear ∨ whyL L g b t' q m = nMeth ∨ whyL L g b t' q m = [] := by
  unfold whyL
  repeat' split
  all_goals simp
theorem chk_s (L : List Int) : Sem1 Try.prog 15 (fun s => #[cv s g b t' q m]) L (ii (chk (whyL L g b t' q m))) := by
  refine sem1_mk (ren_cv g b t' q m) rfl (fun h => ?_) (fun off cap hl hc => ?_)
  · subst h
    have hn : PureX Try.prog 17 #[cv sl0 g b t' q m] (rt (str nBodies)) := runF_pure mix (why_n g b t' q m) ⟨may_p rfl, trivial⟩ rfl rfl
    exact runF_pure mix (chk_n g b t' q m) ⟨hn, trivial⟩ rfl rfl
  have w := sem1_calls (why_s g b t' q m L) (ren_cv g b t' q m) rfl (H := [(1, win off (cwx fl1 off L))]) (s := slw 1 off L.length cap) (fun β w hR => ll_win hR rfl hl hc)
  rcases whyL_cases L g b t' q m with h | h | h | h | h | h | h | h <;> rw [h] at w ⊢
  · exact runF_calls mix (chk_0 off L.length cap _ g b t' q m) ⟨w, trivial⟩ rfl rfl
  · exact runF_calls mix (chk_1 off L.length cap _ g b t' q m) ⟨w, trivial⟩ rfl rfl
  · exact runF_calls mix (chk_2 off L.length cap _ g b t' q m) ⟨w, trivial⟩ rfl rfl
  · exact runF_calls mix (chk_3 off L.length cap _ g b t' q m) ⟨w, trivial⟩ rfl rfl
  · exact runF_calls mix (chk_4 off L.length cap _ g b t' q m) ⟨w, trivial⟩ rfl rfl
  · exact runF_calls mix (chk_5 off L.length cap _ g b t' q m) ⟨w, trivial⟩ rfl rfl
  · exact runF_calls mix (chk_6 off L.length cap _ g b t' q m) ⟨w, trivial⟩ rfl rfl
  · exact runF_calls mix (chk_7 off L.length cap _ g b t' q m) ⟨w, trivial⟩ rfl rfl
theorem dchk_s (L : List Int) : Sem1 Try.prog 16 (fun s => #[cv s g b t' q m]) L (ii (chk (whyL L g b t' q m))) := by
  refine sem1_mk (ren_cv g b t' q m) rfl (fun h => ?_) (fun off cap hl hc => ?_)
  · subst h
    have hn : PureX Try.prog 18 #[cv sl0 g b t' q m] (rt (str nBodies)) := runF_pure mix (dwhy_n g b t' q m) ⟨w32 rfl, trivial⟩ rfl rfl
    exact runF_pure mix (dchk_n g b t' q m) ⟨hn, trivial⟩ rfl rfl
  have w := sem1_calls (dwhy_s g b t' q m L) (ren_cv g b t' q m) rfl (H := [(1, win off (cwx fl1 off L))]) (s := slw 1 off L.length cap) (fun β w hR => ll_win hR rfl hl hc)
  rcases whyL_cases L g b t' q m with h | h | h | h | h | h | h | h <;> rw [h] at w ⊢
  · exact runF_calls mix (dchk_0 off L.length cap _ g b t' q m) ⟨w, trivial⟩ rfl rfl
  · exact runF_calls mix (dchk_1 off L.length cap _ g b t' q m) ⟨w, trivial⟩ rfl rfl
  · exact runF_calls mix (dchk_2 off L.length cap _ g b t' q m) ⟨w, trivial⟩ rfl rfl
  · exact runF_calls mix (dchk_3 off L.length cap _ g b t' q m) ⟨w, trivial⟩ rfl rfl
  · exact runF_calls mix (dchk_4 off L.length cap _ g b t' q m) ⟨w, trivial⟩ rfl rfl
  · exact runF_calls mix (dchk_5 off L.length cap _ g b t' q m) ⟨w, trivial⟩ rfl rfl
  · exact runF_calls mix (dchk_6 off L.length cap _ g b t' q m) ⟨w, trivial⟩ rfl rfl
  · exact runF_calls mix (dchk_7 off L.length cap _ g b t' q m) ⟨w, trivial⟩ rfl rfl
theorem chk_p (p : Int) (L : List Int) (h : chk (whyL L g b t' q m) = p) : Sem1 Try.prog 15 (fun s => #[cv s g b t' q m]) L (ii p) := h ▸ chk_s g b t' q m L
theorem dchk_p (p : Int) (L : List Int) (h : chk (whyL L g b t' q m) = p) : Sem1 Try.prog 16 (fun s => #[cv s g b t' q m]) L (ii p) := h ▸ dchk_s g b t' q m L
theorem chk_nil15 : PureX Try.prog 15 #[cv sl0 g b t' q m] (rt (ii 110)) := runF_pure mix (chk_n g b t' q m) ⟨runF_pure mix (why_n g b t' q m) ⟨may_p rfl, trivial⟩ rfl rfl, trivial⟩ rfl rfl
theorem chk_nil16 : PureX Try.prog 16 #[cv sl0 g b t' q m] (rt (ii 110)) := runF_pure mix (dchk_n g b t' q m) ⟨runF_pure mix (dwhy_n g b t' q m) ⟨w32 rfl, trivial⟩ rfl rfl, trivial⟩ rfl rfl
end
theorem chk_ok {L : List Int} {g b t' q m : Int} (h : okL L g b t' q m) : chk (whyL L g b t' q m) = 0 := by
  unfold okL at h
  rw [h]
  rfl
theorem chk_no {L : List Int} {g b t' q m : Int} (h : ¬ okL L g b t' q m) : chk (whyL L g b t' q m) = 110 := by
  unfold okL at h
  unfold chk
  rw [if_neg h]
theorem ok_nil {g b t' q m : Int} : ¬ okL [] g b t' q m := fun h => absurd (ok_parts h).1.1 (by decide)
instance (L : List Int) (g b t' q m : Int) : Decidable (okL L g b t' q m) := by unfold okL; infer_instance
section
variable (g b t' q m : Int)
theorem chk_w (f : Nat) (hs : ∀ (p : Int) (L : List Int), chk (whyL L g b t' q m) = p → Sem1 Try.prog f (fun s => #[cv s g b t' q m]) L (ii p)) {L : List Int} {off cap : Nat} (hl : L.length ≤ cap) (hc : cap ≤ maxLen) {p : Int} (h : chk (whyL L g b t' q m) = p) :
    CallsV Try.prog (.func f) #[cv (slw 1 off L.length cap) g b t' q m] [(1, win off (cwx fl1 off L))] (rt (ii p)) [(1, win off (cwx fl1 off L))] :=
  sem1_calls (hs p L h) (ren_cv g b t' q m) rfl (H := [(1, win off (cwx fl1 off L))]) (s := slw 1 off L.length cap) (fun β w hR => ll_win hR rfl hl hc)
theorem chk_i (f : Nat) (hs : ∀ (p : Int) (L : List Int), chk (whyL L g b t' q m) = p → Sem1 Try.prog f (fun s => #[cv s g b t' q m]) L (ii p)) {L : List Int} {cap : Nat} (hl : L.length ≤ cap) (hc : cap ≤ maxLen) {p : Int} (h : chk (whyL L g b t' q m) = p) :
    CallsV Try.prog (.func f) #[cv (slw 1 0 L.length cap) g b t' q m] [(1, wib L)] (rt (ii p)) [(1, wib L)] :=
  sem1_calls (hs p L h) (ren_cv g b t' q m) rfl (H := [(1, wib L)]) (s := slw 1 0 L.length cap) (fun β w hR => ll_seen hR rfl hl hc)
theorem chk_g (f : Nat) (hs : ∀ (p : Int) (L : List Int), chk (whyL L g b t' q m) = p → Sem1 Try.prog f (fun s => #[cv s g b t' q m]) L (ii p)) {L : List Int} {k : Nat} {p : Int} (h : chk (whyL L g b t' q m) = p) :
    CallsV Try.prog (.func f) #[cv (slw k 0 L.length capU) g b t' q m] [(k, gib L)] (rt (ii p)) [(k, gib L)] :=
  sem1_calls (hs p L h) (ren_cv g b t' q m) rfl (H := [(k, gib L)]) (s := slw k 0 L.length capU) (fun β w hR => ll_grow hR (by simp [look]))
/-- The masses' sum, and how many pairs. -/
theorem tot_no {L : List Int} (h : ¬ okL L g b t' q m) : Sem1 Try.prog 19 (fun s => #[cv s g b t' q m]) L (ii 0) :=
  sem1_mk (ren_cv g b t' q m) rfl (fun _ => runF_pure mix (tot_n g b t' q m) ⟨chk_nil15 g b t' q m, trivial⟩ rfl rfl)
    (fun off cap hl hc => runF_calls mix (tot_x off L.length cap _ g b t' q m) ⟨chk_w g b t' q m 15 (chk_p g b t' q m) hl hc (chk_no h), trivial⟩ rfl rfl)
theorem tot_yes {L : List Int} (h : okL L g b t' q m) : Sem1 Try.prog 19 (fun s => #[cv s g b t' q m]) L (ii (totL L)) := by
  match L, h, (ok_parts h).1 with
  | [a1], h, _ =>
    exact sem1_seen (ren_cv g b t' q m) rfl (fun h => (by cases h)) (fun cap hl hc => runF_calls mix (tot_1 cap a1 g b t' q m) ⟨chk_i g b t' q m 15 (chk_p g b t' q m) (L := [a1]) hl hc (chk_ok h), trivial⟩ rfl rfl)
  | [a1, a2], h, _ =>
    exact sem1_seen (ren_cv g b t' q m) rfl (fun h => (by cases h)) (fun cap hl hc => runF_calls mix (tot_2 cap a1 a2 g b t' q m) ⟨chk_i g b t' q m 15 (chk_p g b t' q m) (L := [a1, a2]) hl hc (chk_ok h), trivial⟩ rfl rfl)
  | [a1, a2, a3], h, _ =>
    exact sem1_seen (ren_cv g b t' q m) rfl (fun h => (by cases h)) (fun cap hl hc => runF_calls mix (tot_3 cap a1 a2 a3 g b t' q m) ⟨chk_i g b t' q m 15 (chk_p g b t' q m) (L := [a1, a2, a3]) hl hc (chk_ok h), trivial⟩ rfl rfl)
  | [a1, a2, a3, a4], h, _ =>
    exact sem1_seen (ren_cv g b t' q m) rfl (fun h => (by cases h)) (fun cap hl hc => runF_calls mix (tot_4 cap a1 a2 a3 a4 g b t' q m) ⟨chk_i g b t' q m 15 (chk_p g b t' q m) (L := [a1, a2, a3, a4]) hl hc (chk_ok h), trivial⟩ rfl rfl)
  | [], _, h => exact absurd h.1 (by decide)
  | _ :: _ :: _ :: _ :: _ :: r, _, h => exact absurd h.2 (by simp)
theorem dtot_no {L : List Int} (h : ¬ okL L g b t' q m) : Sem1 Try.prog 20 (fun s => #[cv s g b t' q m]) L (ii 0) := by
  refine sem1_mk (ren_cv g b t' q m) rfl (fun _ => runF_pure mix (dtot_n g b t' q m) trivial rfl rfl) (fun off cap hl hc => ?_)
  cases L with
  | nil => exact runF_calls mix (dtot_z off cap _ g b t' q m) trivial rfl rfl
  | cons x r => exact runF_calls mix (dtot_x off (x :: r).length cap _ g b t' q m) ⟨decide_eq_true (by rw [List.length_cons]; omega), chk_w g b t' q m 16 (dchk_p g b t' q m) hl hc (chk_no h), trivial⟩ rfl rfl
theorem dtot_yes {L : List Int} (h : okL L g b t' q m) : Sem1 Try.prog 20 (fun s => #[cv s g b t' q m]) L (ii (totL L)) := by
  match L, h, (ok_parts h).1 with
  | [a1], h, _ =>
    exact sem1_seen (ren_cv g b t' q m) rfl (fun h => (by cases h)) (fun cap hl hc => runF_calls mix (dtot_1 cap a1 g b t' q m) ⟨chk_i g b t' q m 16 (dchk_p g b t' q m) (L := [a1]) hl hc (chk_ok h), trivial⟩ rfl rfl)
  | [a1, a2], h, _ =>
    exact sem1_seen (ren_cv g b t' q m) rfl (fun h => (by cases h)) (fun cap hl hc => runF_calls mix (dtot_2 cap a1 a2 g b t' q m) ⟨chk_i g b t' q m 16 (dchk_p g b t' q m) (L := [a1, a2]) hl hc (chk_ok h), chk_i g b t' q m 16 (dchk_p g b t' q m) (L := [a1, a2]) hl hc (chk_ok h), trivial⟩ rfl rfl)
  | [a1, a2, a3], h, _ =>
    exact sem1_seen (ren_cv g b t' q m) rfl (fun h => (by cases h)) (fun cap hl hc => runF_calls mix (dtot_3 cap a1 a2 a3 g b t' q m) ⟨chk_i g b t' q m 16 (dchk_p g b t' q m) (L := [a1, a2, a3]) hl hc (chk_ok h), chk_i g b t' q m 16 (dchk_p g b t' q m) (L := [a1, a2, a3]) hl hc (chk_ok h), chk_i g b t' q m 16 (dchk_p g b t' q m) (L := [a1, a2, a3]) hl hc (chk_ok h), trivial⟩ rfl rfl)
  | [a1, a2, a3, a4], h, _ =>
    exact sem1_seen (ren_cv g b t' q m) rfl (fun h => (by cases h)) (fun cap hl hc => runF_calls mix (dtot_4 cap a1 a2 a3 a4 g b t' q m) ⟨chk_i g b t' q m 16 (dchk_p g b t' q m) (L := [a1, a2, a3, a4]) hl hc (chk_ok h), chk_i g b t' q m 16 (dchk_p g b t' q m) (L := [a1, a2, a3, a4]) hl hc (chk_ok h), chk_i g b t' q m 16 (dchk_p g b t' q m) (L := [a1, a2, a3, a4]) hl hc (chk_ok h), chk_i g b t' q m 16 (dchk_p g b t' q m) (L := [a1, a2, a3, a4]) hl hc (chk_ok h), trivial⟩ rfl rfl)
  | [], _, h => exact absurd h.1 (by decide)
  | _ :: _ :: _ :: _ :: _ :: r, _, h => exact absurd h.2 (by simp)
theorem pairs_no {L : List Int} (h : ¬ okL L g b t' q m) : Sem1 Try.prog 21 (fun s => #[cv s g b t' q m]) L (ii 0) :=
  sem1_mk (ren_cv g b t' q m) rfl (fun _ => runF_pure mix (pairs_n g b t' q m) ⟨chk_nil15 g b t' q m, trivial⟩ rfl rfl)
    (fun off cap hl hc => runF_calls mix (pairs_x off L.length cap _ g b t' q m) ⟨chk_w g b t' q m 15 (chk_p g b t' q m) hl hc (chk_no h), trivial⟩ rfl rfl)
theorem pairs_yes {L : List Int} (h : okL L g b t' q m) : Sem1 Try.prog 21 (fun s => #[cv s g b t' q m]) L (ii (pairsN (L.length : Int))) :=
  sem1_mk (ren_cv g b t' q m) rfl (fun e => absurd (e ▸ h) ok_nil)
    (fun off cap hl hc => runF_calls mix (pairs_t off L.length cap _ g b t' q m) ⟨chk_w g b t' q m 15 (chk_p g b t' q m) hl hc (chk_ok h), trivial⟩ rfl rfl)
theorem dpairs_no {L : List Int} (h : ¬ okL L g b t' q m) : Sem1 Try.prog 22 (fun s => #[cv s g b t' q m]) L (ii 0) :=
  sem1_mk (ren_cv g b t' q m) rfl (fun _ => runF_pure mix (dpairs_n g b t' q m) ⟨chk_nil16 g b t' q m, trivial⟩ rfl rfl)
    (fun off cap hl hc => runF_calls mix (dpairs_x off L.length cap _ g b t' q m) ⟨chk_w g b t' q m 16 (dchk_p g b t' q m) hl hc (chk_no h), trivial⟩ rfl rfl)
theorem dpairs_yes {L : List Int} (h : okL L g b t' q m) : Sem1 Try.prog 22 (fun s => #[cv s g b t' q m]) L (ii (pairsN (L.length : Int))) :=
  sem1_mk (ren_cv g b t' q m) rfl (fun e => absurd (e ▸ h) ok_nil)
    (fun off cap hl hc => runF_calls mix (dpairs_t off L.length cap _ g b t' q m) ⟨chk_w g b t' q m 16 (dchk_p g b t' q m) hl hc (chk_ok h), trivial⟩ rfl rfl)
theorem row_no {L : List Int} (h : ¬ okL L g b t' q m) : Sem1 Try.prog 9 (fun s => #[cv s g b t' q m]) L (tp [sl0, ii 110]) :=
  sem1_mk (ren_cv g b t' q m) rfl (fun _ => runF_pure mix (row_n g b t' q m) ⟨chk_nil15 g b t' q m, trivial⟩ rfl rfl)
    (fun off cap hl hc => runF_calls mix (row_x off L.length cap _ g b t' q m) ⟨chk_w g b t' q m 15 (chk_p g b t' q m) hl hc (chk_no h), trivial⟩ rfl rfl)
theorem row_yes {L : List Int} (h : okL L g b t' q m) : New1 Try.prog 9 (fun s => #[cv s g b t' q m]) L (fun s => tp [s, ii 0]) (rowL L g b t' q m) := by
  match L, h, (ok_parts h).1 with
  | [a1], h, _ =>
    exact new1_of (k := 2001) (cc := 7) (ren_cv g b t' q m) (fun _ _ => rfl) (by simp) (.inr ⟨rfl, rfl, by show 7 ≤ maxLen; decide⟩) (by decide) (fun cap hl hc => runF_calls mix (row_1 cap a1 g b t' q m) ⟨chk_i g b t' q m 15 (chk_p g b t' q m) (L := [a1]) hl hc (chk_ok h), trivial⟩ rfl rfl)
  | [a1, a2], h, _ =>
    exact new1_of (k := 2001) (cc := 8) (ren_cv g b t' q m) (fun _ _ => rfl) (by simp) (.inr ⟨rfl, rfl, by show 8 ≤ maxLen; decide⟩) (by decide) (fun cap hl hc => runF_calls mix (row_2 cap a1 a2 g b t' q m) ⟨chk_i g b t' q m 15 (chk_p g b t' q m) (L := [a1, a2]) hl hc (chk_ok h), trivial⟩ rfl rfl)
  | [a1, a2, a3], h, _ =>
    exact new1_of (k := 2001) (cc := 9) (ren_cv g b t' q m) (fun _ _ => rfl) (by simp) (.inr ⟨rfl, rfl, by show 9 ≤ maxLen; decide⟩) (by decide) (fun cap hl hc => runF_calls mix (row_3 cap a1 a2 a3 g b t' q m) ⟨chk_i g b t' q m 15 (chk_p g b t' q m) (L := [a1, a2, a3]) hl hc (chk_ok h), trivial⟩ rfl rfl)
  | [a1, a2, a3, a4], h, _ =>
    exact new1_of (k := 2001) (cc := 10) (ren_cv g b t' q m) (fun _ _ => rfl) (by simp) (.inr ⟨rfl, rfl, by show 10 ≤ maxLen; decide⟩) (by decide) (fun cap hl hc => runF_calls mix (row_4 cap a1 a2 a3 a4 g b t' q m) ⟨chk_i g b t' q m 15 (chk_p g b t' q m) (L := [a1, a2, a3, a4]) hl hc (chk_ok h), trivial⟩ rfl rfl)
  | [], _, h => exact absurd h.1 (by decide)
  | _ :: _ :: _ :: _ :: _ :: r, _, h => exact absurd h.2 (by simp)
theorem drow_no {L : List Int} (h : ¬ okL L g b t' q m) : Sem1 Try.prog 10 (fun s => #[cv s g b t' q m]) L (tp [sl0, ii 110]) :=
  sem1_mk (ren_cv g b t' q m) rfl (fun _ => runF_pure mix (drow_n g b t' q m) ⟨chk_nil16 g b t' q m, trivial⟩ rfl rfl)
    (fun off cap hl hc => runF_calls mix (drow_x off L.length cap _ g b t' q m) ⟨chk_w g b t' q m 16 (dchk_p g b t' q m) hl hc (chk_no h), trivial⟩ rfl rfl)
theorem drow_yes {L : List Int} (h : okL L g b t' q m) : New1 Try.prog 10 (fun s => #[cv s g b t' q m]) L (fun s => tp [s, ii 0]) (rowL L g b t' q m) := by
  match L, h, (ok_parts h).1 with
  | [a1], h, _ =>
    exact new1_of (k := 2004) (cc := capU) (ren_cv g b t' q m) (fun _ _ => rfl) (by simp) (.inl ⟨rfl, rfl⟩) (by decide) (fun cap hl hc => runF_calls mix (drow_1 cap a1 g b t' q m) ⟨chk_i g b t' q m 16 (dchk_p g b t' q m) (L := [a1]) hl hc (chk_ok h), trivial⟩ rfl rfl)
  | [a1, a2], h, _ =>
    exact new1_of (k := 2004) (cc := capU) (ren_cv g b t' q m) (fun _ _ => rfl) (by simp) (.inl ⟨rfl, rfl⟩) (by decide) (fun cap hl hc => runF_calls mix (drow_2 cap a1 a2 g b t' q m) ⟨chk_i g b t' q m 16 (dchk_p g b t' q m) (L := [a1, a2]) hl hc (chk_ok h), trivial⟩ rfl rfl)
  | [a1, a2, a3], h, _ =>
    exact new1_of (k := 2004) (cc := capU) (ren_cv g b t' q m) (fun _ _ => rfl) (by simp) (.inl ⟨rfl, rfl⟩) (by decide) (fun cap hl hc => runF_calls mix (drow_3 cap a1 a2 a3 g b t' q m) ⟨chk_i g b t' q m 16 (dchk_p g b t' q m) (L := [a1, a2, a3]) hl hc (chk_ok h), trivial⟩ rfl rfl)
  | [a1, a2, a3, a4], h, _ =>
    exact new1_of (k := 2004) (cc := capU) (ren_cv g b t' q m) (fun _ _ => rfl) (by simp) (.inl ⟨rfl, rfl⟩) (by decide) (fun cap hl hc => runF_calls mix (drow_4 cap a1 a2 a3 a4 g b t' q m) ⟨chk_i g b t' q m 16 (dchk_p g b t' q m) (L := [a1, a2, a3, a4]) hl hc (chk_ok h), trivial⟩ rfl rfl)
  | [], _, h => exact absurd h.1 (by decide)
  | _ :: _ :: _ :: _ :: _ :: r, _, h => exact absurd h.2 (by simp)
end
end Go.Proofs.Ytelohlpjgfknoaa
