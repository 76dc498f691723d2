/- Texts of the seat, joined. -/
import Derived.Test.YtpllklojcjhjaaaZz15
/- The least pair: what the call answers, wherever the bodies lie. -/
namespace Go.Proofs.Ytpllklojcjhjaaa
open Go Go.RowKit
set_option linter.unusedSimpArgs false
set_option linter.unusedVariables false
set_option maxRecDepth 100000

theorem least_2 (st : Int) (off m cap : Nat) (c : Array Value) (q01 : Int) : runF Try.prog 2000 [1] 13 #[sv st (slw 1 off m cap)] [(1, win off c)] [n, n, n, n, n, n, n, n, n, n, n, n, n, f, n] [] [(10, rt (slw 9 0 1 capU), [(9, KP.own [(0, 1, q01)])] ++ [(1, win off c)])] [] =
    some (rt (tp [vc (0) (1) (q01), bb true]), [(1, win off c)], [CallsV Try.prog (.func 10) #[sv st (slw 1 off m cap)] [(1, win off c)] (rt (slw 9 0 1 capU)) ([(9, KP.own [(0, 1, q01)])] ++ [(1, win off c)]), (decide (q01 < q01)) = false]) := by kernel_rfl
theorem least_3_00 (st : Int) (off m cap : Nat) (c : Array Value) (q01 q02 q12 : Int) : runF Try.prog 2000 [1] 13 #[sv st (slw 1 off m cap)] [(1, win off c)] [n, n, n, n, n, n, n, n, n, n, n, n, n, f, n, n, n, n, n, n, f, n, n, n, n, n, n, f, n] [] [(10, rt (slw 9 0 3 capU), [(9, KP.own [(0, 1, q01), (0, 2, q02), (1, 2, q12)])] ++ [(1, win off c)])] [] =
    some (rt (tp [vc (0) (1) (q01), bb true]), [(1, win off c)], [CallsV Try.prog (.func 10) #[sv st (slw 1 off m cap)] [(1, win off c)] (rt (slw 9 0 3 capU)) ([(9, KP.own [(0, 1, q01), (0, 2, q02), (1, 2, q12)])] ++ [(1, win off c)]), (decide (q01 < q01)) = false, (decide (q02 < q01)) = false, (decide (q12 < q01)) = false]) := by kernel_rfl
theorem least_3_01 (st : Int) (off m cap : Nat) (c : Array Value) (q01 q02 q12 : Int) : runF Try.prog 2000 [1] 13 #[sv st (slw 1 off m cap)] [(1, win off c)] [n, n, n, n, n, n, n, n, n, n, n, n, n, f, n, n, n, n, n, n, f, n, n, n, n, n, n, t, n, n, n, n, n, n, f, n, n, n, n, n, n, f, n, n, n, n, n, n, f, n] [] [(10, rt (slw 9 0 3 capU), [(9, KP.own [(0, 1, q01), (0, 2, q02), (1, 2, q12)])] ++ [(1, win off c)])] [] =
    some (rt (tp [vc (1) (2) (q12), bb true]), [(1, win off c)], [CallsV Try.prog (.func 10) #[sv st (slw 1 off m cap)] [(1, win off c)] (rt (slw 9 0 3 capU)) ([(9, KP.own [(0, 1, q01), (0, 2, q02), (1, 2, q12)])] ++ [(1, win off c)]), (decide (q01 < q01)) = false, (decide (q02 < q01)) = false, (decide (q12 < q01)) = true, (decide (q01 < q12)) = false, (decide (q02 < q12)) = false, (decide (q12 < q12)) = false]) := by kernel_rfl
theorem least_3_10 (st : Int) (off m cap : Nat) (c : Array Value) (q01 q02 q12 : Int) : runF Try.prog 2000 [1] 13 #[sv st (slw 1 off m cap)] [(1, win off c)] [n, n, n, n, n, n, n, n, n, n, n, n, n, f, n, n, n, n, n, n, t, n, n, n, n, n, n, f, n, n, n, n, n, n, f, n, n, n, n, n, n, f, n] [] [(10, rt (slw 9 0 3 capU), [(9, KP.own [(0, 1, q01), (0, 2, q02), (1, 2, q12)])] ++ [(1, win off c)])] [] =
    some (rt (tp [vc (0) (2) (q02), bb true]), [(1, win off c)], [CallsV Try.prog (.func 10) #[sv st (slw 1 off m cap)] [(1, win off c)] (rt (slw 9 0 3 capU)) ([(9, KP.own [(0, 1, q01), (0, 2, q02), (1, 2, q12)])] ++ [(1, win off c)]), (decide (q01 < q01)) = false, (decide (q02 < q01)) = true, (decide (q01 < q02)) = false, (decide (q02 < q02)) = false, (decide (q12 < q02)) = false]) := by kernel_rfl
theorem least_3_11 (st : Int) (off m cap : Nat) (c : Array Value) (q01 q02 q12 : Int) : runF Try.prog 2000 [1] 13 #[sv st (slw 1 off m cap)] [(1, win off c)] [n, n, n, n, n, n, n, n, n, n, n, n, n, f, n, n, n, n, n, n, t, n, n, n, n, n, n, f, n, n, n, n, n, n, f, n, n, n, n, n, n, t, n, n, n, n, n, n, f, n, n, n, n, n, n, f, n, n, n, n, n, n, f, n] [] [(10, rt (slw 9 0 3 capU), [(9, KP.own [(0, 1, q01), (0, 2, q02), (1, 2, q12)])] ++ [(1, win off c)])] [] =
    some (rt (tp [vc (1) (2) (q12), bb true]), [(1, win off c)], [CallsV Try.prog (.func 10) #[sv st (slw 1 off m cap)] [(1, win off c)] (rt (slw 9 0 3 capU)) ([(9, KP.own [(0, 1, q01), (0, 2, q02), (1, 2, q12)])] ++ [(1, win off c)]), (decide (q01 < q01)) = false, (decide (q02 < q01)) = true, (decide (q01 < q02)) = false, (decide (q02 < q02)) = false, (decide (q12 < q02)) = true, (decide (q01 < q12)) = false, (decide (q02 < q12)) = false, (decide (q12 < q12)) = false]) := by kernel_rfl
theorem least_no (st : Int) (off m cap : Nat) (c : Array Value) : runF Try.prog 1000 [1] 13 #[sv st (slw 1 off m cap)] [(1, win off c)] [n] [] [(10, rt sl0, [(1, win off c)])] [] =
    some (rt (tp [vc (0) (0) (0), bb false]), [(1, win off c)], [CallsV Try.prog (.func 10) #[sv st (slw 1 off m cap)] [(1, win off c)] (rt sl0) [(1, win off c)]]) := by kernel_rfl
theorem least_nil (st : Int) : runF Try.prog 1000 [] 13 #[sv st sl0] [] [n] [(10, rt sl0)] [] [] =
    some (rt (tp [vc (0) (0) (0), bb false]), [], [PureX Try.prog 10 #[.agg ⟨[ii (st), sl0]⟩] (rt (sl0))]) := by kernel_rfl

/-- The pair with the least square, of more than one the first. -/
def leastP : Pr → List Pr → Pr
  | m, [] => m
  | m, p :: r => leastP (bif decide (p.2.2 < m.2.2) then p else m) r
def leastQ : List Pr → Pr × Bool
  | [] => ((0, 0, 0), false)
  | p :: r => (leastP p r, true)
def tpQ (x : Pr × Bool) : Value := tp [pv x.1, bb x.2]
theorem tpQ_ok (x : Pr × Bool) : wfV noB (tpQ x) = true := rfl
theorem least_w2 (st : Int) (off m cap : Nat) (c : Array Value) (q01 : Int) (w : CallsV Try.prog (.func 10) #[sv st (slw 1 off m cap)] [(1, win off c)] (rt (slw 9 0 1 capU)) [(9, KP.own [(0, 1, q01)]), (1, win off c)]) :
    CallsV Try.prog (.func 13) #[sv st (slw 1 off m cap)] [(1, win off c)] (rt (tpQ (leastQ [(0, 1, q01)]))) [(1, win off c)] := by
  have e : leastQ [(0, 1, q01)] = ((0, 1, q01), true) := by simp only [leastQ, leastP, cond_true, cond_false]
  rw [e]
  exact runF_calls mix (least_2 st off m cap c q01) ⟨w, decide_eq_false (by omega), trivial⟩ rfl rfl
theorem least_w3 (st : Int) (off m cap : Nat) (c : Array Value) (q01 q02 q12 : Int) (w : CallsV Try.prog (.func 10) #[sv st (slw 1 off m cap)] [(1, win off c)] (rt (slw 9 0 3 capU)) [(9, KP.own [(0, 1, q01), (0, 2, q02), (1, 2, q12)]), (1, win off c)]) :
    CallsV Try.prog (.func 13) #[sv st (slw 1 off m cap)] [(1, win off c)] (rt (tpQ (leastQ [(0, 1, q01), (0, 2, q02), (1, 2, q12)]))) [(1, win off c)] := by
  by_cases h1 : q02 < q01
  · have d1 := decide_eq_true h1
    by_cases h2 : q12 < q02
    · have d2 := decide_eq_true h2
      have e : leastQ [(0, 1, q01), (0, 2, q02), (1, 2, q12)] = ((1, 2, q12), true) := by simp only [leastQ, leastP, d1, d2, cond_true, cond_false]
      rw [e]
      exact runF_calls mix (least_3_11 st off m cap c q01 q02 q12) ⟨w, decide_eq_false (by omega), decide_eq_true (by omega), decide_eq_false (by omega), decide_eq_false (by omega), decide_eq_true (by omega), decide_eq_false (by omega), decide_eq_false (by omega), decide_eq_false (by omega), trivial⟩ rfl rfl
    · have d2 := decide_eq_false h2
      have e : leastQ [(0, 1, q01), (0, 2, q02), (1, 2, q12)] = ((0, 2, q02), true) := by simp only [leastQ, leastP, d1, d2, cond_true, cond_false]
      rw [e]
      exact runF_calls mix (least_3_10 st off m cap c q01 q02 q12) ⟨w, decide_eq_false (by omega), decide_eq_true (by omega), decide_eq_false (by omega), decide_eq_false (by omega), decide_eq_false (by omega), trivial⟩ rfl rfl
  · have d1 := decide_eq_false h1
    by_cases h2 : q12 < q01
    · have d2 := decide_eq_true h2
      have e : leastQ [(0, 1, q01), (0, 2, q02), (1, 2, q12)] = ((1, 2, q12), true) := by simp only [leastQ, leastP, d1, d2, cond_true, cond_false]
      rw [e]
      exact runF_calls mix (least_3_01 st off m cap c q01 q02 q12) ⟨w, decide_eq_false (by omega), decide_eq_false (by omega), decide_eq_true (by omega), decide_eq_false (by omega), decide_eq_false (by omega), decide_eq_false (by omega), trivial⟩ rfl rfl
    · have d2 := decide_eq_false h2
      have e : leastQ [(0, 1, q01), (0, 2, q02), (1, 2, q12)] = ((0, 1, q01), true) := by simp only [leastQ, leastP, d1, d2, cond_true, cond_false]
      rw [e]
      exact runF_calls mix (least_3_00 st off m cap c q01 q02 q12) ⟨w, decide_eq_false (by omega), decide_eq_false (by omega), decide_eq_false (by omega), trivial⟩ rfl rfl
theorem least_w4 (st : Int) (off m cap : Nat) (c : Array Value) (q01 q02 q03 q12 q13 q23 : Int) (w : CallsV Try.prog (.func 10) #[sv st (slw 1 off m cap)] [(1, win off c)] (rt (slw 9 0 6 capU)) [(9, KP.own [(0, 1, q01), (0, 2, q02), (0, 3, q03), (1, 2, q12), (1, 3, q13), (2, 3, q23)]), (1, win off c)]) :
    CallsV Try.prog (.func 13) #[sv st (slw 1 off m cap)] [(1, win off c)] (rt (tpQ (leastQ [(0, 1, q01), (0, 2, q02), (0, 3, q03), (1, 2, q12), (1, 3, q13), (2, 3, q23)]))) [(1, win off c)] := by
  by_cases h1 : q02 < q01
  · have d1 := decide_eq_true h1
    by_cases h2 : q03 < q02
    · have d2 := decide_eq_true h2
      by_cases h3 : q12 < q03
      · have d3 := decide_eq_true h3
        by_cases h4 : q13 < q12
        · have d4 := decide_eq_true h4
          by_cases h5 : q23 < q13
          · have d5 := decide_eq_true h5
            have e : leastQ [(0, 1, q01), (0, 2, q02), (0, 3, q03), (1, 2, q12), (1, 3, q13), (2, 3, q23)] = ((2, 3, q23), true) := by simp only [leastQ, leastP, d1, d2, d3, d4, d5, cond_true, cond_false]
            rw [e]
            exact runF_calls mix (least_4_11111 st off m cap c q01 q02 q03 q12 q13 q23) ⟨w, decide_eq_false (by omega), decide_eq_true (by omega), decide_eq_false (by omega), decide_eq_false (by omega), decide_eq_true (by omega), decide_eq_false (by omega), decide_eq_false (by omega), decide_eq_false (by omega), decide_eq_true (by omega), decide_eq_false (by omega), decide_eq_false (by omega), decide_eq_false (by omega), decide_eq_false (by omega), decide_eq_true (by omega), decide_eq_false (by omega), decide_eq_false (by omega), decide_eq_false (by omega), decide_eq_false (by omega), decide_eq_false (by omega), decide_eq_true (by omega), decide_eq_false (by omega), decide_eq_false (by omega), decide_eq_false (by omega), decide_eq_false (by omega), decide_eq_false (by omega), decide_eq_false (by omega), trivial⟩ rfl rfl
          · have d5 := decide_eq_false h5
            have e : leastQ [(0, 1, q01), (0, 2, q02), (0, 3, q03), (1, 2, q12), (1, 3, q13), (2, 3, q23)] = ((1, 3, q13), true) := by simp only [leastQ, leastP, d1, d2, d3, d4, d5, cond_true, cond_false]
            rw [e]
            exact runF_calls mix (least_4_11110 st off m cap c q01 q02 q03 q12 q13 q23) ⟨w, decide_eq_false (by omega), decide_eq_true (by omega), decide_eq_false (by omega), decide_eq_false (by omega), decide_eq_true (by omega), decide_eq_false (by omega), decide_eq_false (by omega), decide_eq_false (by omega), decide_eq_true (by omega), decide_eq_false (by omega), decide_eq_false (by omega), decide_eq_false (by omega), decide_eq_false (by omega), decide_eq_true (by omega), decide_eq_false (by omega), decide_eq_false (by omega), decide_eq_false (by omega), decide_eq_false (by omega), decide_eq_false (by omega), decide_eq_false (by omega), trivial⟩ rfl rfl
        · have d4 := decide_eq_false h4
          by_cases h5 : q23 < q12
          · have d5 := decide_eq_true h5
            have e : leastQ [(0, 1, q01), (0, 2, q02), (0, 3, q03), (1, 2, q12), (1, 3, q13), (2, 3, q23)] = ((2, 3, q23), true) := by simp only [leastQ, leastP, d1, d2, d3, d4, d5, cond_true, cond_false]
            rw [e]
            exact runF_calls mix (least_4_11101 st off m cap c q01 q02 q03 q12 q13 q23) ⟨w, decide_eq_false (by omega), decide_eq_true (by omega), decide_eq_false (by omega), decide_eq_false (by omega), decide_eq_true (by omega), decide_eq_false (by omega), decide_eq_false (by omega), decide_eq_false (by omega), decide_eq_true (by omega), decide_eq_false (by omega), decide_eq_false (by omega), decide_eq_false (by omega), decide_eq_false (by omega), decide_eq_false (by omega), decide_eq_true (by omega), decide_eq_false (by omega), decide_eq_false (by omega), decide_eq_false (by omega), decide_eq_false (by omega), decide_eq_false (by omega), decide_eq_false (by omega), trivial⟩ rfl rfl
          · have d5 := decide_eq_false h5
            have e : leastQ [(0, 1, q01), (0, 2, q02), (0, 3, q03), (1, 2, q12), (1, 3, q13), (2, 3, q23)] = ((1, 2, q12), true) := by simp only [leastQ, leastP, d1, d2, d3, d4, d5, cond_true, cond_false]
            rw [e]
            exact runF_calls mix (least_4_11100 st off m cap c q01 q02 q03 q12 q13 q23) ⟨w, decide_eq_false (by omega), decide_eq_true (by omega), decide_eq_false (by omega), decide_eq_false (by omega), decide_eq_true (by omega), decide_eq_false (by omega), decide_eq_false (by omega), decide_eq_false (by omega), decide_eq_true (by omega), decide_eq_false (by omega), decide_eq_false (by omega), decide_eq_false (by omega), decide_eq_false (by omega), decide_eq_false (by omega), decide_eq_false (by omega), trivial⟩ rfl rfl
      · have d3 := decide_eq_false h3
        by_cases h4 : q13 < q03
        · have d4 := decide_eq_true h4
          by_cases h5 : q23 < q13
          · have d5 := decide_eq_true h5
            have e : leastQ [(0, 1, q01), (0, 2, q02), (0, 3, q03), (1, 2, q12), (1, 3, q13), (2, 3, q23)] = ((2, 3, q23), true) := by simp only [leastQ, leastP, d1, d2, d3, d4, d5, cond_true, cond_false]
            rw [e]
            exact runF_calls mix (least_4_11011 st off m cap c q01 q02 q03 q12 q13 q23) ⟨w, decide_eq_false (by omega), decide_eq_true (by omega), decide_eq_false (by omega), decide_eq_false (by omega), decide_eq_true (by omega), decide_eq_false (by omega), decide_eq_false (by omega), decide_eq_false (by omega), decide_eq_false (by omega), decide_eq_true (by omega), decide_eq_false (by omega), decide_eq_false (by omega), decide_eq_false (by omega), decide_eq_false (by omega), decide_eq_false (by omega), decide_eq_true (by omega), decide_eq_false (by omega), decide_eq_false (by omega), decide_eq_false (by omega), decide_eq_false (by omega), decide_eq_false (by omega), decide_eq_false (by omega), trivial⟩ rfl rfl
          · have d5 := decide_eq_false h5
            have e : leastQ [(0, 1, q01), (0, 2, q02), (0, 3, q03), (1, 2, q12), (1, 3, q13), (2, 3, q23)] = ((1, 3, q13), true) := by simp only [leastQ, leastP, d1, d2, d3, d4, d5, cond_true, cond_false]
            rw [e]
            exact runF_calls mix (least_4_11010 st off m cap c q01 q02 q03 q12 q13 q23) ⟨w, decide_eq_false (by omega), decide_eq_true (by omega), decide_eq_false (by omega), decide_eq_false (by omega), decide_eq_true (by omega), decide_eq_false (by omega), decide_eq_false (by omega), decide_eq_false (by omega), decide_eq_false (by omega), decide_eq_true (by omega), decide_eq_false (by omega), decide_eq_false (by omega), decide_eq_false (by omega), decide_eq_false (by omega), decide_eq_false (by omega), decide_eq_false (by omega), trivial⟩ rfl rfl
        · have d4 := decide_eq_false h4
          by_cases h5 : q23 < q03
          · have d5 := decide_eq_true h5
            have e : leastQ [(0, 1, q01), (0, 2, q02), (0, 3, q03), (1, 2, q12), (1, 3, q13), (2, 3, q23)] = ((2, 3, q23), true) := by simp only [leastQ, leastP, d1, d2, d3, d4, d5, cond_true, cond_false]
            rw [e]
            exact runF_calls mix (least_4_11001 st off m cap c q01 q02 q03 q12 q13 q23) ⟨w, decide_eq_false (by omega), decide_eq_true (by omega), decide_eq_false (by omega), decide_eq_false (by omega), decide_eq_true (by omega), decide_eq_false (by omega), decide_eq_false (by omega), decide_eq_false (by omega), decide_eq_false (by omega), decide_eq_false (by omega), decide_eq_true (by omega), decide_eq_false (by omega), decide_eq_false (by omega), decide_eq_false (by omega), decide_eq_false (by omega), decide_eq_false (by omega), decide_eq_false (by omega), trivial⟩ rfl rfl
          · have d5 := decide_eq_false h5
            have e : leastQ [(0, 1, q01), (0, 2, q02), (0, 3, q03), (1, 2, q12), (1, 3, q13), (2, 3, q23)] = ((0, 3, q03), true) := by simp only [leastQ, leastP, d1, d2, d3, d4, d5, cond_true, cond_false]
            rw [e]
            exact runF_calls mix (least_4_11000 st off m cap c q01 q02 q03 q12 q13 q23) ⟨w, decide_eq_false (by omega), decide_eq_true (by omega), decide_eq_false (by omega), decide_eq_false (by omega), decide_eq_true (by omega), decide_eq_false (by omega), decide_eq_false (by omega), decide_eq_false (by omega), decide_eq_false (by omega), decide_eq_false (by omega), decide_eq_false (by omega), trivial⟩ rfl rfl
    · have d2 := decide_eq_false h2
      by_cases h3 : q12 < q02
      · have d3 := decide_eq_true h3
        by_cases h4 : q13 < q12
        · have d4 := decide_eq_true h4
          by_cases h5 : q23 < q13
          · have d5 := decide_eq_true h5
            have e : leastQ [(0, 1, q01), (0, 2, q02), (0, 3, q03), (1, 2, q12), (1, 3, q13), (2, 3, q23)] = ((2, 3, q23), true) := by simp only [leastQ, leastP, d1, d2, d3, d4, d5, cond_true, cond_false]
            rw [e]
            exact runF_calls mix (least_4_10111 st off m cap c q01 q02 q03 q12 q13 q23) ⟨w, decide_eq_false (by omega), decide_eq_true (by omega), decide_eq_false (by omega), decide_eq_false (by omega), decide_eq_false (by omega), decide_eq_true (by omega), decide_eq_false (by omega), decide_eq_false (by omega), decide_eq_false (by omega), decide_eq_false (by omega), decide_eq_true (by omega), decide_eq_false (by omega), decide_eq_false (by omega), decide_eq_false (by omega), decide_eq_false (by omega), decide_eq_false (by omega), decide_eq_true (by omega), decide_eq_false (by omega), decide_eq_false (by omega), decide_eq_false (by omega), decide_eq_false (by omega), decide_eq_false (by omega), decide_eq_false (by omega), trivial⟩ rfl rfl
          · have d5 := decide_eq_false h5
            have e : leastQ [(0, 1, q01), (0, 2, q02), (0, 3, q03), (1, 2, q12), (1, 3, q13), (2, 3, q23)] = ((1, 3, q13), true) := by simp only [leastQ, leastP, d1, d2, d3, d4, d5, cond_true, cond_false]
            rw [e]
            exact runF_calls mix (least_4_10110 st off m cap c q01 q02 q03 q12 q13 q23) ⟨w, decide_eq_false (by omega), decide_eq_true (by omega), decide_eq_false (by omega), decide_eq_false (by omega), decide_eq_false (by omega), decide_eq_true (by omega), decide_eq_false (by omega), decide_eq_false (by omega), decide_eq_false (by omega), decide_eq_false (by omega), decide_eq_true (by omega), decide_eq_false (by omega), decide_eq_false (by omega), decide_eq_false (by omega), decide_eq_false (by omega), decide_eq_false (by omega), decide_eq_false (by omega), trivial⟩ rfl rfl
        · have d4 := decide_eq_false h4
          by_cases h5 : q23 < q12
          · have d5 := decide_eq_true h5
            have e : leastQ [(0, 1, q01), (0, 2, q02), (0, 3, q03), (1, 2, q12), (1, 3, q13), (2, 3, q23)] = ((2, 3, q23), true) := by simp only [leastQ, leastP, d1, d2, d3, d4, d5, cond_true, cond_false]
            rw [e]
            exact runF_calls mix (least_4_10101 st off m cap c q01 q02 q03 q12 q13 q23) ⟨w, decide_eq_false (by omega), decide_eq_true (by omega), decide_eq_false (by omega), decide_eq_false (by omega), decide_eq_false (by omega), decide_eq_true (by omega), decide_eq_false (by omega), decide_eq_false (by omega), decide_eq_false (by omega), decide_eq_false (by omega), decide_eq_false (by omega), decide_eq_true (by omega), decide_eq_false (by omega), decide_eq_false (by omega), decide_eq_false (by omega), decide_eq_false (by omega), decide_eq_false (by omega), decide_eq_false (by omega), trivial⟩ rfl rfl
          · have d5 := decide_eq_false h5
            have e : leastQ [(0, 1, q01), (0, 2, q02), (0, 3, q03), (1, 2, q12), (1, 3, q13), (2, 3, q23)] = ((1, 2, q12), true) := by simp only [leastQ, leastP, d1, d2, d3, d4, d5, cond_true, cond_false]
            rw [e]
            exact runF_calls mix (least_4_10100 st off m cap c q01 q02 q03 q12 q13 q23) ⟨w, decide_eq_false (by omega), decide_eq_true (by omega), decide_eq_false (by omega), decide_eq_false (by omega), decide_eq_false (by omega), decide_eq_true (by omega), decide_eq_false (by omega), decide_eq_false (by omega), decide_eq_false (by omega), decide_eq_false (by omega), decide_eq_false (by omega), decide_eq_false (by omega), trivial⟩ rfl rfl
      · have d3 := decide_eq_false h3
        by_cases h4 : q13 < q02
        · have d4 := decide_eq_true h4
          by_cases h5 : q23 < q13
          · have d5 := decide_eq_true h5
            have e : leastQ [(0, 1, q01), (0, 2, q02), (0, 3, q03), (1, 2, q12), (1, 3, q13), (2, 3, q23)] = ((2, 3, q23), true) := by simp only [leastQ, leastP, d1, d2, d3, d4, d5, cond_true, cond_false]
            rw [e]
            exact runF_calls mix (least_4_10011 st off m cap c q01 q02 q03 q12 q13 q23) ⟨w, decide_eq_false (by omega), decide_eq_true (by omega), decide_eq_false (by omega), decide_eq_false (by omega), decide_eq_false (by omega), decide_eq_false (by omega), decide_eq_true (by omega), decide_eq_false (by omega), decide_eq_false (by omega), decide_eq_false (by omega), decide_eq_false (by omega), decide_eq_false (by omega), decide_eq_true (by omega), decide_eq_false (by omega), decide_eq_false (by omega), decide_eq_false (by omega), decide_eq_false (by omega), decide_eq_false (by omega), decide_eq_false (by omega), trivial⟩ rfl rfl
          · have d5 := decide_eq_false h5
            have e : leastQ [(0, 1, q01), (0, 2, q02), (0, 3, q03), (1, 2, q12), (1, 3, q13), (2, 3, q23)] = ((1, 3, q13), true) := by simp only [leastQ, leastP, d1, d2, d3, d4, d5, cond_true, cond_false]
            rw [e]
            exact runF_calls mix (least_4_10010 st off m cap c q01 q02 q03 q12 q13 q23) ⟨w, decide_eq_false (by omega), decide_eq_true (by omega), decide_eq_false (by omega), decide_eq_false (by omega), decide_eq_false (by omega), decide_eq_false (by omega), decide_eq_true (by omega), decide_eq_false (by omega), decide_eq_false (by omega), decide_eq_false (by omega), decide_eq_false (by omega), decide_eq_false (by omega), decide_eq_false (by omega), trivial⟩ rfl rfl
        · have d4 := decide_eq_false h4
          by_cases h5 : q23 < q02
          · have d5 := decide_eq_true h5
            have e : leastQ [(0, 1, q01), (0, 2, q02), (0, 3, q03), (1, 2, q12), (1, 3, q13), (2, 3, q23)] = ((2, 3, q23), true) := by simp only [leastQ, leastP, d1, d2, d3, d4, d5, cond_true, cond_false]
            rw [e]
            exact runF_calls mix (least_4_10001 st off m cap c q01 q02 q03 q12 q13 q23) ⟨w, decide_eq_false (by omega), decide_eq_true (by omega), decide_eq_false (by omega), decide_eq_false (by omega), decide_eq_false (by omega), decide_eq_false (by omega), decide_eq_false (by omega), decide_eq_true (by omega), decide_eq_false (by omega), decide_eq_false (by omega), decide_eq_false (by omega), decide_eq_false (by omega), decide_eq_false (by omega), decide_eq_false (by omega), trivial⟩ rfl rfl
          · have d5 := decide_eq_false h5
            have e : leastQ [(0, 1, q01), (0, 2, q02), (0, 3, q03), (1, 2, q12), (1, 3, q13), (2, 3, q23)] = ((0, 2, q02), true) := by simp only [leastQ, leastP, d1, d2, d3, d4, d5, cond_true, cond_false]
            rw [e]
            exact runF_calls mix (least_4_10000 st off m cap c q01 q02 q03 q12 q13 q23) ⟨w, decide_eq_false (by omega), decide_eq_true (by omega), decide_eq_false (by omega), decide_eq_false (by omega), decide_eq_false (by omega), decide_eq_false (by omega), decide_eq_false (by omega), decide_eq_false (by omega), trivial⟩ rfl rfl
  · have d1 := decide_eq_false h1
    by_cases h2 : q03 < q01
    · have d2 := decide_eq_true h2
      by_cases h3 : q12 < q03
      · have d3 := decide_eq_true h3
        by_cases h4 : q13 < q12
        · have d4 := decide_eq_true h4
          by_cases h5 : q23 < q13
          · have d5 := decide_eq_true h5
            have e : leastQ [(0, 1, q01), (0, 2, q02), (0, 3, q03), (1, 2, q12), (1, 3, q13), (2, 3, q23)] = ((2, 3, q23), true) := by simp only [leastQ, leastP, d1, d2, d3, d4, d5, cond_true, cond_false]
            rw [e]
            exact runF_calls mix (least_4_01111 st off m cap c q01 q02 q03 q12 q13 q23) ⟨w, decide_eq_false (by omega), decide_eq_false (by omega), decide_eq_true (by omega), decide_eq_false (by omega), decide_eq_false (by omega), decide_eq_false (by omega), decide_eq_true (by omega), decide_eq_false (by omega), decide_eq_false (by omega), decide_eq_false (by omega), decide_eq_false (by omega), decide_eq_true (by omega), decide_eq_false (by omega), decide_eq_false (by omega), decide_eq_false (by omega), decide_eq_false (by omega), decide_eq_false (by omega), decide_eq_true (by omega), decide_eq_false (by omega), decide_eq_false (by omega), decide_eq_false (by omega), decide_eq_false (by omega), decide_eq_false (by omega), decide_eq_false (by omega), trivial⟩ rfl rfl
          · have d5 := decide_eq_false h5
            have e : leastQ [(0, 1, q01), (0, 2, q02), (0, 3, q03), (1, 2, q12), (1, 3, q13), (2, 3, q23)] = ((1, 3, q13), true) := by simp only [leastQ, leastP, d1, d2, d3, d4, d5, cond_true, cond_false]
            rw [e]
            exact runF_calls mix (least_4_01110 st off m cap c q01 q02 q03 q12 q13 q23) ⟨w, decide_eq_false (by omega), decide_eq_false (by omega), decide_eq_true (by omega), decide_eq_false (by omega), decide_eq_false (by omega), decide_eq_false (by omega), decide_eq_true (by omega), decide_eq_false (by omega), decide_eq_false (by omega), decide_eq_false (by omega), decide_eq_false (by omega), decide_eq_true (by omega), decide_eq_false (by omega), decide_eq_false (by omega), decide_eq_false (by omega), decide_eq_false (by omega), decide_eq_false (by omega), decide_eq_false (by omega), trivial⟩ rfl rfl
        · have d4 := decide_eq_false h4
          by_cases h5 : q23 < q12
          · have d5 := decide_eq_true h5
            have e : leastQ [(0, 1, q01), (0, 2, q02), (0, 3, q03), (1, 2, q12), (1, 3, q13), (2, 3, q23)] = ((2, 3, q23), true) := by simp only [leastQ, leastP, d1, d2, d3, d4, d5, cond_true, cond_false]
            rw [e]
            exact runF_calls mix (least_4_01101 st off m cap c q01 q02 q03 q12 q13 q23) ⟨w, decide_eq_false (by omega), decide_eq_false (by omega), decide_eq_true (by omega), decide_eq_false (by omega), decide_eq_false (by omega), decide_eq_false (by omega), decide_eq_true (by omega), decide_eq_false (by omega), decide_eq_false (by omega), decide_eq_false (by omega), decide_eq_false (by omega), decide_eq_false (by omega), decide_eq_true (by omega), decide_eq_false (by omega), decide_eq_false (by omega), decide_eq_false (by omega), decide_eq_false (by omega), decide_eq_false (by omega), decide_eq_false (by omega), trivial⟩ rfl rfl
          · have d5 := decide_eq_false h5
            have e : leastQ [(0, 1, q01), (0, 2, q02), (0, 3, q03), (1, 2, q12), (1, 3, q13), (2, 3, q23)] = ((1, 2, q12), true) := by simp only [leastQ, leastP, d1, d2, d3, d4, d5, cond_true, cond_false]
            rw [e]
            exact runF_calls mix (least_4_01100 st off m cap c q01 q02 q03 q12 q13 q23) ⟨w, decide_eq_false (by omega), decide_eq_false (by omega), decide_eq_true (by omega), decide_eq_false (by omega), decide_eq_false (by omega), decide_eq_false (by omega), decide_eq_true (by omega), decide_eq_false (by omega), decide_eq_false (by omega), decide_eq_false (by omega), decide_eq_false (by omega), decide_eq_false (by omega), decide_eq_false (by omega), trivial⟩ rfl rfl
      · have d3 := decide_eq_false h3
        by_cases h4 : q13 < q03
        · have d4 := decide_eq_true h4
          by_cases h5 : q23 < q13
          · have d5 := decide_eq_true h5
            have e : leastQ [(0, 1, q01), (0, 2, q02), (0, 3, q03), (1, 2, q12), (1, 3, q13), (2, 3, q23)] = ((2, 3, q23), true) := by simp only [leastQ, leastP, d1, d2, d3, d4, d5, cond_true, cond_false]
            rw [e]
            exact runF_calls mix (least_4_01011 st off m cap c q01 q02 q03 q12 q13 q23) ⟨w, decide_eq_false (by omega), decide_eq_false (by omega), decide_eq_true (by omega), decide_eq_false (by omega), decide_eq_false (by omega), decide_eq_false (by omega), decide_eq_false (by omega), decide_eq_true (by omega), decide_eq_false (by omega), decide_eq_false (by omega), decide_eq_false (by omega), decide_eq_false (by omega), decide_eq_false (by omega), decide_eq_true (by omega), decide_eq_false (by omega), decide_eq_false (by omega), decide_eq_false (by omega), decide_eq_false (by omega), decide_eq_false (by omega), decide_eq_false (by omega), trivial⟩ rfl rfl
          · have d5 := decide_eq_false h5
            have e : leastQ [(0, 1, q01), (0, 2, q02), (0, 3, q03), (1, 2, q12), (1, 3, q13), (2, 3, q23)] = ((1, 3, q13), true) := by simp only [leastQ, leastP, d1, d2, d3, d4, d5, cond_true, cond_false]
            rw [e]
            exact runF_calls mix (least_4_01010 st off m cap c q01 q02 q03 q12 q13 q23) ⟨w, decide_eq_false (by omega), decide_eq_false (by omega), decide_eq_true (by omega), decide_eq_false (by omega), decide_eq_false (by omega), decide_eq_false (by omega), decide_eq_false (by omega), decide_eq_true (by omega), decide_eq_false (by omega), decide_eq_false (by omega), decide_eq_false (by omega), decide_eq_false (by omega), decide_eq_false (by omega), decide_eq_false (by omega), trivial⟩ rfl rfl
        · have d4 := decide_eq_false h4
          by_cases h5 : q23 < q03
          · have d5 := decide_eq_true h5
            have e : leastQ [(0, 1, q01), (0, 2, q02), (0, 3, q03), (1, 2, q12), (1, 3, q13), (2, 3, q23)] = ((2, 3, q23), true) := by simp only [leastQ, leastP, d1, d2, d3, d4, d5, cond_true, cond_false]
            rw [e]
            exact runF_calls mix (least_4_01001 st off m cap c q01 q02 q03 q12 q13 q23) ⟨w, decide_eq_false (by omega), decide_eq_false (by omega), decide_eq_true (by omega), decide_eq_false (by omega), decide_eq_false (by omega), decide_eq_false (by omega), decide_eq_false (by omega), decide_eq_false (by omega), decide_eq_true (by omega), decide_eq_false (by omega), decide_eq_false (by omega), decide_eq_false (by omega), decide_eq_false (by omega), decide_eq_false (by omega), decide_eq_false (by omega), trivial⟩ rfl rfl
          · have d5 := decide_eq_false h5
            have e : leastQ [(0, 1, q01), (0, 2, q02), (0, 3, q03), (1, 2, q12), (1, 3, q13), (2, 3, q23)] = ((0, 3, q03), true) := by simp only [leastQ, leastP, d1, d2, d3, d4, d5, cond_true, cond_false]
            rw [e]
            exact runF_calls mix (least_4_01000 st off m cap c q01 q02 q03 q12 q13 q23) ⟨w, decide_eq_false (by omega), decide_eq_false (by omega), decide_eq_true (by omega), decide_eq_false (by omega), decide_eq_false (by omega), decide_eq_false (by omega), decide_eq_false (by omega), decide_eq_false (by omega), decide_eq_false (by omega), trivial⟩ rfl rfl
    · have d2 := decide_eq_false h2
      by_cases h3 : q12 < q01
      · have d3 := decide_eq_true h3
        by_cases h4 : q13 < q12
        · have d4 := decide_eq_true h4
          by_cases h5 : q23 < q13
          · have d5 := decide_eq_true h5
            have e : leastQ [(0, 1, q01), (0, 2, q02), (0, 3, q03), (1, 2, q12), (1, 3, q13), (2, 3, q23)] = ((2, 3, q23), true) := by simp only [leastQ, leastP, d1, d2, d3, d4, d5, cond_true, cond_false]
            rw [e]
            exact runF_calls mix (least_4_00111 st off m cap c q01 q02 q03 q12 q13 q23) ⟨w, decide_eq_false (by omega), decide_eq_false (by omega), decide_eq_false (by omega), decide_eq_true (by omega), decide_eq_false (by omega), decide_eq_false (by omega), decide_eq_false (by omega), decide_eq_false (by omega), decide_eq_true (by omega), decide_eq_false (by omega), decide_eq_false (by omega), decide_eq_false (by omega), decide_eq_false (by omega), decide_eq_false (by omega), decide_eq_true (by omega), decide_eq_false (by omega), decide_eq_false (by omega), decide_eq_false (by omega), decide_eq_false (by omega), decide_eq_false (by omega), decide_eq_false (by omega), trivial⟩ rfl rfl
          · have d5 := decide_eq_false h5
            have e : leastQ [(0, 1, q01), (0, 2, q02), (0, 3, q03), (1, 2, q12), (1, 3, q13), (2, 3, q23)] = ((1, 3, q13), true) := by simp only [leastQ, leastP, d1, d2, d3, d4, d5, cond_true, cond_false]
            rw [e]
            exact runF_calls mix (least_4_00110 st off m cap c q01 q02 q03 q12 q13 q23) ⟨w, decide_eq_false (by omega), decide_eq_false (by omega), decide_eq_false (by omega), decide_eq_true (by omega), decide_eq_false (by omega), decide_eq_false (by omega), decide_eq_false (by omega), decide_eq_false (by omega), decide_eq_true (by omega), decide_eq_false (by omega), decide_eq_false (by omega), decide_eq_false (by omega), decide_eq_false (by omega), decide_eq_false (by omega), decide_eq_false (by omega), trivial⟩ rfl rfl
        · have d4 := decide_eq_false h4
          by_cases h5 : q23 < q12
          · have d5 := decide_eq_true h5
            have e : leastQ [(0, 1, q01), (0, 2, q02), (0, 3, q03), (1, 2, q12), (1, 3, q13), (2, 3, q23)] = ((2, 3, q23), true) := by simp only [leastQ, leastP, d1, d2, d3, d4, d5, cond_true, cond_false]
            rw [e]
            exact runF_calls mix (least_4_00101 st off m cap c q01 q02 q03 q12 q13 q23) ⟨w, decide_eq_false (by omega), decide_eq_false (by omega), decide_eq_false (by omega), decide_eq_true (by omega), decide_eq_false (by omega), decide_eq_false (by omega), decide_eq_false (by omega), decide_eq_false (by omega), decide_eq_false (by omega), decide_eq_true (by omega), decide_eq_false (by omega), decide_eq_false (by omega), decide_eq_false (by omega), decide_eq_false (by omega), decide_eq_false (by omega), decide_eq_false (by omega), trivial⟩ rfl rfl
          · have d5 := decide_eq_false h5
            have e : leastQ [(0, 1, q01), (0, 2, q02), (0, 3, q03), (1, 2, q12), (1, 3, q13), (2, 3, q23)] = ((1, 2, q12), true) := by simp only [leastQ, leastP, d1, d2, d3, d4, d5, cond_true, cond_false]
            rw [e]
            exact runF_calls mix (least_4_00100 st off m cap c q01 q02 q03 q12 q13 q23) ⟨w, decide_eq_false (by omega), decide_eq_false (by omega), decide_eq_false (by omega), decide_eq_true (by omega), decide_eq_false (by omega), decide_eq_false (by omega), decide_eq_false (by omega), decide_eq_false (by omega), decide_eq_false (by omega), decide_eq_false (by omega), trivial⟩ rfl rfl
      · have d3 := decide_eq_false h3
        by_cases h4 : q13 < q01
        · have d4 := decide_eq_true h4
          by_cases h5 : q23 < q13
          · have d5 := decide_eq_true h5
            have e : leastQ [(0, 1, q01), (0, 2, q02), (0, 3, q03), (1, 2, q12), (1, 3, q13), (2, 3, q23)] = ((2, 3, q23), true) := by simp only [leastQ, leastP, d1, d2, d3, d4, d5, cond_true, cond_false]
            rw [e]
            exact runF_calls mix (least_4_00011 st off m cap c q01 q02 q03 q12 q13 q23) ⟨w, decide_eq_false (by omega), decide_eq_false (by omega), decide_eq_false (by omega), decide_eq_false (by omega), decide_eq_true (by omega), decide_eq_false (by omega), decide_eq_false (by omega), decide_eq_false (by omega), decide_eq_false (by omega), decide_eq_false (by omega), decide_eq_true (by omega), decide_eq_false (by omega), decide_eq_false (by omega), decide_eq_false (by omega), decide_eq_false (by omega), decide_eq_false (by omega), decide_eq_false (by omega), trivial⟩ rfl rfl
          · have d5 := decide_eq_false h5
            have e : leastQ [(0, 1, q01), (0, 2, q02), (0, 3, q03), (1, 2, q12), (1, 3, q13), (2, 3, q23)] = ((1, 3, q13), true) := by simp only [leastQ, leastP, d1, d2, d3, d4, d5, cond_true, cond_false]
            rw [e]
            exact runF_calls mix (least_4_00010 st off m cap c q01 q02 q03 q12 q13 q23) ⟨w, decide_eq_false (by omega), decide_eq_false (by omega), decide_eq_false (by omega), decide_eq_false (by omega), decide_eq_true (by omega), decide_eq_false (by omega), decide_eq_false (by omega), decide_eq_false (by omega), decide_eq_false (by omega), decide_eq_false (by omega), decide_eq_false (by omega), trivial⟩ rfl rfl
        · have d4 := decide_eq_false h4
          by_cases h5 : q23 < q01
          · have d5 := decide_eq_true h5
            have e : leastQ [(0, 1, q01), (0, 2, q02), (0, 3, q03), (1, 2, q12), (1, 3, q13), (2, 3, q23)] = ((2, 3, q23), true) := by simp only [leastQ, leastP, d1, d2, d3, d4, d5, cond_true, cond_false]
            rw [e]
            exact runF_calls mix (least_4_00001 st off m cap c q01 q02 q03 q12 q13 q23) ⟨w, decide_eq_false (by omega), decide_eq_false (by omega), decide_eq_false (by omega), decide_eq_false (by omega), decide_eq_false (by omega), decide_eq_true (by omega), decide_eq_false (by omega), decide_eq_false (by omega), decide_eq_false (by omega), decide_eq_false (by omega), decide_eq_false (by omega), decide_eq_false (by omega), trivial⟩ rfl rfl
          · have d5 := decide_eq_false h5
            have e : leastQ [(0, 1, q01), (0, 2, q02), (0, 3, q03), (1, 2, q12), (1, 3, q13), (2, 3, q23)] = ((0, 1, q01), true) := by simp only [leastQ, leastP, d1, d2, d3, d4, d5, cond_true, cond_false]
            rw [e]
            exact runF_calls mix (least_4_00000 st off m cap c q01 q02 q03 q12 q13 q23) ⟨w, decide_eq_false (by omega), decide_eq_false (by omega), decide_eq_false (by omega), decide_eq_false (by omega), decide_eq_false (by omega), decide_eq_false (by omega), trivial⟩ rfl rfl
theorem least_s (st : Int) (L : List Bd) : SemA KB Try.prog 13 (fun s => #[sv st s]) L (tpQ (leastQ (prsV st L))) := by
  refine semA_mk false (ren_sv st) (tpQ_ok _) (fun e => ?_) (fun off cap hl hc => ?_)
  · subst e
    have e0 := prsV_no (right_0 st)
    have hp := pairs_s st []
    rw [e0] at hp ⊢
    have hq : PureX Try.prog 10 #[sv st sl0] (rt sl0) := semA_pure (K := KB) (args := fun s => #[sv st s]) (hp.1 rfl) rfl
    exact runF_pure mix (least_nil st) ⟨hq, trivial⟩ rfl rfl
  have hs : ∀ β w, Rel (rng β [(1, KB.win off L)]) w β [(1, KB.win off L)] w → LieK KB w (ren β (slw 1 off L.length cap)) L := fun β w hR => lk_win (K := KB) hR rfl hl hc
  have hp := pairs_s st L
  by_cases h0 : prsV st L = []
  · rw [h0]
    have hq := semA_calls (hp.1 h0) (ren_sv st) rfl hs
    exact runF_calls mix (least_no st off L.length cap (cwx KB.fl off L)) ⟨hq, trivial⟩ rfl rfl
  have w := newA_calls (hp.2 h0) true (ren_sv st) (fun _ _ => rfl) (H := [(1, KB.win off L)]) (k := 9) rfl hs
  have h : rightV st L = true := by
    cases h : rightV st L
    · exact absurd (prsV_no h) h0
    · rfl
  rw [prsV_ok h] at h0 w ⊢
  obtain ⟨-, ⟨h1, h4⟩, hb⟩ := rightV_iff.1 h
  rcases shapes h1 h4 with ⟨a, rfl⟩ | ⟨a, b, rfl⟩ | ⟨a, b, d, rfl⟩ | ⟨a, b, d, e, rfl⟩
  · exact absurd rfl h0
  · exact least_w2 st off 2 cap (cwx KB.fl off [a, b]) (sqd a.1 b.1) w
  · exact least_w3 st off 3 cap (cwx KB.fl off [a, b, d]) (sqd a.1 b.1) (sqd a.1 d.1) (sqd b.1 d.1) w
  · exact least_w4 st off 4 cap (cwx KB.fl off [a, b, d, e]) (sqd a.1 b.1) (sqd a.1 d.1) (sqd a.1 e.1) (sqd b.1 d.1) (sqd b.1 e.1) (sqd d.1 e.1) w

end Go.Proofs.Ytpllklojcjhjaaa
