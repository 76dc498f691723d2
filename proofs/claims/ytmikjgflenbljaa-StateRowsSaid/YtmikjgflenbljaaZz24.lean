/- Texts of the seat, joined. -/
import Derived.Test.YtmikjgflenbljaaZz23
/- The program's least way: its contract. -/
namespace Go.Proofs.Ytmikjgflenbljaa
open Go Go.RowKit
set_option linter.unusedSimpArgs false
set_option linter.unusedVariables false
set_option maxRecDepth 100000

theorem at_chan {P : Program} {f : Nat} {args : Value → Array Value} {L : List Bd} {v : Value} (h : AtW P f args L v) (ha : ∀ β s, renA β (args s) = args (ren β s)) (hv : wfV noB v = true) {H : Hp} {k off cap : Nat} (hk : look H k = some (win off (cwb off L))) (hl : L.length ≤ cap) (hc : cap ≤ maxLen) :
    CallsV P (.func f) (args (slw k off L.length cap)) H (rt v) H := by
  refine at_calls h ha hv (fun β w hR => ?_)
  obtain ⟨h1, h2⟩ := (hR.lies k _ hk).2.1 rfl
  exact ⟨(β k).1, off, cap, by simp only [ren, renP, shf0 h1, Nat.add_zero, capR_ne (x := β k) (cap_ne hc)], hl, hc, h2⟩
/-- The squares of the ways between each two, in order; the least of them. -/
def waysL : List Bd → List Int
  | [] => []
  | a :: r => r.map (fun b => (farN a.1 b.1).1) ++ waysL r
def leastL : List Int → Int × Bool
  | [] => (0, false)
  | k :: r => (r.foldl mnI k, true)
def leastV (st : Int) (L : List Bd) : Int × Bool := if rightV st L = true then leastL (waysL L) else (0, false)
def tpL (x : Int × Bool) : Value := tp [ii x.1, bb x.2]
theorem tpL_ok (x : Int × Bool) : wfV noB (tpL x) = true := rfl
theorem least_1 (st : Int) (a : Bd) (cap : Nat) (hc : 1 ≤ cap ∧ cap ≤ maxLen) (wr : CallsV Try.prog (.func 15) #[sv st (slw 1 0 1 cap)] [(1, wob [a])] (rt (bb true)) [(1, wob [a])]) : CallsV Try.prog (.func 14) #[sv st (slw 1 0 1 cap)] [(1, wob [a])] (rt (tpL (leastL (waysL [a])))) [(1, wob [a])] := by
  exact runF_calls mix (l14_1 st cap a) ⟨wr, hc, trivial⟩ rfl rfl
theorem least_2 (st : Int) (a b : Bd) (cap : Nat) (hc : 2 ≤ cap ∧ cap ≤ maxLen) (wr : CallsV Try.prog (.func 15) #[sv st (slw 1 0 2 cap)] [(1, wob [a, b])] (rt (bb true)) [(1, wob [a, b])]) : CallsV Try.prog (.func 14) #[sv st (slw 1 0 2 cap)] [(1, wob [a, b])] (rt (tpL (leastL (waysL [a, b])))) [(1, wob [a, b])] := by
  have f1 := far_v a.1 b.1
  have eqL : tpL (leastL (waysL [a, b])) = (fun (k1 : Int) => tp [ii k1, bb true]) (farN a.1 b.1).1 := rfl
  rw [eqL]
  unfold tpN at f1
  generalize (farN a.1 b.1).1 = k1 at *
  generalize (farN a.1 b.1).2 = e1 at *
  show CallsV Try.prog (.func 14) _ _ (rt (tp [ii k1, bb true])) _
  exact runF_calls mix (l14_2 st cap a b k1 e1) ⟨wr, hc, f1, hc, trivial⟩ rfl rfl
theorem least_3 (st : Int) (a b d : Bd) (cap : Nat) (hc : 3 ≤ cap ∧ cap ≤ maxLen) (wr : CallsV Try.prog (.func 15) #[sv st (slw 1 0 3 cap)] [(1, wob [a, b, d])] (rt (bb true)) [(1, wob [a, b, d])]) : CallsV Try.prog (.func 14) #[sv st (slw 1 0 3 cap)] [(1, wob [a, b, d])] (rt (tpL (leastL (waysL [a, b, d])))) [(1, wob [a, b, d])] := by
  have f1 := far_v a.1 b.1
  have f2 := far_v a.1 d.1
  have f3 := far_v b.1 d.1
  have eqL : tpL (leastL (waysL [a, b, d])) = (fun (k1 : Int) (k2 : Int) (k3 : Int) => tp [ii (mnI (mnI k1 k2) k3), bb true]) (farN a.1 b.1).1 (farN a.1 d.1).1 (farN b.1 d.1).1 := rfl
  rw [eqL]
  unfold tpN at f1 f2 f3
  generalize (farN a.1 b.1).1 = k1 at *
  generalize (farN a.1 b.1).2 = e1 at *
  generalize (farN a.1 d.1).1 = k2 at *
  generalize (farN a.1 d.1).2 = e2 at *
  generalize (farN b.1 d.1).1 = k3 at *
  generalize (farN b.1 d.1).2 = e3 at *
  show CallsV Try.prog (.func 14) _ _ (rt (tp [ii (mnI (mnI k1 k2) k3), bb true])) _
  by_cases h2 : k2 < k1
  · rw [show mnI k1 k2 = k2 from if_pos h2]
    by_cases h3 : k3 < k2
    · rw [show mnI k2 k3 = k3 from if_pos h3]
      exact runF_calls mix (l14_3_11 st cap a b d k1 k2 k3 e1 e2 e3) ⟨wr, hc, f1, f2, decide_eq_true h2, hc, f3, decide_eq_true h3, hc, trivial⟩ rfl rfl
    · rw [show mnI k2 k3 = k2 from if_neg h3]
      exact runF_calls mix (l14_3_10 st cap a b d k1 k2 k3 e1 e2 e3) ⟨wr, hc, f1, f2, decide_eq_true h2, hc, f3, decide_eq_false h3, hc, trivial⟩ rfl rfl
  · rw [show mnI k1 k2 = k1 from if_neg h2]
    by_cases h3 : k3 < k1
    · rw [show mnI k1 k3 = k3 from if_pos h3]
      exact runF_calls mix (l14_3_01 st cap a b d k1 k2 k3 e1 e2 e3) ⟨wr, hc, f1, f2, decide_eq_false h2, hc, f3, decide_eq_true h3, hc, trivial⟩ rfl rfl
    · rw [show mnI k1 k3 = k1 from if_neg h3]
      exact runF_calls mix (l14_3_00 st cap a b d k1 k2 k3 e1 e2 e3) ⟨wr, hc, f1, f2, decide_eq_false h2, hc, f3, decide_eq_false h3, hc, trivial⟩ rfl rfl
theorem least_4 (st : Int) (a b d e : Bd) (cap : Nat) (hc : 4 ≤ cap ∧ cap ≤ maxLen) (wr : CallsV Try.prog (.func 15) #[sv st (slw 1 0 4 cap)] [(1, wob [a, b, d, e])] (rt (bb true)) [(1, wob [a, b, d, e])]) : CallsV Try.prog (.func 14) #[sv st (slw 1 0 4 cap)] [(1, wob [a, b, d, e])] (rt (tpL (leastL (waysL [a, b, d, e])))) [(1, wob [a, b, d, e])] := by
  have f1 := far_v a.1 b.1
  have f2 := far_v a.1 d.1
  have f3 := far_v a.1 e.1
  have f4 := far_v b.1 d.1
  have f5 := far_v b.1 e.1
  have f6 := far_v d.1 e.1
  have eqL : tpL (leastL (waysL [a, b, d, e])) = (fun (k1 : Int) (k2 : Int) (k3 : Int) (k4 : Int) (k5 : Int) (k6 : Int) => tp [ii (mnI (mnI (mnI (mnI (mnI k1 k2) k3) k4) k5) k6), bb true]) (farN a.1 b.1).1 (farN a.1 d.1).1 (farN a.1 e.1).1 (farN b.1 d.1).1 (farN b.1 e.1).1 (farN d.1 e.1).1 := rfl
  rw [eqL]
  unfold tpN at f1 f2 f3 f4 f5 f6
  generalize (farN a.1 b.1).1 = k1 at *
  generalize (farN a.1 b.1).2 = e1 at *
  generalize (farN a.1 d.1).1 = k2 at *
  generalize (farN a.1 d.1).2 = e2 at *
  generalize (farN a.1 e.1).1 = k3 at *
  generalize (farN a.1 e.1).2 = e3 at *
  generalize (farN b.1 d.1).1 = k4 at *
  generalize (farN b.1 d.1).2 = e4 at *
  generalize (farN b.1 e.1).1 = k5 at *
  generalize (farN b.1 e.1).2 = e5 at *
  generalize (farN d.1 e.1).1 = k6 at *
  generalize (farN d.1 e.1).2 = e6 at *
  show CallsV Try.prog (.func 14) _ _ (rt (tp [ii (mnI (mnI (mnI (mnI (mnI k1 k2) k3) k4) k5) k6), bb true])) _
  by_cases h2 : k2 < k1
  · rw [show mnI k1 k2 = k2 from if_pos h2]
    by_cases h3 : k3 < k2
    · rw [show mnI k2 k3 = k3 from if_pos h3]
      by_cases h4 : k4 < k3
      · rw [show mnI k3 k4 = k4 from if_pos h4]
        by_cases h5 : k5 < k4
        · rw [show mnI k4 k5 = k5 from if_pos h5]
          by_cases h6 : k6 < k5
          · rw [show mnI k5 k6 = k6 from if_pos h6]
            exact runF_calls mix (l14_4_11111 st cap a b d e k1 k2 k3 k4 k5 k6 e1 e2 e3 e4 e5 e6) ⟨wr, hc, f1, f2, decide_eq_true h2, f3, decide_eq_true h3, hc, f4, decide_eq_true h4, f5, decide_eq_true h5, hc, f6, decide_eq_true h6, hc, trivial⟩ rfl rfl
          · rw [show mnI k5 k6 = k5 from if_neg h6]
            exact runF_calls mix (l14_4_11110 st cap a b d e k1 k2 k3 k4 k5 k6 e1 e2 e3 e4 e5 e6) ⟨wr, hc, f1, f2, decide_eq_true h2, f3, decide_eq_true h3, hc, f4, decide_eq_true h4, f5, decide_eq_true h5, hc, f6, decide_eq_false h6, hc, trivial⟩ rfl rfl
        · rw [show mnI k4 k5 = k4 from if_neg h5]
          by_cases h6 : k6 < k4
          · rw [show mnI k4 k6 = k6 from if_pos h6]
            exact runF_calls mix (l14_4_11101 st cap a b d e k1 k2 k3 k4 k5 k6 e1 e2 e3 e4 e5 e6) ⟨wr, hc, f1, f2, decide_eq_true h2, f3, decide_eq_true h3, hc, f4, decide_eq_true h4, f5, decide_eq_false h5, hc, f6, decide_eq_true h6, hc, trivial⟩ rfl rfl
          · rw [show mnI k4 k6 = k4 from if_neg h6]
            exact runF_calls mix (l14_4_11100 st cap a b d e k1 k2 k3 k4 k5 k6 e1 e2 e3 e4 e5 e6) ⟨wr, hc, f1, f2, decide_eq_true h2, f3, decide_eq_true h3, hc, f4, decide_eq_true h4, f5, decide_eq_false h5, hc, f6, decide_eq_false h6, hc, trivial⟩ rfl rfl
      · rw [show mnI k3 k4 = k3 from if_neg h4]
        by_cases h5 : k5 < k3
        · rw [show mnI k3 k5 = k5 from if_pos h5]
          by_cases h6 : k6 < k5
          · rw [show mnI k5 k6 = k6 from if_pos h6]
            exact runF_calls mix (l14_4_11011 st cap a b d e k1 k2 k3 k4 k5 k6 e1 e2 e3 e4 e5 e6) ⟨wr, hc, f1, f2, decide_eq_true h2, f3, decide_eq_true h3, hc, f4, decide_eq_false h4, f5, decide_eq_true h5, hc, f6, decide_eq_true h6, hc, trivial⟩ rfl rfl
          · rw [show mnI k5 k6 = k5 from if_neg h6]
            exact runF_calls mix (l14_4_11010 st cap a b d e k1 k2 k3 k4 k5 k6 e1 e2 e3 e4 e5 e6) ⟨wr, hc, f1, f2, decide_eq_true h2, f3, decide_eq_true h3, hc, f4, decide_eq_false h4, f5, decide_eq_true h5, hc, f6, decide_eq_false h6, hc, trivial⟩ rfl rfl
        · rw [show mnI k3 k5 = k3 from if_neg h5]
          by_cases h6 : k6 < k3
          · rw [show mnI k3 k6 = k6 from if_pos h6]
            exact runF_calls mix (l14_4_11001 st cap a b d e k1 k2 k3 k4 k5 k6 e1 e2 e3 e4 e5 e6) ⟨wr, hc, f1, f2, decide_eq_true h2, f3, decide_eq_true h3, hc, f4, decide_eq_false h4, f5, decide_eq_false h5, hc, f6, decide_eq_true h6, hc, trivial⟩ rfl rfl
          · rw [show mnI k3 k6 = k3 from if_neg h6]
            exact runF_calls mix (l14_4_11000 st cap a b d e k1 k2 k3 k4 k5 k6 e1 e2 e3 e4 e5 e6) ⟨wr, hc, f1, f2, decide_eq_true h2, f3, decide_eq_true h3, hc, f4, decide_eq_false h4, f5, decide_eq_false h5, hc, f6, decide_eq_false h6, hc, trivial⟩ rfl rfl
    · rw [show mnI k2 k3 = k2 from if_neg h3]
      by_cases h4 : k4 < k2
      · rw [show mnI k2 k4 = k4 from if_pos h4]
        by_cases h5 : k5 < k4
        · rw [show mnI k4 k5 = k5 from if_pos h5]
          by_cases h6 : k6 < k5
          · rw [show mnI k5 k6 = k6 from if_pos h6]
            exact runF_calls mix (l14_4_10111 st cap a b d e k1 k2 k3 k4 k5 k6 e1 e2 e3 e4 e5 e6) ⟨wr, hc, f1, f2, decide_eq_true h2, f3, decide_eq_false h3, hc, f4, decide_eq_true h4, f5, decide_eq_true h5, hc, f6, decide_eq_true h6, hc, trivial⟩ rfl rfl
          · rw [show mnI k5 k6 = k5 from if_neg h6]
            exact runF_calls mix (l14_4_10110 st cap a b d e k1 k2 k3 k4 k5 k6 e1 e2 e3 e4 e5 e6) ⟨wr, hc, f1, f2, decide_eq_true h2, f3, decide_eq_false h3, hc, f4, decide_eq_true h4, f5, decide_eq_true h5, hc, f6, decide_eq_false h6, hc, trivial⟩ rfl rfl
        · rw [show mnI k4 k5 = k4 from if_neg h5]
          by_cases h6 : k6 < k4
          · rw [show mnI k4 k6 = k6 from if_pos h6]
            exact runF_calls mix (l14_4_10101 st cap a b d e k1 k2 k3 k4 k5 k6 e1 e2 e3 e4 e5 e6) ⟨wr, hc, f1, f2, decide_eq_true h2, f3, decide_eq_false h3, hc, f4, decide_eq_true h4, f5, decide_eq_false h5, hc, f6, decide_eq_true h6, hc, trivial⟩ rfl rfl
          · rw [show mnI k4 k6 = k4 from if_neg h6]
            exact runF_calls mix (l14_4_10100 st cap a b d e k1 k2 k3 k4 k5 k6 e1 e2 e3 e4 e5 e6) ⟨wr, hc, f1, f2, decide_eq_true h2, f3, decide_eq_false h3, hc, f4, decide_eq_true h4, f5, decide_eq_false h5, hc, f6, decide_eq_false h6, hc, trivial⟩ rfl rfl
      · rw [show mnI k2 k4 = k2 from if_neg h4]
        by_cases h5 : k5 < k2
        · rw [show mnI k2 k5 = k5 from if_pos h5]
          by_cases h6 : k6 < k5
          · rw [show mnI k5 k6 = k6 from if_pos h6]
            exact runF_calls mix (l14_4_10011 st cap a b d e k1 k2 k3 k4 k5 k6 e1 e2 e3 e4 e5 e6) ⟨wr, hc, f1, f2, decide_eq_true h2, f3, decide_eq_false h3, hc, f4, decide_eq_false h4, f5, decide_eq_true h5, hc, f6, decide_eq_true h6, hc, trivial⟩ rfl rfl
          · rw [show mnI k5 k6 = k5 from if_neg h6]
            exact runF_calls mix (l14_4_10010 st cap a b d e k1 k2 k3 k4 k5 k6 e1 e2 e3 e4 e5 e6) ⟨wr, hc, f1, f2, decide_eq_true h2, f3, decide_eq_false h3, hc, f4, decide_eq_false h4, f5, decide_eq_true h5, hc, f6, decide_eq_false h6, hc, trivial⟩ rfl rfl
        · rw [show mnI k2 k5 = k2 from if_neg h5]
          by_cases h6 : k6 < k2
          · rw [show mnI k2 k6 = k6 from if_pos h6]
            exact runF_calls mix (l14_4_10001 st cap a b d e k1 k2 k3 k4 k5 k6 e1 e2 e3 e4 e5 e6) ⟨wr, hc, f1, f2, decide_eq_true h2, f3, decide_eq_false h3, hc, f4, decide_eq_false h4, f5, decide_eq_false h5, hc, f6, decide_eq_true h6, hc, trivial⟩ rfl rfl
          · rw [show mnI k2 k6 = k2 from if_neg h6]
            exact runF_calls mix (l14_4_10000 st cap a b d e k1 k2 k3 k4 k5 k6 e1 e2 e3 e4 e5 e6) ⟨wr, hc, f1, f2, decide_eq_true h2, f3, decide_eq_false h3, hc, f4, decide_eq_false h4, f5, decide_eq_false h5, hc, f6, decide_eq_false h6, hc, trivial⟩ rfl rfl
  · rw [show mnI k1 k2 = k1 from if_neg h2]
    by_cases h3 : k3 < k1
    · rw [show mnI k1 k3 = k3 from if_pos h3]
      by_cases h4 : k4 < k3
      · rw [show mnI k3 k4 = k4 from if_pos h4]
        by_cases h5 : k5 < k4
        · rw [show mnI k4 k5 = k5 from if_pos h5]
          by_cases h6 : k6 < k5
          · rw [show mnI k5 k6 = k6 from if_pos h6]
            exact runF_calls mix (l14_4_01111 st cap a b d e k1 k2 k3 k4 k5 k6 e1 e2 e3 e4 e5 e6) ⟨wr, hc, f1, f2, decide_eq_false h2, f3, decide_eq_true h3, hc, f4, decide_eq_true h4, f5, decide_eq_true h5, hc, f6, decide_eq_true h6, hc, trivial⟩ rfl rfl
          · rw [show mnI k5 k6 = k5 from if_neg h6]
            exact runF_calls mix (l14_4_01110 st cap a b d e k1 k2 k3 k4 k5 k6 e1 e2 e3 e4 e5 e6) ⟨wr, hc, f1, f2, decide_eq_false h2, f3, decide_eq_true h3, hc, f4, decide_eq_true h4, f5, decide_eq_true h5, hc, f6, decide_eq_false h6, hc, trivial⟩ rfl rfl
        · rw [show mnI k4 k5 = k4 from if_neg h5]
          by_cases h6 : k6 < k4
          · rw [show mnI k4 k6 = k6 from if_pos h6]
            exact runF_calls mix (l14_4_01101 st cap a b d e k1 k2 k3 k4 k5 k6 e1 e2 e3 e4 e5 e6) ⟨wr, hc, f1, f2, decide_eq_false h2, f3, decide_eq_true h3, hc, f4, decide_eq_true h4, f5, decide_eq_false h5, hc, f6, decide_eq_true h6, hc, trivial⟩ rfl rfl
          · rw [show mnI k4 k6 = k4 from if_neg h6]
            exact runF_calls mix (l14_4_01100 st cap a b d e k1 k2 k3 k4 k5 k6 e1 e2 e3 e4 e5 e6) ⟨wr, hc, f1, f2, decide_eq_false h2, f3, decide_eq_true h3, hc, f4, decide_eq_true h4, f5, decide_eq_false h5, hc, f6, decide_eq_false h6, hc, trivial⟩ rfl rfl
      · rw [show mnI k3 k4 = k3 from if_neg h4]
        by_cases h5 : k5 < k3
        · rw [show mnI k3 k5 = k5 from if_pos h5]
          by_cases h6 : k6 < k5
          · rw [show mnI k5 k6 = k6 from if_pos h6]
            exact runF_calls mix (l14_4_01011 st cap a b d e k1 k2 k3 k4 k5 k6 e1 e2 e3 e4 e5 e6) ⟨wr, hc, f1, f2, decide_eq_false h2, f3, decide_eq_true h3, hc, f4, decide_eq_false h4, f5, decide_eq_true h5, hc, f6, decide_eq_true h6, hc, trivial⟩ rfl rfl
          · rw [show mnI k5 k6 = k5 from if_neg h6]
            exact runF_calls mix (l14_4_01010 st cap a b d e k1 k2 k3 k4 k5 k6 e1 e2 e3 e4 e5 e6) ⟨wr, hc, f1, f2, decide_eq_false h2, f3, decide_eq_true h3, hc, f4, decide_eq_false h4, f5, decide_eq_true h5, hc, f6, decide_eq_false h6, hc, trivial⟩ rfl rfl
        · rw [show mnI k3 k5 = k3 from if_neg h5]
          by_cases h6 : k6 < k3
          · rw [show mnI k3 k6 = k6 from if_pos h6]
            exact runF_calls mix (l14_4_01001 st cap a b d e k1 k2 k3 k4 k5 k6 e1 e2 e3 e4 e5 e6) ⟨wr, hc, f1, f2, decide_eq_false h2, f3, decide_eq_true h3, hc, f4, decide_eq_false h4, f5, decide_eq_false h5, hc, f6, decide_eq_true h6, hc, trivial⟩ rfl rfl
          · rw [show mnI k3 k6 = k3 from if_neg h6]
            exact runF_calls mix (l14_4_01000 st cap a b d e k1 k2 k3 k4 k5 k6 e1 e2 e3 e4 e5 e6) ⟨wr, hc, f1, f2, decide_eq_false h2, f3, decide_eq_true h3, hc, f4, decide_eq_false h4, f5, decide_eq_false h5, hc, f6, decide_eq_false h6, hc, trivial⟩ rfl rfl
    · rw [show mnI k1 k3 = k1 from if_neg h3]
      by_cases h4 : k4 < k1
      · rw [show mnI k1 k4 = k4 from if_pos h4]
        by_cases h5 : k5 < k4
        · rw [show mnI k4 k5 = k5 from if_pos h5]
          by_cases h6 : k6 < k5
          · rw [show mnI k5 k6 = k6 from if_pos h6]
            exact runF_calls mix (l14_4_00111 st cap a b d e k1 k2 k3 k4 k5 k6 e1 e2 e3 e4 e5 e6) ⟨wr, hc, f1, f2, decide_eq_false h2, f3, decide_eq_false h3, hc, f4, decide_eq_true h4, f5, decide_eq_true h5, hc, f6, decide_eq_true h6, hc, trivial⟩ rfl rfl
          · rw [show mnI k5 k6 = k5 from if_neg h6]
            exact runF_calls mix (l14_4_00110 st cap a b d e k1 k2 k3 k4 k5 k6 e1 e2 e3 e4 e5 e6) ⟨wr, hc, f1, f2, decide_eq_false h2, f3, decide_eq_false h3, hc, f4, decide_eq_true h4, f5, decide_eq_true h5, hc, f6, decide_eq_false h6, hc, trivial⟩ rfl rfl
        · rw [show mnI k4 k5 = k4 from if_neg h5]
          by_cases h6 : k6 < k4
          · rw [show mnI k4 k6 = k6 from if_pos h6]
            exact runF_calls mix (l14_4_00101 st cap a b d e k1 k2 k3 k4 k5 k6 e1 e2 e3 e4 e5 e6) ⟨wr, hc, f1, f2, decide_eq_false h2, f3, decide_eq_false h3, hc, f4, decide_eq_true h4, f5, decide_eq_false h5, hc, f6, decide_eq_true h6, hc, trivial⟩ rfl rfl
          · rw [show mnI k4 k6 = k4 from if_neg h6]
            exact runF_calls mix (l14_4_00100 st cap a b d e k1 k2 k3 k4 k5 k6 e1 e2 e3 e4 e5 e6) ⟨wr, hc, f1, f2, decide_eq_false h2, f3, decide_eq_false h3, hc, f4, decide_eq_true h4, f5, decide_eq_false h5, hc, f6, decide_eq_false h6, hc, trivial⟩ rfl rfl
      · rw [show mnI k1 k4 = k1 from if_neg h4]
        by_cases h5 : k5 < k1
        · rw [show mnI k1 k5 = k5 from if_pos h5]
          by_cases h6 : k6 < k5
          · rw [show mnI k5 k6 = k6 from if_pos h6]
            exact runF_calls mix (l14_4_00011 st cap a b d e k1 k2 k3 k4 k5 k6 e1 e2 e3 e4 e5 e6) ⟨wr, hc, f1, f2, decide_eq_false h2, f3, decide_eq_false h3, hc, f4, decide_eq_false h4, f5, decide_eq_true h5, hc, f6, decide_eq_true h6, hc, trivial⟩ rfl rfl
          · rw [show mnI k5 k6 = k5 from if_neg h6]
            exact runF_calls mix (l14_4_00010 st cap a b d e k1 k2 k3 k4 k5 k6 e1 e2 e3 e4 e5 e6) ⟨wr, hc, f1, f2, decide_eq_false h2, f3, decide_eq_false h3, hc, f4, decide_eq_false h4, f5, decide_eq_true h5, hc, f6, decide_eq_false h6, hc, trivial⟩ rfl rfl
        · rw [show mnI k1 k5 = k1 from if_neg h5]
          by_cases h6 : k6 < k1
          · rw [show mnI k1 k6 = k6 from if_pos h6]
            exact runF_calls mix (l14_4_00001 st cap a b d e k1 k2 k3 k4 k5 k6 e1 e2 e3 e4 e5 e6) ⟨wr, hc, f1, f2, decide_eq_false h2, f3, decide_eq_false h3, hc, f4, decide_eq_false h4, f5, decide_eq_false h5, hc, f6, decide_eq_true h6, hc, trivial⟩ rfl rfl
          · rw [show mnI k1 k6 = k1 from if_neg h6]
            exact runF_calls mix (l14_4_00000 st cap a b d e k1 k2 k3 k4 k5 k6 e1 e2 e3 e4 e5 e6) ⟨wr, hc, f1, f2, decide_eq_false h2, f3, decide_eq_false h3, hc, f4, decide_eq_false h4, f5, decide_eq_false h5, hc, f6, decide_eq_false h6, hc, trivial⟩ rfl rfl
theorem ren_sv' (st : Int) : ∀ (β : Num) (s : Value), renA β #[sv st s] = #[sv st (ren β s)] := fun _ _ => rfl
/-- The program's least way, wherever the list lies. -/
theorem least_at (st : Int) (L : List Bd) : AtW Try.prog 14 (fun s => #[sv st s]) L (tpL (leastV st L)) := by
  unfold leastV
  cases hr : rightV st L
  · rw [if_neg (by decide)]
    refine at_of_win (ren_sv st) rfl (fun off cap hl hc => ?_)
    have wr : CallsV Try.prog (.func 15) #[sv st (slw 1 off L.length cap)] (HWb off L) (rt (bb (rightV st L))) (HWb off L) := by
      refine at_calls (right_at st L) (ren_sv st) rfl (fun β w hR => ?_)
      obtain ⟨h1, h2⟩ := (hR.lies 1 _ rfl).2.1 rfl
      exact ⟨(β 1).1, off, cap, by simp only [ren, renP, shf0 h1, Nat.add_zero, capR_ne (x := β 1) (cap_ne hc)], hl, hc, h2⟩
    rw [hr] at wr
    exact runF_calls mix (l14_no st off L.length cap _) ⟨wr, trivial⟩ rfl rfl
  · rw [if_pos rfl]
    have hr' := rightV_iff.1 hr
    refine at_of_seen (ren_sv st) rfl (fun cap hl hc => ?_)
    have wr : CallsV Try.prog (.func 15) #[sv st (slw 1 0 L.length cap)] [(1, wob L)] (rt (bb (rightV st L))) [(1, wob L)] := at_seen (right_at st L) (ren_sv st) rfl rfl hl hc
    rw [hr] at wr
    match L, hr', wr, hl with
    | [a], _, wr, hl => exact least_1 st a cap ⟨hl, hc⟩ wr
    | [a, b], _, wr, hl => exact least_2 st a b cap ⟨hl, hc⟩ wr
    | [a, b, d], _, wr, hl => exact least_3 st a b d cap ⟨hl, hc⟩ wr
    | [a, b, d, e], _, wr, hl => exact least_4 st a b d e cap ⟨hl, hc⟩ wr
    | [], h, _, _ => exact absurd h.2.1.1 (by decide)
    | _ :: _ :: _ :: _ :: _ :: r, h, _, _ => exact absurd h.2.1.2 (by simp)
theorem least_nil (st : Int) : PureX Try.prog 14 #[sv st sl0] (rt (tpL (0, false))) := runF_pure mix (l14_nil st) ⟨right_nil st, trivial⟩ rfl rfl
end Go.Proofs.Ytmikjgflenbljaa
