/- Texts of the seat, joined. -/
import Derived.Test.YtmikjgflenbljaaZz17
import Derived.Test.YtmikjgflenbljaaZz16
/- May a state be: the program's answer, and the document's. -/
namespace Go.Proofs.Ytmikjgflenbljaa
open Go Go.RowKit
set_option linter.unusedSimpArgs false
set_option linter.unusedVariables false
set_option maxRecDepth 100000

theorem may_a (m : Int) : runF Try.prog 1000 [] 22 #[ii m] [] [f, n] [] [] [] =
    some (rt (bb (false)), [], [(decide (1 ≤ m)) = false]) := by kernel_rfl
theorem may_b (m : Int) : runF Try.prog 1000 [] 22 #[ii m] [] [t, n] [] [] [] =
    some (rt (bb (decide (m ≤ 4))), [], [(decide (1 ≤ m)) = true]) := by kernel_rfl
theorem long_raw (m : Int) : runF Try.prog 1000 [] 19 #[ii m] [] [] [] [] [] =
    some (rt (ii (wi (2 + wi (6 * m)))), [], []) := by kernel_rfl
theorem nof_raw (b : Bd) : runF Try.prog 1000 [] 30 #[bv b] [] [] [] [] [] =
    some (rt (bv b), [], []) := by kernel_rfl
theorem r15_a (st : Int) (off n' cap : Nat) (c : Array Value) : runF Try.prog 1000 [1] 15 #[sv st (slw 1 off n' cap)] [(1, win off c)] [f, n, n, n, n, n, n, n, n] [] [] [] =
    some (rt (bb (false)), [(1, win off c)], [(decide (Int.neg 1073741824 ≤ st)) = false]) := by kernel_rfl
theorem r15_b (st : Int) (off n' cap : Nat) (c : Array Value) : runF Try.prog 1000 [1] 15 #[sv st (slw 1 off n' cap)] [(1, win off c)] [t, n, n, f, n, n, n, n, n] [] [] [] =
    some (rt (bb (false)), [(1, win off c)], [(decide (Int.neg 1073741824 ≤ st)) = true, (decide (st ≤ 1073741824)) = false]) := by kernel_rfl
theorem r15_c (st : Int) (p : Bool) (off n' cap : Nat) (c : Array Value) : runF Try.prog 1000 [1] 15 #[sv st (slw 1 off n' cap)] [(1, win off c)] [t, n, n, t, n, n, n, f, n] [(22, rt (bb p))] [] [] =
    some (rt (bb (false)), [(1, win off c)], [(decide (Int.neg 1073741824 ≤ st)) = true, (decide (st ≤ 1073741824)) = true, PureX Try.prog 22 #[ii ((n' : Int))] (rt (bb (p))), (p) = false]) := by kernel_rfl
theorem r15_d (st : Int) (p q : Bool) (off n' cap : Nat) (c : Array Value) : runF Try.prog 1000 [1] 15 #[sv st (slw 1 off n' cap)] [(1, win off c)] [t, n, n, t, n, n, n, t, n] [(22, rt (bb p))] [(16, rt (bb q), [(1, win off c)])] [] =
    some (rt (bb (q)), [(1, win off c)], [(decide (Int.neg 1073741824 ≤ st)) = true, (decide (st ≤ 1073741824)) = true, PureX Try.prog 22 #[ii ((n' : Int))] (rt (bb (p))), (p) = true, CallsV Try.prog (.func 16) #[sv st (slw 1 off n' cap), ii 1048576, ii 65536] [(1, win off c)] (rt (bb q)) [(1, win off c)]]) := by kernel_rfl
theorem r15n (st : Int) (p : Bool) : runF Try.prog 1000 [] 15 #[sv st sl0] [] [t, n, n, t, n, n, n, f, n] [(22, rt (bb p))] [] [] =
    some (rt (bb (false)), [], [(decide (Int.neg 1073741824 ≤ st)) = true, (decide (st ≤ 1073741824)) = true, PureX Try.prog 22 #[ii (0)] (rt (bb (p))), (p) = false]) := by kernel_rfl
theorem r15n_a (st : Int) : runF Try.prog 1000 [] 15 #[sv st sl0] [] [f, n, n, n, n, n, n, n, n] [] [] [] =
    some (rt (bb (false)), [], [(decide (Int.neg 1073741824 ≤ st)) = false]) := by kernel_rfl
theorem r15n_b (st : Int) : runF Try.prog 1000 [] 15 #[sv st sl0] [] [t, n, n, f, n, n, n, n, n] [] [] [] =
    some (rt (bb (false)), [], [(decide (Int.neg 1073741824 ≤ st)) = true, (decide (st ≤ 1073741824)) = false]) := by kernel_rfl
theorem r9_a (st : Int) (off n' cap : Nat) (c : Array Value) : runF Try.prog 1000 [1] 9 #[sv st (slw 1 off n' cap)] [(1, win off c)] [f, n, n, n, n, n, n, n, n, n, n, n, n] [] [] [] =
    some (rt (bb (false)), [(1, win off c)], [(decide (Int.neg 1073741824 ≤ st)) = false]) := by kernel_rfl
theorem r9_b (st : Int) (off n' cap : Nat) (c : Array Value) : runF Try.prog 1000 [1] 9 #[sv st (slw 1 off n' cap)] [(1, win off c)] [t, n, n, f, n, n, n, n, n, n, n, n, n] [] [] [] =
    some (rt (bb (false)), [(1, win off c)], [(decide (Int.neg 1073741824 ≤ st)) = true, (decide (st ≤ 1073741824)) = false]) := by kernel_rfl
theorem r9_c (st : Int) (off n' cap : Nat) (c : Array Value) : runF Try.prog 1000 [1] 9 #[sv st (slw 1 off n' cap)] [(1, win off c)] [t, n, n, t, n, n, n, f, n, n, n, n, n] [] [] [] =
    some (rt (bb (false)), [(1, win off c)], [(decide (Int.neg 1073741824 ≤ st)) = true, (decide (st ≤ 1073741824)) = true, (decide (1 ≤ (n' : Int))) = false]) := by kernel_rfl
theorem r9_d (st : Int) (off n' cap : Nat) (c : Array Value) : runF Try.prog 1000 [1] 9 #[sv st (slw 1 off n' cap)] [(1, win off c)] [t, n, n, t, n, n, n, t, n, n, n, f, n] [] [] [] =
    some (rt (bb (false)), [(1, win off c)], [(decide (Int.neg 1073741824 ≤ st)) = true, (decide (st ≤ 1073741824)) = true, (decide (1 ≤ (n' : Int))) = true, (decide ((n' : Int) ≤ 4)) = false]) := by kernel_rfl
theorem r9_e (st : Int) (q : Bool) (off n' cap : Nat) (c : Array Value) : runF Try.prog 1000 [1] 9 #[sv st (slw 1 off n' cap)] [(1, win off c)] [t, n, n, t, n, n, n, t, n, n, n, t, n] [] [(21, rt (bb q), [(1, win off c)])] [] =
    some (rt (bb (q)), [(1, win off c)], [(decide (Int.neg 1073741824 ≤ st)) = true, (decide (st ≤ 1073741824)) = true, (decide (1 ≤ (n' : Int))) = true, (decide ((n' : Int) ≤ 4)) = true, CallsV Try.prog (.func 21) #[sv st (slw 1 off n' cap), ii 1048576, ii 65536] [(1, win off c)] (rt (bb q)) [(1, win off c)]]) := by kernel_rfl
theorem r9n_a (st : Int) : runF Try.prog 1000 [] 9 #[sv st sl0] [] [f, n, n, n, n, n, n, n, n, n, n, n, n] [] [] [] =
    some (rt (bb (false)), [], [(decide (Int.neg 1073741824 ≤ st)) = false]) := by kernel_rfl
theorem r9n_b (st : Int) : runF Try.prog 1000 [] 9 #[sv st sl0] [] [t, n, n, f, n, n, n, n, n, n, n, n, n] [] [] [] =
    some (rt (bb (false)), [], [(decide (Int.neg 1073741824 ≤ st)) = true, (decide (st ≤ 1073741824)) = false]) := by kernel_rfl
theorem r9n_c (st : Int) : runF Try.prog 1000 [] 9 #[sv st sl0] [] [t, n, n, t, n, n, n, n, n, n, n, n, n] [] [] [] =
    some (rt (bb (false)), [], [(decide (Int.neg 1073741824 ≤ st)) = true, (decide (st ≤ 1073741824)) = true]) := by kernel_rfl

theorem runF_pure {P : Program} (hmix : P.follows .mixedOrders = true) {n : Nat} {keep : List Nat} {f : Nat} {args : Array Value} {orc : List (Option Bool)} {ans : List (Nat × Res)} {bls : List (Nat × Res × Hp)} {lds : List (List Value)} {r : Res} {obl : List Prop}
    (h : runF P n keep f args [] orc ans bls lds = some (r, [], obl)) (ho : AllP obl) (ha : wfA noB args = true) (hr : resOK noB r = true) : PureX P f args r := by
  intro w
  have := runF_calls hmix h ho ha rfl idN w (Rel.nil _ _ _)
  have ha2 : renA idN args = args := renA_plain _ ha
  simp only [ha2] at this
  refine this.mono ?_
  rintro e w' ⟨β', _, rfl, hR⟩
  refine ⟨?_, hR.kp.below (Nat.le_refl _) ?_⟩
  · cases r with
    | ret v =>
      simp only [Res.out]
      rw [ren_plain β' hr, ren_plain _ hr]
    | pan ch => rfl
  · rintro k ⟨i, hi, _⟩
    cases hi
theorem may_v (n : Int) : PureX Try.prog 22 #[ii n] (rt (bb (decide (1 ≤ n) && decide (n ≤ 4)))) := by
  by_cases h : 1 ≤ n
  · rw [decide_eq_true h, Bool.true_and]
    exact runF_pure mix (may_b n) ⟨decide_eq_true h, trivial⟩ rfl rfl
  · rw [decide_eq_false h, Bool.false_and]
    exact runF_pure mix (may_a n) ⟨decide_eq_false h, trivial⟩ rfl rfl
theorem long_v (n : Int) : PureX Try.prog 19 #[ii n] (rt (ii (wi (2 + wi (6 * n))))) := runF_pure mix (long_raw n) trivial rfl rfl
/-- May a state be? -/
def rightV (st : Int) (L : List Bd) : Bool := decide (-1073741824 ≤ st) && (decide (st ≤ 1073741824) && ((decide (1 ≤ (L.length : Int)) && decide ((L.length : Int) ≤ 4)) && L.all (bwth 1048576 65536)))
theorem rightV_iff {st : Int} {L : List Bd} : rightV st L = true ↔ (-1073741824 ≤ st ∧ st ≤ 1073741824) ∧ (1 ≤ L.length ∧ L.length ≤ 4) ∧ ∀ b ∈ L, bwth 1048576 65536 b = true := by
  unfold rightV
  simp only [Bool.and_eq_true, decide_eq_true_eq, List.all_eq_true]
  constructor
  · rintro ⟨h1, h2, ⟨h3, h4⟩, h5⟩
    exact ⟨⟨h1, h2⟩, ⟨by omega, by omega⟩, h5⟩
  · rintro ⟨⟨h1, h2⟩, ⟨h3, h4⟩, h5⟩
    exact ⟨h1, h2, ⟨by omega, by omega⟩, h5⟩
theorem ren_sv (st : Int) : ∀ (β : Num) (s : Value), renA β #[sv st s] = #[sv st (ren β s)] := fun _ _ => rfl
theorem right_at (st : Int) (L : List Bd) : AtW Try.prog 15 (fun s => #[sv st s]) L (bb (rightV st L)) := by
  refine at_of_win (ren_sv st) rfl (fun off cap hl hc => ?_)
  have hm := may_v (L.length : Int)
  have hw := sw_w st (b1 := 1048576) (b2 := 65536) ⟨by decide, by decide⟩ ⟨by decide, by decide⟩ off cap L (Nat.le_trans hl hc)
  unfold rightV
  by_cases h1 : -1073741824 ≤ st
  · by_cases h2 : st ≤ 1073741824
    · rw [decide_eq_true h1, decide_eq_true h2, Bool.true_and, Bool.true_and]
      generalize hp : (decide (1 ≤ (L.length : Int)) && decide ((L.length : Int) ≤ 4)) = p at *
      cases p
      · exact runF_calls mix (r15_c st _ off L.length cap _) ⟨decide_eq_true h1, decide_eq_true h2, hm, rfl, trivial⟩ rfl rfl
      · rw [Bool.true_and]
        exact runF_calls mix (r15_d st _ _ off L.length cap _) ⟨decide_eq_true h1, decide_eq_true h2, hm, rfl, hw, trivial⟩ rfl rfl
    · rw [decide_eq_false h2, Bool.false_and, Bool.and_false]
      exact runF_calls mix (r15_b st off L.length cap _) ⟨decide_eq_true h1, decide_eq_false h2, trivial⟩ rfl rfl
  · rw [decide_eq_false h1, Bool.false_and]
    exact runF_calls mix (r15_a st off L.length cap _) ⟨decide_eq_false h1, trivial⟩ rfl rfl
theorem right_nil (st : Int) : PureX Try.prog 15 #[sv st sl0] (rt (bb false)) := by
  by_cases h1 : -1073741824 ≤ st
  · by_cases h2 : st ≤ 1073741824
    · exact runF_pure mix (r15n st _) ⟨decide_eq_true h1, decide_eq_true h2, may_v 0, rfl, trivial⟩ rfl rfl
    · exact runF_pure mix (r15n_b st) ⟨decide_eq_true h1, decide_eq_false h2, trivial⟩ rfl rfl
  · exact runF_pure mix (r15n_a st) ⟨decide_eq_false h1, trivial⟩ rfl rfl
theorem rright_at (st : Int) (L : List Bd) : AtW Try.prog 9 (fun s => #[sv st s]) L (bb (rightV st L)) := by
  refine at_of_win (ren_sv st) rfl (fun off cap hl hc => ?_)
  have hw := rw_w st off cap L (Nat.le_trans hl hc)
  unfold rightV
  by_cases h1 : -1073741824 ≤ st
  · by_cases h2 : st ≤ 1073741824
    · rw [decide_eq_true h1, decide_eq_true h2, Bool.true_and, Bool.true_and]
      by_cases h3 : 1 ≤ (L.length : Int)
      · by_cases h4 : (L.length : Int) ≤ 4
        · rw [decide_eq_true h3, decide_eq_true h4, Bool.true_and, Bool.true_and]
          exact runF_calls mix (r9_e st _ off L.length cap _) ⟨decide_eq_true h1, decide_eq_true h2, decide_eq_true h3, decide_eq_true h4, hw, trivial⟩ rfl rfl
        · rw [decide_eq_true h3, decide_eq_false h4, Bool.and_false, Bool.false_and]
          exact runF_calls mix (r9_d st off L.length cap _) ⟨decide_eq_true h1, decide_eq_true h2, decide_eq_true h3, decide_eq_false h4, trivial⟩ rfl rfl
      · rw [decide_eq_false h3, Bool.false_and, Bool.false_and]
        exact runF_calls mix (r9_c st off L.length cap _) ⟨decide_eq_true h1, decide_eq_true h2, decide_eq_false h3, trivial⟩ rfl rfl
    · rw [decide_eq_false h2, Bool.false_and, Bool.and_false]
      exact runF_calls mix (r9_b st off L.length cap _) ⟨decide_eq_true h1, decide_eq_false h2, trivial⟩ rfl rfl
  · rw [decide_eq_false h1, Bool.false_and]
    exact runF_calls mix (r9_a st off L.length cap _) ⟨decide_eq_false h1, trivial⟩ rfl rfl
theorem rright_nil (st : Int) : PureX Try.prog 9 #[sv st sl0] (rt (bb false)) := by
  by_cases h1 : -1073741824 ≤ st
  · by_cases h2 : st ≤ 1073741824
    · exact runF_pure mix (r9n_c st) ⟨decide_eq_true h1, decide_eq_true h2, trivial⟩ rfl rfl
    · exact runF_pure mix (r9n_b st) ⟨decide_eq_true h1, decide_eq_false h2, trivial⟩ rfl rfl
  · exact runF_pure mix (r9n_a st) ⟨decide_eq_false h1, trivial⟩ rfl rfl

end Go.Proofs.Ytmikjgflenbljaa
