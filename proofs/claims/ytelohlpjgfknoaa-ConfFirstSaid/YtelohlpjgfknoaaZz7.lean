/- Texts of the seat, joined. -/
import Derived.Test.YtelohlpjgfknoaaZz6
/- What the document says of noughts, and of one body: a closed run. -/
namespace Go.Proofs.Ytelohlpjgfknoaa
open Go Go.RowKit
set_option linter.unusedSimpArgs false
set_option linter.unusedVariables false
set_option maxRecDepth 100000

theorem runF_pure {P : Program} (hmix : P.follows .mixedOrders = true) {n : Nat} {keep : List Nat} {f : Nat} {args : Array Value} {orc : List (Option Bool)} {ans : List (Nat × Res)} {bls : List (Nat × Res × Hp)} {lds : List (List Value)} {r : Res} {obl : List Prop}
    (h : runF P n keep f args [] orc ans bls lds = some (r, [], obl)) (ho : AllP obl) (ha : wfA noB args = true) (hr : resOK noB r = true) : PureX P f args r := by
  intro w
  have := runF_calls hmix h ho ha rfl idN w (Rel.nil _ _ _)
  have ha2 : renA idN args = args := renA_plain _ ha
  simp only [ha2] at this
  refine this.mono ?_
  rintro e w' ⟨β', _, rfl, hR⟩
  refine ⟨?_, hR.kp.below (Nat.le_refl _) ?_⟩
  · cases r with
    | ret v =>
      simp only [Res.out]
      rw [ren_plain β' hr, ren_plain _ hr]
    | pan ch => rfl
  · rintro k ⟨i, hi, _⟩
    cases hi
theorem wakes_raw : runF Try.prog 1000 [] 8 #[] [] [] [] [] [] = some (rt (bb true), [], []) := by kernel_rfl
theorem wakes_c : PureX Try.prog 8 #[] (rt (bb true)) := runF_pure mix wakes_raw trivial rfl rfl
end Go.Proofs.Ytelohlpjgfknoaa
