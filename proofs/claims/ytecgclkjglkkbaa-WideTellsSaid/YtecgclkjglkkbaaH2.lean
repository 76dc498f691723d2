/- Two listed blocks are two. -/
import Derived.Test.YtecgclkjglkkbaaH1
namespace Go.Proofs.Ytecgclkjglkkbaa
open Go Go.RowKit Go.Shelf
set_option linter.unusedSimpArgs false
set_option linter.unusedVariables false

theorem lv_dis {w W : World} {l : List (Nat × Obj)} (h : Lv w l W) {i j : Nat} {p q : Nat × Obj} (hij : i < j) (hi : l[i]? = some p) (hj : l[j]? = some q) : q.1 ≠ p.1 := by
  obtain ⟨h1, rfl⟩ := List.getElem?_eq_some_iff.1 hi
  obtain ⟨h2, rfl⟩ := List.getElem?_eq_some_iff.1 hj
  exact List.pairwise_iff_getElem.1 h.2.1 i j h1 h2 hij

end Go.Proofs.Ytecgclkjglkkbaa
