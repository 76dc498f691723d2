/- Texts of the seat, joined. -/
import Derived.Test.YtpllklojcjhjaaaZz5
/- The document's Within, over a list of bodies that lies in a window, of the greatest box and speed. -/
namespace Go.Proofs.Ytpllklojcjhjaaa
open Go Go.RowKit
set_option linter.unusedSimpArgs false
set_option linter.unusedVariables false
set_option maxRecDepth 100000

noncomputable def b21 : Code := match Try.f24.body with | some c => c | none => .skip
noncomputable def RL : Code := cK (cK (cB (cA (cB b21))))
def QI (s : Int) (sl : Value) (i : Int) (X : Nat → Value) : List Value := [sv s sl, ii 1048576, ii 65536, ptr 3000, ud, ud, bb false, ii i, X 8, X 9, X 10, X 11, X 12, X 13, X 14, X 15, X 16, X 17, X 18, X 19, X 20, X 21, X 22, X 23, X 24, X 25, X 26, X 27, X 28, X 29, X 30, X 31, X 32, X 33, X 34, X 35, X 36, X 37, X 38, X 39, X 40, X 41, X 42, X 43, X 44, X 45, X 46, X 47, X 48, X 49, X 50, X 51, X 52, X 53, X 54, X 55, X 56, X 57, X 58, X 59, X 60, X 61, X 62, X 63, X 64, X 65]
theorem b21_eq : Try.f24.body = some (.seq (cA b21) (.seq (.seq (cA (cA (cB b21))) (.block 0 (.loop RL))) (cB (cB b21)))) := by kernel_rfl
/-- The six numbers of a body, as cells. -/
theorem cwb_at (off : Nat) {L : List Bd} {i : Nat} {x : Bd} (h : L[i]? = some x) : ∀ j, j < 6 → (cwb off L)[off + i * 6 + j]? = (fl6 x)[j]? := fun j hj => by
  rw [← cwb_take off h, List.getElem?_take_of_lt hj, List.getElem?_drop, Array.getElem?_toList]
section
variable (off n' cap : Nat) (c : Array Value) (s i : Int) (b : Bd) (X : Nat → Value)
theorem p21_0 : runLS Try.prog 3000 (cA b21) (frame0 Try.f24 #[sv s (slw 1 off n' cap), ii 1048576, ii 65536]) [(1, win off c)] [] [] [] [] = some (.normal, [sv s (slw 1 off n' cap), ii 1048576, ii 65536, ptr 3000, ud, ud, bb false] ++ List.replicate 59 ud, HS s (slw 1 off n' cap) off c, []) := by kernel_rfl
theorem p21_1 : runLS Try.prog 3001 (cA (cA (cB b21))) ([sv s (slw 1 off n' cap), ii 1048576, ii 65536, ptr 3000, ud, ud, bb false] ++ List.replicate 59 ud) (HS s (slw 1 off n' cap) off c) [] [] [] [] = some (.normal, QI s (slw 1 off n' cap) 0 (fun _ => ud), HS s (slw 1 off n' cap) off c, []) := by kernel_rfl
theorem p21_x : ∃ Y, runLS Try.prog 4000 RL (QI s (slw 1 off n' cap) i X) (HS s (slw 1 off n' cap) off c) [f] [] [] [] = some (.exit 0, QI s (slw 1 off n' cap) i Y, HS s (slw 1 off n' cap) off c, [decide (i < (n' : Int)) = false]) :=
  ⟨lt (runLS Try.prog 4000 RL (QI s (slw 1 off n' cap) i X) (HS s (slw 1 off n' cap) off c) [f] [] [] []), by kernel_rfl⟩
theorem p21_e : ∃ T, runLS Try.prog 4000 (cB (cB b21)) (QI s (slw 1 off n' cap) i X) (HS s (slw 1 off n' cap) off c) [] [] [] [] = some (.ret, T, HS s (slw 1 off n' cap) off c, []) ∧ vresults Try.prog Try.f24 T (HS s (slw 1 off n' cap) off c) = some (bb true) :=
  ⟨tmpsOf (runLS Try.prog 4000 (cB (cB b21)) (QI s (slw 1 off n' cap) i X) (HS s (slw 1 off n' cap) off c) [] [] [] []), by kernel_rfl, by kernel_rfl⟩
theorem p21_n0 : ∃ T, runLS Try.prog 4000 RL (QI s (slw 1 off n' cap) i X) (HS s (slw 1 off n' cap) off c) [t, n, n, n, n, n, n, n, t, n, n, n, n, n, n, n, n, n, n] [] [] [[ii b.1.1], [ii b.2.1]] = some (.ret, T, HS s (slw 1 off n' cap) off c, [(decide (i < (n' : Int))) = true, 0 ≤ i ∧ i < (n' : Int), off ≤ off + i.toNat * 6 + 0, c[off + i.toNat * 6 + 0]? = some (ii b.1.1), 0 ≤ i ∧ i < (n' : Int), off ≤ off + i.toNat * 6 + 3, c[off + i.toNat * 6 + 3]? = some (ii b.2.1), (decide (b.1.1 < wi (0 - 1048576))) = true]) ∧ vresults Try.prog Try.f24 T (HS s (slw 1 off n' cap) off c) = some (bb false) :=
  ⟨tmpsOf (runLS Try.prog 4000 RL (QI s (slw 1 off n' cap) i X) (HS s (slw 1 off n' cap) off c) [t, n, n, n, n, n, n, n, t, n, n, n, n, n, n, n, n, n, n] [] [] [[ii b.1.1], [ii b.2.1]]), by kernel_rfl, by kernel_rfl⟩
theorem p21_n1 : ∃ T, runLS Try.prog 4000 RL (QI s (slw 1 off n' cap) i X) (HS s (slw 1 off n' cap) off c) [t, n, n, n, n, n, n, n, f, n, n, t, n, n, n, n, n, n, n] [] [] [[ii b.1.1], [ii b.2.1]] = some (.ret, T, HS s (slw 1 off n' cap) off c, [(decide (i < (n' : Int))) = true, 0 ≤ i ∧ i < (n' : Int), off ≤ off + i.toNat * 6 + 0, c[off + i.toNat * 6 + 0]? = some (ii b.1.1), 0 ≤ i ∧ i < (n' : Int), off ≤ off + i.toNat * 6 + 3, c[off + i.toNat * 6 + 3]? = some (ii b.2.1), (decide (b.1.1 < wi (0 - 1048576))) = false, (decide (1048576 < b.1.1)) = true]) ∧ vresults Try.prog Try.f24 T (HS s (slw 1 off n' cap) off c) = some (bb false) :=
  ⟨tmpsOf (runLS Try.prog 4000 RL (QI s (slw 1 off n' cap) i X) (HS s (slw 1 off n' cap) off c) [t, n, n, n, n, n, n, n, f, n, n, t, n, n, n, n, n, n, n] [] [] [[ii b.1.1], [ii b.2.1]]), by kernel_rfl, by kernel_rfl⟩
theorem p21_n2 : ∃ T, runLS Try.prog 4000 RL (QI s (slw 1 off n' cap) i X) (HS s (slw 1 off n' cap) off c) [t, n, n, n, n, n, n, n, f, n, n, f, n, n, n, t, n, n, n] [] [] [[ii b.1.1], [ii b.2.1]] = some (.ret, T, HS s (slw 1 off n' cap) off c, [(decide (i < (n' : Int))) = true, 0 ≤ i ∧ i < (n' : Int), off ≤ off + i.toNat * 6 + 0, c[off + i.toNat * 6 + 0]? = some (ii b.1.1), 0 ≤ i ∧ i < (n' : Int), off ≤ off + i.toNat * 6 + 3, c[off + i.toNat * 6 + 3]? = some (ii b.2.1), (decide (b.1.1 < wi (0 - 1048576))) = false, (decide (1048576 < b.1.1)) = false, (decide (b.2.1 < wi (0 - 65536))) = true]) ∧ vresults Try.prog Try.f24 T (HS s (slw 1 off n' cap) off c) = some (bb false) :=
  ⟨tmpsOf (runLS Try.prog 4000 RL (QI s (slw 1 off n' cap) i X) (HS s (slw 1 off n' cap) off c) [t, n, n, n, n, n, n, n, f, n, n, f, n, n, n, t, n, n, n] [] [] [[ii b.1.1], [ii b.2.1]]), by kernel_rfl, by kernel_rfl⟩
theorem p21_n3 : ∃ T, runLS Try.prog 4000 RL (QI s (slw 1 off n' cap) i X) (HS s (slw 1 off n' cap) off c) [t, n, n, n, n, n, n, n, f, n, n, f, n, n, n, f, n, n, t] [] [] [[ii b.1.1], [ii b.2.1]] = some (.ret, T, HS s (slw 1 off n' cap) off c, [(decide (i < (n' : Int))) = true, 0 ≤ i ∧ i < (n' : Int), off ≤ off + i.toNat * 6 + 0, c[off + i.toNat * 6 + 0]? = some (ii b.1.1), 0 ≤ i ∧ i < (n' : Int), off ≤ off + i.toNat * 6 + 3, c[off + i.toNat * 6 + 3]? = some (ii b.2.1), (decide (b.1.1 < wi (0 - 1048576))) = false, (decide (1048576 < b.1.1)) = false, (decide (b.2.1 < wi (0 - 65536))) = false, (decide (65536 < b.2.1)) = true]) ∧ vresults Try.prog Try.f24 T (HS s (slw 1 off n' cap) off c) = some (bb false) :=
  ⟨tmpsOf (runLS Try.prog 4000 RL (QI s (slw 1 off n' cap) i X) (HS s (slw 1 off n' cap) off c) [t, n, n, n, n, n, n, n, f, n, n, f, n, n, n, f, n, n, t] [] [] [[ii b.1.1], [ii b.2.1]]), by kernel_rfl, by kernel_rfl⟩
theorem p21_n4 : ∃ T, runLS Try.prog 4000 RL (QI s (slw 1 off n' cap) i X) (HS s (slw 1 off n' cap) off c) [t, n, n, n, n, n, n, n, f, n, n, f, n, n, n, f, n, n, f, n, n, n, n, n, n, n, t, n, n, n, n, n, n, n, n, n, n] [] [] [[ii b.1.1], [ii b.2.1], [ii b.1.2.1], [ii b.2.2.1]] = some (.ret, T, HS s (slw 1 off n' cap) off c, [(decide (i < (n' : Int))) = true, 0 ≤ i ∧ i < (n' : Int), off ≤ off + i.toNat * 6 + 0, c[off + i.toNat * 6 + 0]? = some (ii b.1.1), 0 ≤ i ∧ i < (n' : Int), off ≤ off + i.toNat * 6 + 3, c[off + i.toNat * 6 + 3]? = some (ii b.2.1), (decide (b.1.1 < wi (0 - 1048576))) = false, (decide (1048576 < b.1.1)) = false, (decide (b.2.1 < wi (0 - 65536))) = false, (decide (65536 < b.2.1)) = false, 0 ≤ i ∧ i < (n' : Int), off ≤ off + i.toNat * 6 + 1, c[off + i.toNat * 6 + 1]? = some (ii b.1.2.1), 0 ≤ i ∧ i < (n' : Int), off ≤ off + i.toNat * 6 + 4, c[off + i.toNat * 6 + 4]? = some (ii b.2.2.1), (decide (b.1.2.1 < wi (0 - 1048576))) = true]) ∧ vresults Try.prog Try.f24 T (HS s (slw 1 off n' cap) off c) = some (bb false) :=
  ⟨tmpsOf (runLS Try.prog 4000 RL (QI s (slw 1 off n' cap) i X) (HS s (slw 1 off n' cap) off c) [t, n, n, n, n, n, n, n, f, n, n, f, n, n, n, f, n, n, f, n, n, n, n, n, n, n, t, n, n, n, n, n, n, n, n, n, n] [] [] [[ii b.1.1], [ii b.2.1], [ii b.1.2.1], [ii b.2.2.1]]), by kernel_rfl, by kernel_rfl⟩
theorem p21_n5 : ∃ T, runLS Try.prog 4000 RL (QI s (slw 1 off n' cap) i X) (HS s (slw 1 off n' cap) off c) [t, n, n, n, n, n, n, n, f, n, n, f, n, n, n, f, n, n, f, n, n, n, n, n, n, n, f, n, n, t, n, n, n, n, n, n, n] [] [] [[ii b.1.1], [ii b.2.1], [ii b.1.2.1], [ii b.2.2.1]] = some (.ret, T, HS s (slw 1 off n' cap) off c, [(decide (i < (n' : Int))) = true, 0 ≤ i ∧ i < (n' : Int), off ≤ off + i.toNat * 6 + 0, c[off + i.toNat * 6 + 0]? = some (ii b.1.1), 0 ≤ i ∧ i < (n' : Int), off ≤ off + i.toNat * 6 + 3, c[off + i.toNat * 6 + 3]? = some (ii b.2.1), (decide (b.1.1 < wi (0 - 1048576))) = false, (decide (1048576 < b.1.1)) = false, (decide (b.2.1 < wi (0 - 65536))) = false, (decide (65536 < b.2.1)) = false, 0 ≤ i ∧ i < (n' : Int), off ≤ off + i.toNat * 6 + 1, c[off + i.toNat * 6 + 1]? = some (ii b.1.2.1), 0 ≤ i ∧ i < (n' : Int), off ≤ off + i.toNat * 6 + 4, c[off + i.toNat * 6 + 4]? = some (ii b.2.2.1), (decide (b.1.2.1 < wi (0 - 1048576))) = false, (decide (1048576 < b.1.2.1)) = true]) ∧ vresults Try.prog Try.f24 T (HS s (slw 1 off n' cap) off c) = some (bb false) :=
  ⟨tmpsOf (runLS Try.prog 4000 RL (QI s (slw 1 off n' cap) i X) (HS s (slw 1 off n' cap) off c) [t, n, n, n, n, n, n, n, f, n, n, f, n, n, n, f, n, n, f, n, n, n, n, n, n, n, f, n, n, t, n, n, n, n, n, n, n] [] [] [[ii b.1.1], [ii b.2.1], [ii b.1.2.1], [ii b.2.2.1]]), by kernel_rfl, by kernel_rfl⟩
theorem p21_n6 : ∃ T, runLS Try.prog 4000 RL (QI s (slw 1 off n' cap) i X) (HS s (slw 1 off n' cap) off c) [t, n, n, n, n, n, n, n, f, n, n, f, n, n, n, f, n, n, f, n, n, n, n, n, n, n, f, n, n, f, n, n, n, t, n, n, n] [] [] [[ii b.1.1], [ii b.2.1], [ii b.1.2.1], [ii b.2.2.1]] = some (.ret, T, HS s (slw 1 off n' cap) off c, [(decide (i < (n' : Int))) = true, 0 ≤ i ∧ i < (n' : Int), off ≤ off + i.toNat * 6 + 0, c[off + i.toNat * 6 + 0]? = some (ii b.1.1), 0 ≤ i ∧ i < (n' : Int), off ≤ off + i.toNat * 6 + 3, c[off + i.toNat * 6 + 3]? = some (ii b.2.1), (decide (b.1.1 < wi (0 - 1048576))) = false, (decide (1048576 < b.1.1)) = false, (decide (b.2.1 < wi (0 - 65536))) = false, (decide (65536 < b.2.1)) = false, 0 ≤ i ∧ i < (n' : Int), off ≤ off + i.toNat * 6 + 1, c[off + i.toNat * 6 + 1]? = some (ii b.1.2.1), 0 ≤ i ∧ i < (n' : Int), off ≤ off + i.toNat * 6 + 4, c[off + i.toNat * 6 + 4]? = some (ii b.2.2.1), (decide (b.1.2.1 < wi (0 - 1048576))) = false, (decide (1048576 < b.1.2.1)) = false, (decide (b.2.2.1 < wi (0 - 65536))) = true]) ∧ vresults Try.prog Try.f24 T (HS s (slw 1 off n' cap) off c) = some (bb false) :=
  ⟨tmpsOf (runLS Try.prog 4000 RL (QI s (slw 1 off n' cap) i X) (HS s (slw 1 off n' cap) off c) [t, n, n, n, n, n, n, n, f, n, n, f, n, n, n, f, n, n, f, n, n, n, n, n, n, n, f, n, n, f, n, n, n, t, n, n, n] [] [] [[ii b.1.1], [ii b.2.1], [ii b.1.2.1], [ii b.2.2.1]]), by kernel_rfl, by kernel_rfl⟩
theorem p21_n7 : ∃ T, runLS Try.prog 4000 RL (QI s (slw 1 off n' cap) i X) (HS s (slw 1 off n' cap) off c) [t, n, n, n, n, n, n, n, f, n, n, f, n, n, n, f, n, n, f, n, n, n, n, n, n, n, f, n, n, f, n, n, n, f, n, n, t] [] [] [[ii b.1.1], [ii b.2.1], [ii b.1.2.1], [ii b.2.2.1]] = some (.ret, T, HS s (slw 1 off n' cap) off c, [(decide (i < (n' : Int))) = true, 0 ≤ i ∧ i < (n' : Int), off ≤ off + i.toNat * 6 + 0, c[off + i.toNat * 6 + 0]? = some (ii b.1.1), 0 ≤ i ∧ i < (n' : Int), off ≤ off + i.toNat * 6 + 3, c[off + i.toNat * 6 + 3]? = some (ii b.2.1), (decide (b.1.1 < wi (0 - 1048576))) = false, (decide (1048576 < b.1.1)) = false, (decide (b.2.1 < wi (0 - 65536))) = false, (decide (65536 < b.2.1)) = false, 0 ≤ i ∧ i < (n' : Int), off ≤ off + i.toNat * 6 + 1, c[off + i.toNat * 6 + 1]? = some (ii b.1.2.1), 0 ≤ i ∧ i < (n' : Int), off ≤ off + i.toNat * 6 + 4, c[off + i.toNat * 6 + 4]? = some (ii b.2.2.1), (decide (b.1.2.1 < wi (0 - 1048576))) = false, (decide (1048576 < b.1.2.1)) = false, (decide (b.2.2.1 < wi (0 - 65536))) = false, (decide (65536 < b.2.2.1)) = true]) ∧ vresults Try.prog Try.f24 T (HS s (slw 1 off n' cap) off c) = some (bb false) :=
  ⟨tmpsOf (runLS Try.prog 4000 RL (QI s (slw 1 off n' cap) i X) (HS s (slw 1 off n' cap) off c) [t, n, n, n, n, n, n, n, f, n, n, f, n, n, n, f, n, n, f, n, n, n, n, n, n, n, f, n, n, f, n, n, n, f, n, n, t] [] [] [[ii b.1.1], [ii b.2.1], [ii b.1.2.1], [ii b.2.2.1]]), by kernel_rfl, by kernel_rfl⟩
theorem p21_n8 : ∃ T, runLS Try.prog 4000 RL (QI s (slw 1 off n' cap) i X) (HS s (slw 1 off n' cap) off c) [t, n, n, n, n, n, n, n, f, n, n, f, n, n, n, f, n, n, f, n, n, n, n, n, n, n, f, n, n, f, n, n, n, f, n, n, f, n, n, n, n, n, n, n, t, n, n, n, n, n, n, n, n, n, n] [] [] [[ii b.1.1], [ii b.2.1], [ii b.1.2.1], [ii b.2.2.1], [ii b.1.2.2], [ii b.2.2.2]] = some (.ret, T, HS s (slw 1 off n' cap) off c, [(decide (i < (n' : Int))) = true, 0 ≤ i ∧ i < (n' : Int), off ≤ off + i.toNat * 6 + 0, c[off + i.toNat * 6 + 0]? = some (ii b.1.1), 0 ≤ i ∧ i < (n' : Int), off ≤ off + i.toNat * 6 + 3, c[off + i.toNat * 6 + 3]? = some (ii b.2.1), (decide (b.1.1 < wi (0 - 1048576))) = false, (decide (1048576 < b.1.1)) = false, (decide (b.2.1 < wi (0 - 65536))) = false, (decide (65536 < b.2.1)) = false, 0 ≤ i ∧ i < (n' : Int), off ≤ off + i.toNat * 6 + 1, c[off + i.toNat * 6 + 1]? = some (ii b.1.2.1), 0 ≤ i ∧ i < (n' : Int), off ≤ off + i.toNat * 6 + 4, c[off + i.toNat * 6 + 4]? = some (ii b.2.2.1), (decide (b.1.2.1 < wi (0 - 1048576))) = false, (decide (1048576 < b.1.2.1)) = false, (decide (b.2.2.1 < wi (0 - 65536))) = false, (decide (65536 < b.2.2.1)) = false, 0 ≤ i ∧ i < (n' : Int), off ≤ off + i.toNat * 6 + 2, c[off + i.toNat * 6 + 2]? = some (ii b.1.2.2), 0 ≤ i ∧ i < (n' : Int), off ≤ off + i.toNat * 6 + 5, c[off + i.toNat * 6 + 5]? = some (ii b.2.2.2), (decide (b.1.2.2 < wi (0 - 1048576))) = true]) ∧ vresults Try.prog Try.f24 T (HS s (slw 1 off n' cap) off c) = some (bb false) :=
  ⟨tmpsOf (runLS Try.prog 4000 RL (QI s (slw 1 off n' cap) i X) (HS s (slw 1 off n' cap) off c) [t, n, n, n, n, n, n, n, f, n, n, f, n, n, n, f, n, n, f, n, n, n, n, n, n, n, f, n, n, f, n, n, n, f, n, n, f, n, n, n, n, n, n, n, t, n, n, n, n, n, n, n, n, n, n] [] [] [[ii b.1.1], [ii b.2.1], [ii b.1.2.1], [ii b.2.2.1], [ii b.1.2.2], [ii b.2.2.2]]), by kernel_rfl, by kernel_rfl⟩
theorem p21_n9 : ∃ T, runLS Try.prog 4000 RL (QI s (slw 1 off n' cap) i X) (HS s (slw 1 off n' cap) off c) [t, n, n, n, n, n, n, n, f, n, n, f, n, n, n, f, n, n, f, n, n, n, n, n, n, n, f, n, n, f, n, n, n, f, n, n, f, n, n, n, n, n, n, n, f, n, n, t, n, n, n, n, n, n, n] [] [] [[ii b.1.1], [ii b.2.1], [ii b.1.2.1], [ii b.2.2.1], [ii b.1.2.2], [ii b.2.2.2]] = some (.ret, T, HS s (slw 1 off n' cap) off c, [(decide (i < (n' : Int))) = true, 0 ≤ i ∧ i < (n' : Int), off ≤ off + i.toNat * 6 + 0, c[off + i.toNat * 6 + 0]? = some (ii b.1.1), 0 ≤ i ∧ i < (n' : Int), off ≤ off + i.toNat * 6 + 3, c[off + i.toNat * 6 + 3]? = some (ii b.2.1), (decide (b.1.1 < wi (0 - 1048576))) = false, (decide (1048576 < b.1.1)) = false, (decide (b.2.1 < wi (0 - 65536))) = false, (decide (65536 < b.2.1)) = false, 0 ≤ i ∧ i < (n' : Int), off ≤ off + i.toNat * 6 + 1, c[off + i.toNat * 6 + 1]? = some (ii b.1.2.1), 0 ≤ i ∧ i < (n' : Int), off ≤ off + i.toNat * 6 + 4, c[off + i.toNat * 6 + 4]? = some (ii b.2.2.1), (decide (b.1.2.1 < wi (0 - 1048576))) = false, (decide (1048576 < b.1.2.1)) = false, (decide (b.2.2.1 < wi (0 - 65536))) = false, (decide (65536 < b.2.2.1)) = false, 0 ≤ i ∧ i < (n' : Int), off ≤ off + i.toNat * 6 + 2, c[off + i.toNat * 6 + 2]? = some (ii b.1.2.2), 0 ≤ i ∧ i < (n' : Int), off ≤ off + i.toNat * 6 + 5, c[off + i.toNat * 6 + 5]? = some (ii b.2.2.2), (decide (b.1.2.2 < wi (0 - 1048576))) = false, (decide (1048576 < b.1.2.2)) = true]) ∧ vresults Try.prog Try.f24 T (HS s (slw 1 off n' cap) off c) = some (bb false) :=
  ⟨tmpsOf (runLS Try.prog 4000 RL (QI s (slw 1 off n' cap) i X) (HS s (slw 1 off n' cap) off c) [t, n, n, n, n, n, n, n, f, n, n, f, n, n, n, f, n, n, f, n, n, n, n, n, n, n, f, n, n, f, n, n, n, f, n, n, f, n, n, n, n, n, n, n, f, n, n, t, n, n, n, n, n, n, n] [] [] [[ii b.1.1], [ii b.2.1], [ii b.1.2.1], [ii b.2.2.1], [ii b.1.2.2], [ii b.2.2.2]]), by kernel_rfl, by kernel_rfl⟩
theorem p21_n10 : ∃ T, runLS Try.prog 4000 RL (QI s (slw 1 off n' cap) i X) (HS s (slw 1 off n' cap) off c) [t, n, n, n, n, n, n, n, f, n, n, f, n, n, n, f, n, n, f, n, n, n, n, n, n, n, f, n, n, f, n, n, n, f, n, n, f, n, n, n, n, n, n, n, f, n, n, f, n, n, n, t, n, n, n] [] [] [[ii b.1.1], [ii b.2.1], [ii b.1.2.1], [ii b.2.2.1], [ii b.1.2.2], [ii b.2.2.2]] = some (.ret, T, HS s (slw 1 off n' cap) off c, [(decide (i < (n' : Int))) = true, 0 ≤ i ∧ i < (n' : Int), off ≤ off + i.toNat * 6 + 0, c[off + i.toNat * 6 + 0]? = some (ii b.1.1), 0 ≤ i ∧ i < (n' : Int), off ≤ off + i.toNat * 6 + 3, c[off + i.toNat * 6 + 3]? = some (ii b.2.1), (decide (b.1.1 < wi (0 - 1048576))) = false, (decide (1048576 < b.1.1)) = false, (decide (b.2.1 < wi (0 - 65536))) = false, (decide (65536 < b.2.1)) = false, 0 ≤ i ∧ i < (n' : Int), off ≤ off + i.toNat * 6 + 1, c[off + i.toNat * 6 + 1]? = some (ii b.1.2.1), 0 ≤ i ∧ i < (n' : Int), off ≤ off + i.toNat * 6 + 4, c[off + i.toNat * 6 + 4]? = some (ii b.2.2.1), (decide (b.1.2.1 < wi (0 - 1048576))) = false, (decide (1048576 < b.1.2.1)) = false, (decide (b.2.2.1 < wi (0 - 65536))) = false, (decide (65536 < b.2.2.1)) = false, 0 ≤ i ∧ i < (n' : Int), off ≤ off + i.toNat * 6 + 2, c[off + i.toNat * 6 + 2]? = some (ii b.1.2.2), 0 ≤ i ∧ i < (n' : Int), off ≤ off + i.toNat * 6 + 5, c[off + i.toNat * 6 + 5]? = some (ii b.2.2.2), (decide (b.1.2.2 < wi (0 - 1048576))) = false, (decide (1048576 < b.1.2.2)) = false, (decide (b.2.2.2 < wi (0 - 65536))) = true]) ∧ vresults Try.prog Try.f24 T (HS s (slw 1 off n' cap) off c) = some (bb false) :=
  ⟨tmpsOf (runLS Try.prog 4000 RL (QI s (slw 1 off n' cap) i X) (HS s (slw 1 off n' cap) off c) [t, n, n, n, n, n, n, n, f, n, n, f, n, n, n, f, n, n, f, n, n, n, n, n, n, n, f, n, n, f, n, n, n, f, n, n, f, n, n, n, n, n, n, n, f, n, n, f, n, n, n, t, n, n, n] [] [] [[ii b.1.1], [ii b.2.1], [ii b.1.2.1], [ii b.2.2.1], [ii b.1.2.2], [ii b.2.2.2]]), by kernel_rfl, by kernel_rfl⟩
theorem p21_n11 : ∃ T, runLS Try.prog 4000 RL (QI s (slw 1 off n' cap) i X) (HS s (slw 1 off n' cap) off c) [t, n, n, n, n, n, n, n, f, n, n, f, n, n, n, f, n, n, f, n, n, n, n, n, n, n, f, n, n, f, n, n, n, f, n, n, f, n, n, n, n, n, n, n, f, n, n, f, n, n, n, f, n, n, t] [] [] [[ii b.1.1], [ii b.2.1], [ii b.1.2.1], [ii b.2.2.1], [ii b.1.2.2], [ii b.2.2.2]] = some (.ret, T, HS s (slw 1 off n' cap) off c, [(decide (i < (n' : Int))) = true, 0 ≤ i ∧ i < (n' : Int), off ≤ off + i.toNat * 6 + 0, c[off + i.toNat * 6 + 0]? = some (ii b.1.1), 0 ≤ i ∧ i < (n' : Int), off ≤ off + i.toNat * 6 + 3, c[off + i.toNat * 6 + 3]? = some (ii b.2.1), (decide (b.1.1 < wi (0 - 1048576))) = false, (decide (1048576 < b.1.1)) = false, (decide (b.2.1 < wi (0 - 65536))) = false, (decide (65536 < b.2.1)) = false, 0 ≤ i ∧ i < (n' : Int), off ≤ off + i.toNat * 6 + 1, c[off + i.toNat * 6 + 1]? = some (ii b.1.2.1), 0 ≤ i ∧ i < (n' : Int), off ≤ off + i.toNat * 6 + 4, c[off + i.toNat * 6 + 4]? = some (ii b.2.2.1), (decide (b.1.2.1 < wi (0 - 1048576))) = false, (decide (1048576 < b.1.2.1)) = false, (decide (b.2.2.1 < wi (0 - 65536))) = false, (decide (65536 < b.2.2.1)) = false, 0 ≤ i ∧ i < (n' : Int), off ≤ off + i.toNat * 6 + 2, c[off + i.toNat * 6 + 2]? = some (ii b.1.2.2), 0 ≤ i ∧ i < (n' : Int), off ≤ off + i.toNat * 6 + 5, c[off + i.toNat * 6 + 5]? = some (ii b.2.2.2), (decide (b.1.2.2 < wi (0 - 1048576))) = false, (decide (1048576 < b.1.2.2)) = false, (decide (b.2.2.2 < wi (0 - 65536))) = false, (decide (65536 < b.2.2.2)) = true]) ∧ vresults Try.prog Try.f24 T (HS s (slw 1 off n' cap) off c) = some (bb false) :=
  ⟨tmpsOf (runLS Try.prog 4000 RL (QI s (slw 1 off n' cap) i X) (HS s (slw 1 off n' cap) off c) [t, n, n, n, n, n, n, n, f, n, n, f, n, n, n, f, n, n, f, n, n, n, n, n, n, n, f, n, n, f, n, n, n, f, n, n, f, n, n, n, n, n, n, n, f, n, n, f, n, n, n, f, n, n, t] [] [] [[ii b.1.1], [ii b.2.1], [ii b.1.2.1], [ii b.2.2.1], [ii b.1.2.2], [ii b.2.2.2]]), by kernel_rfl, by kernel_rfl⟩
theorem p21_r : ∃ Y, runLS Try.prog 4000 RL (QI s (slw 1 off n' cap) i X) (HS s (slw 1 off n' cap) off c) [t, n, n, n, n, n, n, n, f, n, n, f, n, n, n, f, n, n, f, n, n, n, n, n, n, n, f, n, n, f, n, n, n, f, n, n, f, n, n, n, n, n, n, n, f, n, n, f, n, n, n, f, n, n, f, n] [] [] [[ii b.1.1], [ii b.2.1], [ii b.1.2.1], [ii b.2.2.1], [ii b.1.2.2], [ii b.2.2.2]] = some (.normal, QI s (slw 1 off n' cap) (wi (i + 1)) Y, HS s (slw 1 off n' cap) off c, [(decide (i < (n' : Int))) = true, 0 ≤ i ∧ i < (n' : Int), off ≤ off + i.toNat * 6 + 0, c[off + i.toNat * 6 + 0]? = some (ii b.1.1), 0 ≤ i ∧ i < (n' : Int), off ≤ off + i.toNat * 6 + 3, c[off + i.toNat * 6 + 3]? = some (ii b.2.1), (decide (b.1.1 < wi (0 - 1048576))) = false, (decide (1048576 < b.1.1)) = false, (decide (b.2.1 < wi (0 - 65536))) = false, (decide (65536 < b.2.1)) = false, 0 ≤ i ∧ i < (n' : Int), off ≤ off + i.toNat * 6 + 1, c[off + i.toNat * 6 + 1]? = some (ii b.1.2.1), 0 ≤ i ∧ i < (n' : Int), off ≤ off + i.toNat * 6 + 4, c[off + i.toNat * 6 + 4]? = some (ii b.2.2.1), (decide (b.1.2.1 < wi (0 - 1048576))) = false, (decide (1048576 < b.1.2.1)) = false, (decide (b.2.2.1 < wi (0 - 65536))) = false, (decide (65536 < b.2.2.1)) = false, 0 ≤ i ∧ i < (n' : Int), off ≤ off + i.toNat * 6 + 2, c[off + i.toNat * 6 + 2]? = some (ii b.1.2.2), 0 ≤ i ∧ i < (n' : Int), off ≤ off + i.toNat * 6 + 5, c[off + i.toNat * 6 + 5]? = some (ii b.2.2.2), (decide (b.1.2.2 < wi (0 - 1048576))) = false, (decide (1048576 < b.1.2.2)) = false, (decide (b.2.2.2 < wi (0 - 65536))) = false, (decide (65536 < b.2.2.2)) = false]) :=
  ⟨lt (runLS Try.prog 4000 RL (QI s (slw 1 off n' cap) i X) (HS s (slw 1 off n' cap) off c) [t, n, n, n, n, n, n, n, f, n, n, f, n, n, n, f, n, n, f, n, n, n, n, n, n, n, f, n, n, f, n, n, n, f, n, n, f, n, n, n, n, n, n, n, f, n, n, f, n, n, n, f, n, n, f, n] [] [] [[ii b.1.1], [ii b.2.1], [ii b.1.2.1], [ii b.2.2.1], [ii b.1.2.2], [ii b.2.2.2]]), by kernel_rfl⟩
end
theorem loop21 (s : Int) (off cap : Nat) (L : List Bd) (hL : L.length ≤ maxLen) : ∀ (j i : Nat) (X : Nat → Value), i + j = L.length →
    ((L.drop i).all (bwth 1048576 65536) = true → ∃ r Y, LoopN Try.prog RL r (QI s (slw 1 off L.length cap) i X) [] (HS s (slw 1 off L.length cap) off (cwb off L)) (.exit 0) (QI s (slw 1 off L.length cap) L.length Y) [] (HS s (slw 1 off L.length cap) off (cwb off L))) ∧
    ((L.drop i).all (bwth 1048576 65536) = false → ∃ r T, LoopN Try.prog RL r (QI s (slw 1 off L.length cap) i X) [] (HS s (slw 1 off L.length cap) off (cwb off L)) .ret T [] (HS s (slw 1 off L.length cap) off (cwb off L)) ∧ vresults Try.prog Try.f24 T (HS s (slw 1 off L.length cap) off (cwb off L)) = some (bb false))
  | 0, i, X, hi => by
    have e : i = L.length := by omega
    subst e
    refine ⟨fun _ => ?_, fun h => ?_⟩
    · obtain ⟨Y, hY⟩ := p21_x off L.length cap (cwb off L) s L.length X
      exact ⟨1, Y, LoopN.last (runLS_step mix hY ⟨decide_eq_false (by omega), trivial⟩)⟩
    · rw [List.drop_length] at h
      cases h
  | j + 1, i, X, hi => by
    have hlt : i < L.length := by omega
    have hx : L[i]? = some L[i] := List.getElem?_eq_getElem hlt
    have hdr : L.drop i = L[i] :: L.drop (i + 1) := List.drop_eq_getElem_cons hlt
    rw [hdr]
    generalize L[i] = x at hx
    have at6 : ∀ d, d < 6 → (cwb off L)[off + (i : Int).toNat * 6 + d]? = (fl6 x)[d]? := cwb_at off hx
    have hix : 0 ≤ (i : Int) ∧ (i : Int) < (L.length : Int) := by omega
    have hw : wi ((i : Int) + 1) = ((i + 1 : Nat) : Int) := by simp only [maxLen] at hL; unfold wi; rw [wrapI (by omega)]; omega
    simp only [List.all_cons]
    have hB : wi (0 - 1048576) = -1048576 := by unfold wi; rw [wrapI (by omega)]; rfl
    have hT : wi (0 - 65536) = -65536 := by unfold wi; rw [wrapI (by omega)]; rfl
    have no : ¬ (((-1048576 ≤ x.1.1 ∧ x.1.1 ≤ 1048576) ∧ (-1048576 ≤ x.1.2.1 ∧ x.1.2.1 ≤ 1048576) ∧ (-1048576 ≤ x.1.2.2 ∧ x.1.2.2 ≤ 1048576)) ∧ ((-65536 ≤ x.2.1 ∧ x.2.1 ≤ 65536) ∧ (-65536 ≤ x.2.2.1 ∧ x.2.2.1 ≤ 65536) ∧ (-65536 ≤ x.2.2.2 ∧ x.2.2.2 ≤ 65536))) → bwth 1048576 65536 x = false := fun h => by
      cases hb : bwth 1048576 65536 x
      · rfl
      · unfold bwth at hb
        rw [Bool.and_eq_true, wth_iff, wth_iff] at hb
        exact absurd hb h
    have bad : ∀ {T : List Value} {orc lds obl}, runLS Try.prog 4000 RL (QI s (slw 1 off L.length cap) i X) (HS s (slw 1 off L.length cap) off (cwb off L)) orc [] [] lds = some (.ret, T, HS s (slw 1 off L.length cap) off (cwb off L), obl) → vresults Try.prog Try.f24 T (HS s (slw 1 off L.length cap) off (cwb off L)) = some (bb false) → AllP obl → bwth 1048576 65536 x = false →
        ((bwth 1048576 65536 x && (L.drop (i + 1)).all (bwth 1048576 65536)) = true → ∃ r Y, LoopN Try.prog RL r (QI s (slw 1 off L.length cap) i X) [] (HS s (slw 1 off L.length cap) off (cwb off L)) (.exit 0) (QI s (slw 1 off L.length cap) L.length Y) [] (HS s (slw 1 off L.length cap) off (cwb off L))) ∧
        ((bwth 1048576 65536 x && (L.drop (i + 1)).all (bwth 1048576 65536)) = false → ∃ r T, LoopN Try.prog RL r (QI s (slw 1 off L.length cap) i X) [] (HS s (slw 1 off L.length cap) off (cwb off L)) .ret T [] (HS s (slw 1 off L.length cap) off (cwb off L)) ∧ vresults Try.prog Try.f24 T (HS s (slw 1 off L.length cap) off (cwb off L)) = some (bb false)) := fun h hv ho hb => by
      rw [hb]
      exact ⟨fun h => (by cases h), fun _ => ⟨1, _, LoopN.lastRet (runLS_step mix h ho), hv⟩⟩
    by_cases w0 : x.1.1 < wi (0 - 1048576)
    · obtain ⟨T, h1, h2⟩ := p21_n0 off L.length cap (cwb off L) s i x X
      exact bad h1 h2 ⟨decide_eq_true hix.2, hix, Nat.le_trans (Nat.le_add_right _ _) (Nat.le_add_right _ _), at6 0 (by decide), hix, Nat.le_trans (Nat.le_add_right _ _) (Nat.le_add_right _ _), at6 3 (by decide), decide_eq_true w0, trivial⟩ (no (by rw [hB] at w0; omega))
    by_cases w1 : 1048576 < x.1.1
    · obtain ⟨T, h1, h2⟩ := p21_n1 off L.length cap (cwb off L) s i x X
      exact bad h1 h2 ⟨decide_eq_true hix.2, hix, Nat.le_trans (Nat.le_add_right _ _) (Nat.le_add_right _ _), at6 0 (by decide), hix, Nat.le_trans (Nat.le_add_right _ _) (Nat.le_add_right _ _), at6 3 (by decide), decide_eq_false w0, decide_eq_true w1, trivial⟩ (no (by omega))
    by_cases w2 : x.2.1 < wi (0 - 65536)
    · obtain ⟨T, h1, h2⟩ := p21_n2 off L.length cap (cwb off L) s i x X
      exact bad h1 h2 ⟨decide_eq_true hix.2, hix, Nat.le_trans (Nat.le_add_right _ _) (Nat.le_add_right _ _), at6 0 (by decide), hix, Nat.le_trans (Nat.le_add_right _ _) (Nat.le_add_right _ _), at6 3 (by decide), decide_eq_false w0, decide_eq_false w1, decide_eq_true w2, trivial⟩ (no (by rw [hT] at w2; omega))
    by_cases w3 : 65536 < x.2.1
    · obtain ⟨T, h1, h2⟩ := p21_n3 off L.length cap (cwb off L) s i x X
      exact bad h1 h2 ⟨decide_eq_true hix.2, hix, Nat.le_trans (Nat.le_add_right _ _) (Nat.le_add_right _ _), at6 0 (by decide), hix, Nat.le_trans (Nat.le_add_right _ _) (Nat.le_add_right _ _), at6 3 (by decide), decide_eq_false w0, decide_eq_false w1, decide_eq_false w2, decide_eq_true w3, trivial⟩ (no (by omega))
    by_cases w4 : x.1.2.1 < wi (0 - 1048576)
    · obtain ⟨T, h1, h2⟩ := p21_n4 off L.length cap (cwb off L) s i x X
      exact bad h1 h2 ⟨decide_eq_true hix.2, hix, Nat.le_trans (Nat.le_add_right _ _) (Nat.le_add_right _ _), at6 0 (by decide), hix, Nat.le_trans (Nat.le_add_right _ _) (Nat.le_add_right _ _), at6 3 (by decide), decide_eq_false w0, decide_eq_false w1, decide_eq_false w2, decide_eq_false w3, hix, Nat.le_trans (Nat.le_add_right _ _) (Nat.le_add_right _ _), at6 1 (by decide), hix, Nat.le_trans (Nat.le_add_right _ _) (Nat.le_add_right _ _), at6 4 (by decide), decide_eq_true w4, trivial⟩ (no (by rw [hB] at w4; omega))
    by_cases w5 : 1048576 < x.1.2.1
    · obtain ⟨T, h1, h2⟩ := p21_n5 off L.length cap (cwb off L) s i x X
      exact bad h1 h2 ⟨decide_eq_true hix.2, hix, Nat.le_trans (Nat.le_add_right _ _) (Nat.le_add_right _ _), at6 0 (by decide), hix, Nat.le_trans (Nat.le_add_right _ _) (Nat.le_add_right _ _), at6 3 (by decide), decide_eq_false w0, decide_eq_false w1, decide_eq_false w2, decide_eq_false w3, hix, Nat.le_trans (Nat.le_add_right _ _) (Nat.le_add_right _ _), at6 1 (by decide), hix, Nat.le_trans (Nat.le_add_right _ _) (Nat.le_add_right _ _), at6 4 (by decide), decide_eq_false w4, decide_eq_true w5, trivial⟩ (no (by omega))
    by_cases w6 : x.2.2.1 < wi (0 - 65536)
    · obtain ⟨T, h1, h2⟩ := p21_n6 off L.length cap (cwb off L) s i x X
      exact bad h1 h2 ⟨decide_eq_true hix.2, hix, Nat.le_trans (Nat.le_add_right _ _) (Nat.le_add_right _ _), at6 0 (by decide), hix, Nat.le_trans (Nat.le_add_right _ _) (Nat.le_add_right _ _), at6 3 (by decide), decide_eq_false w0, decide_eq_false w1, decide_eq_false w2, decide_eq_false w3, hix, Nat.le_trans (Nat.le_add_right _ _) (Nat.le_add_right _ _), at6 1 (by decide), hix, Nat.le_trans (Nat.le_add_right _ _) (Nat.le_add_right _ _), at6 4 (by decide), decide_eq_false w4, decide_eq_false w5, decide_eq_true w6, trivial⟩ (no (by rw [hT] at w6; omega))
    by_cases w7 : 65536 < x.2.2.1
    · obtain ⟨T, h1, h2⟩ := p21_n7 off L.length cap (cwb off L) s i x X
      exact bad h1 h2 ⟨decide_eq_true hix.2, hix, Nat.le_trans (Nat.le_add_right _ _) (Nat.le_add_right _ _), at6 0 (by decide), hix, Nat.le_trans (Nat.le_add_right _ _) (Nat.le_add_right _ _), at6 3 (by decide), decide_eq_false w0, decide_eq_false w1, decide_eq_false w2, decide_eq_false w3, hix, Nat.le_trans (Nat.le_add_right _ _) (Nat.le_add_right _ _), at6 1 (by decide), hix, Nat.le_trans (Nat.le_add_right _ _) (Nat.le_add_right _ _), at6 4 (by decide), decide_eq_false w4, decide_eq_false w5, decide_eq_false w6, decide_eq_true w7, trivial⟩ (no (by omega))
    by_cases w8 : x.1.2.2 < wi (0 - 1048576)
    · obtain ⟨T, h1, h2⟩ := p21_n8 off L.length cap (cwb off L) s i x X
      exact bad h1 h2 ⟨decide_eq_true hix.2, hix, Nat.le_trans (Nat.le_add_right _ _) (Nat.le_add_right _ _), at6 0 (by decide), hix, Nat.le_trans (Nat.le_add_right _ _) (Nat.le_add_right _ _), at6 3 (by decide), decide_eq_false w0, decide_eq_false w1, decide_eq_false w2, decide_eq_false w3, hix, Nat.le_trans (Nat.le_add_right _ _) (Nat.le_add_right _ _), at6 1 (by decide), hix, Nat.le_trans (Nat.le_add_right _ _) (Nat.le_add_right _ _), at6 4 (by decide), decide_eq_false w4, decide_eq_false w5, decide_eq_false w6, decide_eq_false w7, hix, Nat.le_trans (Nat.le_add_right _ _) (Nat.le_add_right _ _), at6 2 (by decide), hix, Nat.le_trans (Nat.le_add_right _ _) (Nat.le_add_right _ _), at6 5 (by decide), decide_eq_true w8, trivial⟩ (no (by rw [hB] at w8; omega))
    by_cases w9 : 1048576 < x.1.2.2
    · obtain ⟨T, h1, h2⟩ := p21_n9 off L.length cap (cwb off L) s i x X
      exact bad h1 h2 ⟨decide_eq_true hix.2, hix, Nat.le_trans (Nat.le_add_right _ _) (Nat.le_add_right _ _), at6 0 (by decide), hix, Nat.le_trans (Nat.le_add_right _ _) (Nat.le_add_right _ _), at6 3 (by decide), decide_eq_false w0, decide_eq_false w1, decide_eq_false w2, decide_eq_false w3, hix, Nat.le_trans (Nat.le_add_right _ _) (Nat.le_add_right _ _), at6 1 (by decide), hix, Nat.le_trans (Nat.le_add_right _ _) (Nat.le_add_right _ _), at6 4 (by decide), decide_eq_false w4, decide_eq_false w5, decide_eq_false w6, decide_eq_false w7, hix, Nat.le_trans (Nat.le_add_right _ _) (Nat.le_add_right _ _), at6 2 (by decide), hix, Nat.le_trans (Nat.le_add_right _ _) (Nat.le_add_right _ _), at6 5 (by decide), decide_eq_false w8, decide_eq_true w9, trivial⟩ (no (by omega))
    by_cases w10 : x.2.2.2 < wi (0 - 65536)
    · obtain ⟨T, h1, h2⟩ := p21_n10 off L.length cap (cwb off L) s i x X
      exact bad h1 h2 ⟨decide_eq_true hix.2, hix, Nat.le_trans (Nat.le_add_right _ _) (Nat.le_add_right _ _), at6 0 (by decide), hix, Nat.le_trans (Nat.le_add_right _ _) (Nat.le_add_right _ _), at6 3 (by decide), decide_eq_false w0, decide_eq_false w1, decide_eq_false w2, decide_eq_false w3, hix, Nat.le_trans (Nat.le_add_right _ _) (Nat.le_add_right _ _), at6 1 (by decide), hix, Nat.le_trans (Nat.le_add_right _ _) (Nat.le_add_right _ _), at6 4 (by decide), decide_eq_false w4, decide_eq_false w5, decide_eq_false w6, decide_eq_false w7, hix, Nat.le_trans (Nat.le_add_right _ _) (Nat.le_add_right _ _), at6 2 (by decide), hix, Nat.le_trans (Nat.le_add_right _ _) (Nat.le_add_right _ _), at6 5 (by decide), decide_eq_false w8, decide_eq_false w9, decide_eq_true w10, trivial⟩ (no (by rw [hT] at w10; omega))
    by_cases w11 : 65536 < x.2.2.2
    · obtain ⟨T, h1, h2⟩ := p21_n11 off L.length cap (cwb off L) s i x X
      exact bad h1 h2 ⟨decide_eq_true hix.2, hix, Nat.le_trans (Nat.le_add_right _ _) (Nat.le_add_right _ _), at6 0 (by decide), hix, Nat.le_trans (Nat.le_add_right _ _) (Nat.le_add_right _ _), at6 3 (by decide), decide_eq_false w0, decide_eq_false w1, decide_eq_false w2, decide_eq_false w3, hix, Nat.le_trans (Nat.le_add_right _ _) (Nat.le_add_right _ _), at6 1 (by decide), hix, Nat.le_trans (Nat.le_add_right _ _) (Nat.le_add_right _ _), at6 4 (by decide), decide_eq_false w4, decide_eq_false w5, decide_eq_false w6, decide_eq_false w7, hix, Nat.le_trans (Nat.le_add_right _ _) (Nat.le_add_right _ _), at6 2 (by decide), hix, Nat.le_trans (Nat.le_add_right _ _) (Nat.le_add_right _ _), at6 5 (by decide), decide_eq_false w8, decide_eq_false w9, decide_eq_false w10, decide_eq_true w11, trivial⟩ (no (by omega))
    obtain ⟨Y, hY⟩ := p21_r off L.length cap (cwb off L) s i x X
    have st := runLS_step mix hY ⟨decide_eq_true hix.2, hix, Nat.le_trans (Nat.le_add_right _ _) (Nat.le_add_right _ _), at6 0 (by decide), hix, Nat.le_trans (Nat.le_add_right _ _) (Nat.le_add_right _ _), at6 3 (by decide), decide_eq_false w0, decide_eq_false w1, decide_eq_false w2, decide_eq_false w3, hix, Nat.le_trans (Nat.le_add_right _ _) (Nat.le_add_right _ _), at6 1 (by decide), hix, Nat.le_trans (Nat.le_add_right _ _) (Nat.le_add_right _ _), at6 4 (by decide), decide_eq_false w4, decide_eq_false w5, decide_eq_false w6, decide_eq_false w7, hix, Nat.le_trans (Nat.le_add_right _ _) (Nat.le_add_right _ _), at6 2 (by decide), hix, Nat.le_trans (Nat.le_add_right _ _) (Nat.le_add_right _ _), at6 5 (by decide), decide_eq_false w8, decide_eq_false w9, decide_eq_false w10, decide_eq_false w11, trivial⟩
    rw [hB] at w0 w4 w8
    rw [hT] at w2 w6 w10
    have kb : bwth 1048576 65536 x = true := by
      unfold bwth
      rw [Bool.and_eq_true, wth_iff, wth_iff]
      omega
    rw [kb, Bool.true_and]
    rw [hw] at st
    obtain ⟨i1, i2⟩ := loop21 s off cap L hL j (i + 1) Y (by omega)
    refine ⟨fun h => ?_, fun h => ?_⟩
    · obtain ⟨r, Y, hl⟩ := i1 h
      exact ⟨r + 1, Y, LoopN.round st hl⟩
    · obtain ⟨r, T, hl, hv⟩ := i2 h
      exact ⟨r + 1, T, LoopN.round st hl, hv⟩
/-- The document's Within, of a list that lies in a window. -/
theorem rw_w (s : Int) (off cap : Nat) (L : List Bd) (hL : L.length ≤ maxLen) : CallsV Try.prog (.func 24) #[sv s (slw 1 off L.length cap), ii 1048576, ii 65536] (HWb off L) (rt (bb (L.all (bwth 1048576 65536)))) (HWb off L) := by
  have s0 := runLS_step mix (p21_0 off L.length cap (cwb off L) s) trivial
  have s1 := runLS_step mix (p21_1 off L.length cap (cwb off L) s) trivial
  obtain ⟨l1, l2⟩ := loop21 s off cap L hL L.length 0 (fun _ => ud) (by omega)
  rw [List.drop_zero] at l1 l2
  have hsub : Sub (HWb off L) (HS s (slw 1 off L.length cap) off (cwb off L)) := fun i o hi => by
    simp only [look] at hi
    split at hi
    · rename_i e; subst e; rw [← hi]; rfl
    · cases hi
  cases hk : L.all (bwth 1048576 65536)
  · obtain ⟨r, T, hl, hv⟩ := l2 hk
    exact callsV_step Try.func24 b21_eq (StepV.seq s0 (StepV.seqrW (StepV.seq s1 (StepV.blockrW (id := 0) (LoopN.loop hl))))) rfl hv rfl hsub rfl
  · obtain ⟨r, Y, hl⟩ := l1 hk
    obtain ⟨T, hE, hv⟩ := p21_e off L.length cap (cwb off L) s L.length Y
    exact callsV_step Try.func24 b21_eq (StepV.seq s0 (StepV.seq (StepV.seq s1 (LoopN.loop hl).block) (runLS_step mix hE trivial))) rfl hv rfl hsub rfl

end Go.Proofs.Ytpllklojcjhjaaa

/- May a state be: the program's answer, and the document's. -/
namespace Go.Proofs.Ytpllklojcjhjaaa
open Go Go.RowKit
set_option linter.unusedSimpArgs false
set_option linter.unusedVariables false
set_option maxRecDepth 100000

theorem may_a (m : Int) : runF Try.prog 1000 [] 49 #[ii m] [] [f, n] [] [] [] =
    some (rt (bb (false)), [], [(decide (1 ≤ m)) = false]) := by kernel_rfl
theorem may_b (m : Int) : runF Try.prog 1000 [] 49 #[ii m] [] [t, n] [] [] [] =
    some (rt (bb (decide (m ≤ 4))), [], [(decide (1 ≤ m)) = true]) := by kernel_rfl
theorem r15_a (st : Int) (off n' cap : Nat) (c : Array Value) : runF Try.prog 1000 [1] 30 #[sv st (slw 1 off n' cap)] [(1, win off c)] [f, n, n, n, n, n, n, n, n] [] [] [] =
    some (rt (bb (false)), [(1, win off c)], [(decide (Int.neg 1073741824 ≤ st)) = false]) := by kernel_rfl
theorem r15_b (st : Int) (off n' cap : Nat) (c : Array Value) : runF Try.prog 1000 [1] 30 #[sv st (slw 1 off n' cap)] [(1, win off c)] [t, n, n, f, n, n, n, n, n] [] [] [] =
    some (rt (bb (false)), [(1, win off c)], [(decide (Int.neg 1073741824 ≤ st)) = true, (decide (st ≤ 1073741824)) = false]) := by kernel_rfl
theorem r15_c (st : Int) (p : Bool) (off n' cap : Nat) (c : Array Value) : runF Try.prog 1000 [1] 30 #[sv st (slw 1 off n' cap)] [(1, win off c)] [t, n, n, t, n, n, n, f, n] [(49, rt (bb p))] [] [] =
    some (rt (bb (false)), [(1, win off c)], [(decide (Int.neg 1073741824 ≤ st)) = true, (decide (st ≤ 1073741824)) = true, PureX Try.prog 49 #[ii ((n' : Int))] (rt (bb (p))), (p) = false]) := by kernel_rfl
theorem r15_d (st : Int) (p q : Bool) (off n' cap : Nat) (c : Array Value) : runF Try.prog 1000 [1] 30 #[sv st (slw 1 off n' cap)] [(1, win off c)] [t, n, n, t, n, n, n, t, n] [(49, rt (bb p))] [(50, rt (bb q), [(1, win off c)])] [] =
    some (rt (bb (q)), [(1, win off c)], [(decide (Int.neg 1073741824 ≤ st)) = true, (decide (st ≤ 1073741824)) = true, PureX Try.prog 49 #[ii ((n' : Int))] (rt (bb (p))), (p) = true, CallsV Try.prog (.func 50) #[sv st (slw 1 off n' cap), ii 1048576, ii 65536] [(1, win off c)] (rt (bb q)) [(1, win off c)]]) := by kernel_rfl
theorem r15n (st : Int) (p : Bool) : runF Try.prog 1000 [] 30 #[sv st sl0] [] [t, n, n, t, n, n, n, f, n] [(49, rt (bb p))] [] [] =
    some (rt (bb (false)), [], [(decide (Int.neg 1073741824 ≤ st)) = true, (decide (st ≤ 1073741824)) = true, PureX Try.prog 49 #[ii (0)] (rt (bb (p))), (p) = false]) := by kernel_rfl
theorem r15n_a (st : Int) : runF Try.prog 1000 [] 30 #[sv st sl0] [] [f, n, n, n, n, n, n, n, n] [] [] [] =
    some (rt (bb (false)), [], [(decide (Int.neg 1073741824 ≤ st)) = false]) := by kernel_rfl
theorem r15n_b (st : Int) : runF Try.prog 1000 [] 30 #[sv st sl0] [] [t, n, n, f, n, n, n, n, n] [] [] [] =
    some (rt (bb (false)), [], [(decide (Int.neg 1073741824 ≤ st)) = true, (decide (st ≤ 1073741824)) = false]) := by kernel_rfl
theorem r9_a (st : Int) (off n' cap : Nat) (c : Array Value) : runF Try.prog 1000 [1] 8 #[sv st (slw 1 off n' cap)] [(1, win off c)] [f, n, n, n, n, n, n, n, n, n, n, n, n] [] [] [] =
    some (rt (bb (false)), [(1, win off c)], [(decide (Int.neg 1073741824 ≤ st)) = false]) := by kernel_rfl
theorem r9_b (st : Int) (off n' cap : Nat) (c : Array Value) : runF Try.prog 1000 [1] 8 #[sv st (slw 1 off n' cap)] [(1, win off c)] [t, n, n, f, n, n, n, n, n, n, n, n, n] [] [] [] =
    some (rt (bb (false)), [(1, win off c)], [(decide (Int.neg 1073741824 ≤ st)) = true, (decide (st ≤ 1073741824)) = false]) := by kernel_rfl
theorem r9_c (st : Int) (off n' cap : Nat) (c : Array Value) : runF Try.prog 1000 [1] 8 #[sv st (slw 1 off n' cap)] [(1, win off c)] [t, n, n, t, n, n, n, f, n, n, n, n, n] [] [] [] =
    some (rt (bb (false)), [(1, win off c)], [(decide (Int.neg 1073741824 ≤ st)) = true, (decide (st ≤ 1073741824)) = true, (decide (1 ≤ (n' : Int))) = false]) := by kernel_rfl
theorem r9_d (st : Int) (off n' cap : Nat) (c : Array Value) : runF Try.prog 1000 [1] 8 #[sv st (slw 1 off n' cap)] [(1, win off c)] [t, n, n, t, n, n, n, t, n, n, n, f, n] [] [] [] =
    some (rt (bb (false)), [(1, win off c)], [(decide (Int.neg 1073741824 ≤ st)) = true, (decide (st ≤ 1073741824)) = true, (decide (1 ≤ (n' : Int))) = true, (decide ((n' : Int) ≤ 4)) = false]) := by kernel_rfl
theorem r9_e (st : Int) (q : Bool) (off n' cap : Nat) (c : Array Value) : runF Try.prog 1000 [1] 8 #[sv st (slw 1 off n' cap)] [(1, win off c)] [t, n, n, t, n, n, n, t, n, n, n, t, n] [] [(24, rt (bb q), [(1, win off c)])] [] =
    some (rt (bb (q)), [(1, win off c)], [(decide (Int.neg 1073741824 ≤ st)) = true, (decide (st ≤ 1073741824)) = true, (decide (1 ≤ (n' : Int))) = true, (decide ((n' : Int) ≤ 4)) = true, CallsV Try.prog (.func 24) #[sv st (slw 1 off n' cap), ii 1048576, ii 65536] [(1, win off c)] (rt (bb q)) [(1, win off c)]]) := by kernel_rfl
theorem r9n_a (st : Int) : runF Try.prog 1000 [] 8 #[sv st sl0] [] [f, n, n, n, n, n, n, n, n, n, n, n, n] [] [] [] =
    some (rt (bb (false)), [], [(decide (Int.neg 1073741824 ≤ st)) = false]) := by kernel_rfl
theorem r9n_b (st : Int) : runF Try.prog 1000 [] 8 #[sv st sl0] [] [t, n, n, f, n, n, n, n, n, n, n, n, n] [] [] [] =
    some (rt (bb (false)), [], [(decide (Int.neg 1073741824 ≤ st)) = true, (decide (st ≤ 1073741824)) = false]) := by kernel_rfl
theorem r9n_c (st : Int) : runF Try.prog 1000 [] 8 #[sv st sl0] [] [t, n, n, t, n, n, n, n, n, n, n, n, n] [] [] [] =
    some (rt (bb (false)), [], [(decide (Int.neg 1073741824 ≤ st)) = true, (decide (st ≤ 1073741824)) = true]) := by kernel_rfl

theorem may_v (n : Int) : PureX Try.prog 49 #[ii n] (rt (bb (decide (1 ≤ n) && decide (n ≤ 4)))) := by
  by_cases h : 1 ≤ n
  · rw [decide_eq_true h, Bool.true_and]
    exact runF_pure mix (may_b n) ⟨decide_eq_true h, trivial⟩ rfl rfl
  · rw [decide_eq_false h, Bool.false_and]
    exact runF_pure mix (may_a n) ⟨decide_eq_false h, trivial⟩ rfl rfl
/-- May a state be? -/
def rightV (st : Int) (L : List Bd) : Bool := decide (-1073741824 ≤ st) && (decide (st ≤ 1073741824) && ((decide (1 ≤ (L.length : Int)) && decide ((L.length : Int) ≤ 4)) && L.all (bwth 1048576 65536)))
theorem rightV_iff {st : Int} {L : List Bd} : rightV st L = true ↔ (-1073741824 ≤ st ∧ st ≤ 1073741824) ∧ (1 ≤ L.length ∧ L.length ≤ 4) ∧ ∀ b ∈ L, bwth 1048576 65536 b = true := by
  unfold rightV
  simp only [Bool.and_eq_true, decide_eq_true_eq, List.all_eq_true]
  constructor
  · rintro ⟨h1, h2, ⟨h3, h4⟩, h5⟩
    exact ⟨⟨h1, h2⟩, ⟨by omega, by omega⟩, h5⟩
  · rintro ⟨⟨h1, h2⟩, ⟨h3, h4⟩, h5⟩
    exact ⟨h1, h2, ⟨by omega, by omega⟩, h5⟩
theorem ren_sv (st : Int) : ∀ (β : Num) (s : Value), renA β #[sv st s] = #[sv st (ren β s)] := fun _ _ => rfl
end Go.Proofs.Ytpllklojcjhjaaa
