/- Texts of the seat, joined. -/
import Derived.Test.YtpllklojcjhjaaaZz5
/- Configurations: what the document says of them, as plain functions. -/
namespace Go.Proofs.Ytpllklojcjhjaaa
open Go Go.RowKit
set_option linter.unusedSimpArgs false
set_option linter.unusedVariables false

abbrev str (l : List UInt8) : Value := .string ⟨⟨l⟩⟩
abbrev nBodies : List UInt8 := [98, 111, 100, 105, 101, 115]
abbrev nMass : List UInt8 := [109, 97, 115, 115]
abbrev nConst : List UInt8 := [99, 111, 110, 115, 116, 97, 110, 116]
abbrev nBox : List UInt8 := [98, 111, 120]
abbrev nTop : List UInt8 := [116, 111, 112]
abbrev nNear : List UInt8 := [110, 101, 97, 114]
abbrev nMeth : List UInt8 := [109, 101, 116, 104, 111, 100]
/-- Is a number from one to another? -/
def inZ (x lo hi : Int) : Bool := decide (lo ≤ x) && decide (x ≤ hi)
theorem inZ_iff {x lo hi : Int} : inZ x lo hi = true ↔ lo ≤ x ∧ x ≤ hi := by
  unfold inZ
  simp only [Bool.and_eq_true, decide_eq_true_eq]
def lightL (L : List Int) : Bool := L.all fun x => inZ x 1 1024
/-- The name of the first that is not so. -/
def whyL (L : List Int) (g b t' q m : Int) : List UInt8 :=
  if inZ (L.length : Int) 1 4 = false then nBodies else if lightL L = false then nMass else if inZ g 1 1048576 = false then nConst else if inZ b 1 1048576 = false then nBox
  else if inZ t' 1 65536 = false then nTop else if inZ q 1 (wi (2 * b)) = false then nNear else if inZ m 0 4 = false then nMeth else []
def chk (l : List UInt8) : Int := if l = [] then 0 else 110
def okL (L : List Int) (g b t' q m : Int) : Prop := whyL L g b t' q m = []
def rowL (L : List Int) (g b t' q m : Int) : List Int := (L.length : Int) :: (L ++ [g, b, t', q, m])
def totL (L : List Int) : Int := L.foldl (fun s x => wi (s + x)) 0
def pairsN (n : Int) : Int := wi ((wi (n * wi (n - 1))).tdiv 2)
theorem ok_parts {L : List Int} {g b t' q m : Int} (h : okL L g b t' q m) : (1 ≤ L.length ∧ L.length ≤ 4) ∧ lightL L = true ∧ inZ g 1 1048576 = true ∧ inZ b 1 1048576 = true ∧ inZ t' 1 65536 = true ∧ inZ q 1 (wi (2 * b)) = true ∧ inZ m 0 4 = true := by
  unfold okL whyL at h
  repeat' split at h
  all_goals first
    | (cases h; done)
    | skip
  rename_i h1 h2 h3 h4 h5 h6 h7
  simp only [Bool.not_eq_false] at h1 h2 h3 h4 h5 h6 h7
  have := inZ_iff.1 h1
  exact ⟨⟨by omega, by omega⟩, h2, h3, h4, h5, h6, h7⟩
theorem ren_cv (g b t' q m : Int) : ∀ (β : Num) (s : Value), renA β #[cv s g b t' q m] = #[cv (ren β s) g b t' q m] := fun _ _ => rfl
end Go.Proofs.Ytpllklojcjhjaaa

/- Configurations: what comes of each call, by letters. -/
namespace Go.Proofs.Ytpllklojcjhjaaa
open Go Go.RowKit
set_option linter.unusedSimpArgs false
set_option linter.unusedVariables false
set_option maxRecDepth 100000

theorem w37_f (x lo hi : Int) : runF Try.prog 1000 [] 85 #[ii x, ii lo, ii hi] [] [f, n, n] [] [] [] =
    some (rt (bb false), [], [(decide (lo ≤ x)) = false]) := by kernel_rfl
theorem w37_t (x lo hi : Int) : runF Try.prog 1000 [] 85 #[ii x, ii lo, ii hi] [] [t, n, n] [] [] [] =
    some (rt (bb (decide (x ≤ hi))), [], [(decide (lo ≤ x)) = true]) := by kernel_rfl
theorem w32_f (x lo hi : Int) : runF Try.prog 1000 [] 38 #[ii x, ii lo, ii hi] [] [f, n, n] [] [] [] =
    some (rt (bb false), [], [(decide (lo ≤ x)) = false]) := by kernel_rfl
theorem w32_t (x lo hi : Int) : runF Try.prog 1000 [] 38 #[ii x, ii lo, ii hi] [] [t, n, n] [] [] [] =
    some (rt (bb (decide (x ≤ hi))), [], [(decide (lo ≤ x)) = true]) := by kernel_rfl
theorem may_0 (x : Int) : runF Try.prog 1000 [] 81 #[ii x] [] [] [(85, rt (bb false))] [] [] =
    some (rt (bb false), [], [PureX Try.prog 85 #[ii (x), ii (1), ii (4)] (rt (bb (false)))]) := by kernel_rfl
theorem may_1 (x : Int) : runF Try.prog 1000 [] 81 #[ii x] [] [] [(85, rt (bb true))] [] [] =
    some (rt (bb true), [], [PureX Try.prog 85 #[ii (x), ii (1), ii (4)] (rt (bb (true)))]) := by kernel_rfl
theorem light_1_0 (cap : Nat) (a1 g b t' q m : Int) : runF Try.prog 1000 [1] 83 #[cv (slw 1 0 1 cap) g b t' q m] [(1, wib [a1])] [n, n, n] [(85, rt (bb false))] [] [] =
    some (rt (bb false), [(1, wib [a1])], [PureX Try.prog 85 #[ii (a1), ii (1), ii (1024)] (rt (bb (false)))]) := by kernel_rfl
theorem light_1_1 (cap : Nat) (a1 g b t' q m : Int) : runF Try.prog 1000 [1] 83 #[cv (slw 1 0 1 cap) g b t' q m] [(1, wib [a1])] [n, n, n, n] [(85, rt (bb true))] [] [] =
    some (rt (bb true), [(1, wib [a1])], [PureX Try.prog 85 #[ii (a1), ii (1), ii (1024)] (rt (bb (true)))]) := by kernel_rfl
theorem light_2_0 (cap : Nat) (a1 a2 g b t' q m : Int) : runF Try.prog 1000 [1] 83 #[cv (slw 1 0 2 cap) g b t' q m] [(1, wib [a1, a2])] [n, n, n] [(85, rt (bb false))] [] [] =
    some (rt (bb false), [(1, wib [a1, a2])], [PureX Try.prog 85 #[ii (a1), ii (1), ii (1024)] (rt (bb (false)))]) := by kernel_rfl
theorem light_2_1 (cap : Nat) (a1 a2 g b t' q m : Int) : runF Try.prog 1000 [1] 83 #[cv (slw 1 0 2 cap) g b t' q m] [(1, wib [a1, a2])] [n, n, n, n, n, n] [(85, rt (bb true)), (85, rt (bb false))] [] [] =
    some (rt (bb false), [(1, wib [a1, a2])], [PureX Try.prog 85 #[ii (a1), ii (1), ii (1024)] (rt (bb (true))), PureX Try.prog 85 #[ii (a2), ii (1), ii (1024)] (rt (bb (false)))]) := by kernel_rfl
theorem light_2_2 (cap : Nat) (a1 a2 g b t' q m : Int) : runF Try.prog 1000 [1] 83 #[cv (slw 1 0 2 cap) g b t' q m] [(1, wib [a1, a2])] [n, n, n, n, n, n, n] [(85, rt (bb true)), (85, rt (bb true))] [] [] =
    some (rt (bb true), [(1, wib [a1, a2])], [PureX Try.prog 85 #[ii (a1), ii (1), ii (1024)] (rt (bb (true))), PureX Try.prog 85 #[ii (a2), ii (1), ii (1024)] (rt (bb (true)))]) := by kernel_rfl
theorem light_3_0 (cap : Nat) (a1 a2 a3 g b t' q m : Int) : runF Try.prog 1000 [1] 83 #[cv (slw 1 0 3 cap) g b t' q m] [(1, wib [a1, a2, a3])] [n, n, n] [(85, rt (bb false))] [] [] =
    some (rt (bb false), [(1, wib [a1, a2, a3])], [PureX Try.prog 85 #[ii (a1), ii (1), ii (1024)] (rt (bb (false)))]) := by kernel_rfl
theorem light_3_1 (cap : Nat) (a1 a2 a3 g b t' q m : Int) : runF Try.prog 1000 [1] 83 #[cv (slw 1 0 3 cap) g b t' q m] [(1, wib [a1, a2, a3])] [n, n, n, n, n, n] [(85, rt (bb true)), (85, rt (bb false))] [] [] =
    some (rt (bb false), [(1, wib [a1, a2, a3])], [PureX Try.prog 85 #[ii (a1), ii (1), ii (1024)] (rt (bb (true))), PureX Try.prog 85 #[ii (a2), ii (1), ii (1024)] (rt (bb (false)))]) := by kernel_rfl
theorem light_3_2 (cap : Nat) (a1 a2 a3 g b t' q m : Int) : runF Try.prog 1000 [1] 83 #[cv (slw 1 0 3 cap) g b t' q m] [(1, wib [a1, a2, a3])] [n, n, n, n, n, n, n, n, n] [(85, rt (bb true)), (85, rt (bb true)), (85, rt (bb false))] [] [] =
    some (rt (bb false), [(1, wib [a1, a2, a3])], [PureX Try.prog 85 #[ii (a1), ii (1), ii (1024)] (rt (bb (true))), PureX Try.prog 85 #[ii (a2), ii (1), ii (1024)] (rt (bb (true))), PureX Try.prog 85 #[ii (a3), ii (1), ii (1024)] (rt (bb (false)))]) := by kernel_rfl
theorem light_3_3 (cap : Nat) (a1 a2 a3 g b t' q m : Int) : runF Try.prog 1000 [1] 83 #[cv (slw 1 0 3 cap) g b t' q m] [(1, wib [a1, a2, a3])] [n, n, n, n, n, n, n, n, n, n] [(85, rt (bb true)), (85, rt (bb true)), (85, rt (bb true))] [] [] =
    some (rt (bb true), [(1, wib [a1, a2, a3])], [PureX Try.prog 85 #[ii (a1), ii (1), ii (1024)] (rt (bb (true))), PureX Try.prog 85 #[ii (a2), ii (1), ii (1024)] (rt (bb (true))), PureX Try.prog 85 #[ii (a3), ii (1), ii (1024)] (rt (bb (true)))]) := by kernel_rfl
theorem light_4_0 (cap : Nat) (a1 a2 a3 a4 g b t' q m : Int) : runF Try.prog 1000 [1] 83 #[cv (slw 1 0 4 cap) g b t' q m] [(1, wib [a1, a2, a3, a4])] [n, n, n] [(85, rt (bb false))] [] [] =
    some (rt (bb false), [(1, wib [a1, a2, a3, a4])], [PureX Try.prog 85 #[ii (a1), ii (1), ii (1024)] (rt (bb (false)))]) := by kernel_rfl
theorem light_4_1 (cap : Nat) (a1 a2 a3 a4 g b t' q m : Int) : runF Try.prog 1000 [1] 83 #[cv (slw 1 0 4 cap) g b t' q m] [(1, wib [a1, a2, a3, a4])] [n, n, n, n, n, n] [(85, rt (bb true)), (85, rt (bb false))] [] [] =
    some (rt (bb false), [(1, wib [a1, a2, a3, a4])], [PureX Try.prog 85 #[ii (a1), ii (1), ii (1024)] (rt (bb (true))), PureX Try.prog 85 #[ii (a2), ii (1), ii (1024)] (rt (bb (false)))]) := by kernel_rfl
theorem light_4_2 (cap : Nat) (a1 a2 a3 a4 g b t' q m : Int) : runF Try.prog 1000 [1] 83 #[cv (slw 1 0 4 cap) g b t' q m] [(1, wib [a1, a2, a3, a4])] [n, n, n, n, n, n, n, n, n] [(85, rt (bb true)), (85, rt (bb true)), (85, rt (bb false))] [] [] =
    some (rt (bb false), [(1, wib [a1, a2, a3, a4])], [PureX Try.prog 85 #[ii (a1), ii (1), ii (1024)] (rt (bb (true))), PureX Try.prog 85 #[ii (a2), ii (1), ii (1024)] (rt (bb (true))), PureX Try.prog 85 #[ii (a3), ii (1), ii (1024)] (rt (bb (false)))]) := by kernel_rfl
theorem light_4_3 (cap : Nat) (a1 a2 a3 a4 g b t' q m : Int) : runF Try.prog 1000 [1] 83 #[cv (slw 1 0 4 cap) g b t' q m] [(1, wib [a1, a2, a3, a4])] [n, n, n, n, n, n, n, n, n, n, n, n] [(85, rt (bb true)), (85, rt (bb true)), (85, rt (bb true)), (85, rt (bb false))] [] [] =
    some (rt (bb false), [(1, wib [a1, a2, a3, a4])], [PureX Try.prog 85 #[ii (a1), ii (1), ii (1024)] (rt (bb (true))), PureX Try.prog 85 #[ii (a2), ii (1), ii (1024)] (rt (bb (true))), PureX Try.prog 85 #[ii (a3), ii (1), ii (1024)] (rt (bb (true))), PureX Try.prog 85 #[ii (a4), ii (1), ii (1024)] (rt (bb (false)))]) := by kernel_rfl
theorem light_4_4 (cap : Nat) (a1 a2 a3 a4 g b t' q m : Int) : runF Try.prog 1000 [1] 83 #[cv (slw 1 0 4 cap) g b t' q m] [(1, wib [a1, a2, a3, a4])] [n, n, n, n, n, n, n, n, n, n, n, n, n] [(85, rt (bb true)), (85, rt (bb true)), (85, rt (bb true)), (85, rt (bb true))] [] [] =
    some (rt (bb true), [(1, wib [a1, a2, a3, a4])], [PureX Try.prog 85 #[ii (a1), ii (1), ii (1024)] (rt (bb (true))), PureX Try.prog 85 #[ii (a2), ii (1), ii (1024)] (rt (bb (true))), PureX Try.prog 85 #[ii (a3), ii (1), ii (1024)] (rt (bb (true))), PureX Try.prog 85 #[ii (a4), ii (1), ii (1024)] (rt (bb (true)))]) := by kernel_rfl
theorem why_0 (off n' cap : Nat) (c : Array Value) (g b t' q m : Int) : runF Try.prog 1000 [1] 48 #[cv (slw 1 off n' cap) g b t' q m] [(1, win off c)] [n, n] [(81, rt (bb false))] [] [] =
    some (rt (str nBodies), [(1, win off c)], [PureX Try.prog 81 #[ii ((n' : Int))] (rt (bb (false)))]) := by kernel_rfl
theorem why_1 (off n' cap : Nat) (c : Array Value) (g b t' q m : Int) : runF Try.prog 1000 [1] 48 #[cv (slw 1 off n' cap) g b t' q m] [(1, win off c)] [n, n, n, n] [(81, rt (bb true))] [(83, rt (bb false), [(1, win off c)])] [] =
    some (rt (str nMass), [(1, win off c)], [PureX Try.prog 81 #[ii ((n' : Int))] (rt (bb (true))), CallsV Try.prog (.func 83) #[cv (slw 1 off n' cap) g b t' q m] [(1, win off c)] (rt (bb false)) [(1, win off c)]]) := by kernel_rfl
theorem why_2 (off n' cap : Nat) (c : Array Value) (g b t' q m : Int) : runF Try.prog 1000 [1] 48 #[cv (slw 1 off n' cap) g b t' q m] [(1, win off c)] [n, n, n, n, n, n] [(81, rt (bb true)), (85, rt (bb false))] [(83, rt (bb true), [(1, win off c)])] [] =
    some (rt (str nConst), [(1, win off c)], [PureX Try.prog 81 #[ii ((n' : Int))] (rt (bb (true))), CallsV Try.prog (.func 83) #[cv (slw 1 off n' cap) g b t' q m] [(1, win off c)] (rt (bb true)) [(1, win off c)], PureX Try.prog 85 #[ii (g), ii (1), ii (1048576)] (rt (bb (false)))]) := by kernel_rfl
theorem why_3 (off n' cap : Nat) (c : Array Value) (g b t' q m : Int) : runF Try.prog 1000 [1] 48 #[cv (slw 1 off n' cap) g b t' q m] [(1, win off c)] [n, n, n, n, n, n, n, n] [(81, rt (bb true)), (85, rt (bb true)), (85, rt (bb false))] [(83, rt (bb true), [(1, win off c)])] [] =
    some (rt (str nBox), [(1, win off c)], [PureX Try.prog 81 #[ii ((n' : Int))] (rt (bb (true))), CallsV Try.prog (.func 83) #[cv (slw 1 off n' cap) g b t' q m] [(1, win off c)] (rt (bb true)) [(1, win off c)], PureX Try.prog 85 #[ii (g), ii (1), ii (1048576)] (rt (bb (true))), PureX Try.prog 85 #[ii (b), ii (1), ii (1048576)] (rt (bb (false)))]) := by kernel_rfl
theorem why_4 (off n' cap : Nat) (c : Array Value) (g b t' q m : Int) : runF Try.prog 1000 [1] 48 #[cv (slw 1 off n' cap) g b t' q m] [(1, win off c)] [n, n, n, n, n, n, n, n, n, n] [(81, rt (bb true)), (85, rt (bb true)), (85, rt (bb true)), (85, rt (bb false))] [(83, rt (bb true), [(1, win off c)])] [] =
    some (rt (str nTop), [(1, win off c)], [PureX Try.prog 81 #[ii ((n' : Int))] (rt (bb (true))), CallsV Try.prog (.func 83) #[cv (slw 1 off n' cap) g b t' q m] [(1, win off c)] (rt (bb true)) [(1, win off c)], PureX Try.prog 85 #[ii (g), ii (1), ii (1048576)] (rt (bb (true))), PureX Try.prog 85 #[ii (b), ii (1), ii (1048576)] (rt (bb (true))), PureX Try.prog 85 #[ii (t'), ii (1), ii (65536)] (rt (bb (false)))]) := by kernel_rfl
theorem why_5 (off n' cap : Nat) (c : Array Value) (g b t' q m : Int) : runF Try.prog 1000 [1] 48 #[cv (slw 1 off n' cap) g b t' q m] [(1, win off c)] [n, n, n, n, n, n, n, n, n, n, n, n] [(81, rt (bb true)), (85, rt (bb true)), (85, rt (bb true)), (85, rt (bb true)), (85, rt (bb false))] [(83, rt (bb true), [(1, win off c)])] [] =
    some (rt (str nNear), [(1, win off c)], [PureX Try.prog 81 #[ii ((n' : Int))] (rt (bb (true))), CallsV Try.prog (.func 83) #[cv (slw 1 off n' cap) g b t' q m] [(1, win off c)] (rt (bb true)) [(1, win off c)], PureX Try.prog 85 #[ii (g), ii (1), ii (1048576)] (rt (bb (true))), PureX Try.prog 85 #[ii (b), ii (1), ii (1048576)] (rt (bb (true))), PureX Try.prog 85 #[ii (t'), ii (1), ii (65536)] (rt (bb (true))), PureX Try.prog 85 #[ii (q), ii (1), ii (wi (2 * b))] (rt (bb (false)))]) := by kernel_rfl
theorem why_6 (off n' cap : Nat) (c : Array Value) (g b t' q m : Int) : runF Try.prog 1000 [1] 48 #[cv (slw 1 off n' cap) g b t' q m] [(1, win off c)] [n, n, n, n, n, n, n, n, n, n, n, n, n, n] [(81, rt (bb true)), (85, rt (bb true)), (85, rt (bb true)), (85, rt (bb true)), (85, rt (bb true)), (85, rt (bb false))] [(83, rt (bb true), [(1, win off c)])] [] =
    some (rt (str nMeth), [(1, win off c)], [PureX Try.prog 81 #[ii ((n' : Int))] (rt (bb (true))), CallsV Try.prog (.func 83) #[cv (slw 1 off n' cap) g b t' q m] [(1, win off c)] (rt (bb true)) [(1, win off c)], PureX Try.prog 85 #[ii (g), ii (1), ii (1048576)] (rt (bb (true))), PureX Try.prog 85 #[ii (b), ii (1), ii (1048576)] (rt (bb (true))), PureX Try.prog 85 #[ii (t'), ii (1), ii (65536)] (rt (bb (true))), PureX Try.prog 85 #[ii (q), ii (1), ii (wi (2 * b))] (rt (bb (true))), PureX Try.prog 85 #[ii (m), ii (0), ii (4)] (rt (bb (false)))]) := by kernel_rfl
theorem why_7 (off n' cap : Nat) (c : Array Value) (g b t' q m : Int) : runF Try.prog 1000 [1] 48 #[cv (slw 1 off n' cap) g b t' q m] [(1, win off c)] [n, n, n, n, n, n, n, n, n, n, n, n, n, n, n] [(81, rt (bb true)), (85, rt (bb true)), (85, rt (bb true)), (85, rt (bb true)), (85, rt (bb true)), (85, rt (bb true))] [(83, rt (bb true), [(1, win off c)])] [] =
    some (rt (str []), [(1, win off c)], [PureX Try.prog 81 #[ii ((n' : Int))] (rt (bb (true))), CallsV Try.prog (.func 83) #[cv (slw 1 off n' cap) g b t' q m] [(1, win off c)] (rt (bb true)) [(1, win off c)], PureX Try.prog 85 #[ii (g), ii (1), ii (1048576)] (rt (bb (true))), PureX Try.prog 85 #[ii (b), ii (1), ii (1048576)] (rt (bb (true))), PureX Try.prog 85 #[ii (t'), ii (1), ii (65536)] (rt (bb (true))), PureX Try.prog 85 #[ii (q), ii (1), ii (wi (2 * b))] (rt (bb (true))), PureX Try.prog 85 #[ii (m), ii (0), ii (4)] (rt (bb (true)))]) := by kernel_rfl
theorem why_n (g b t' q m : Int) : runF Try.prog 1000 [] 48 #[cv sl0 g b t' q m] [] [n, n] [(81, rt (bb false))] [] [] =
    some (rt (str nBodies), [], [PureX Try.prog 81 #[ii (0)] (rt (bb (false)))]) := by kernel_rfl
theorem chk_0 (off n' cap : Nat) (c : Array Value) (g b t' q m : Int) : runF Try.prog 1000 [1] 29 #[cv (slw 1 off n' cap) g b t' q m] [(1, win off c)] [n] [] [(48, rt (str nBodies), [(1, win off c)])] [] =
    some (rt (ii 110), [(1, win off c)], [CallsV Try.prog (.func 48) #[cv (slw 1 off n' cap) g b t' q m] [(1, win off c)] (rt (str nBodies)) [(1, win off c)]]) := by kernel_rfl
theorem chk_1 (off n' cap : Nat) (c : Array Value) (g b t' q m : Int) : runF Try.prog 1000 [1] 29 #[cv (slw 1 off n' cap) g b t' q m] [(1, win off c)] [n] [] [(48, rt (str nMass), [(1, win off c)])] [] =
    some (rt (ii 110), [(1, win off c)], [CallsV Try.prog (.func 48) #[cv (slw 1 off n' cap) g b t' q m] [(1, win off c)] (rt (str nMass)) [(1, win off c)]]) := by kernel_rfl
theorem chk_2 (off n' cap : Nat) (c : Array Value) (g b t' q m : Int) : runF Try.prog 1000 [1] 29 #[cv (slw 1 off n' cap) g b t' q m] [(1, win off c)] [n] [] [(48, rt (str nConst), [(1, win off c)])] [] =
    some (rt (ii 110), [(1, win off c)], [CallsV Try.prog (.func 48) #[cv (slw 1 off n' cap) g b t' q m] [(1, win off c)] (rt (str nConst)) [(1, win off c)]]) := by kernel_rfl
theorem chk_3 (off n' cap : Nat) (c : Array Value) (g b t' q m : Int) : runF Try.prog 1000 [1] 29 #[cv (slw 1 off n' cap) g b t' q m] [(1, win off c)] [n] [] [(48, rt (str nBox), [(1, win off c)])] [] =
    some (rt (ii 110), [(1, win off c)], [CallsV Try.prog (.func 48) #[cv (slw 1 off n' cap) g b t' q m] [(1, win off c)] (rt (str nBox)) [(1, win off c)]]) := by kernel_rfl
theorem chk_4 (off n' cap : Nat) (c : Array Value) (g b t' q m : Int) : runF Try.prog 1000 [1] 29 #[cv (slw 1 off n' cap) g b t' q m] [(1, win off c)] [n] [] [(48, rt (str nTop), [(1, win off c)])] [] =
    some (rt (ii 110), [(1, win off c)], [CallsV Try.prog (.func 48) #[cv (slw 1 off n' cap) g b t' q m] [(1, win off c)] (rt (str nTop)) [(1, win off c)]]) := by kernel_rfl
theorem chk_5 (off n' cap : Nat) (c : Array Value) (g b t' q m : Int) : runF Try.prog 1000 [1] 29 #[cv (slw 1 off n' cap) g b t' q m] [(1, win off c)] [n] [] [(48, rt (str nNear), [(1, win off c)])] [] =
    some (rt (ii 110), [(1, win off c)], [CallsV Try.prog (.func 48) #[cv (slw 1 off n' cap) g b t' q m] [(1, win off c)] (rt (str nNear)) [(1, win off c)]]) := by kernel_rfl
theorem chk_6 (off n' cap : Nat) (c : Array Value) (g b t' q m : Int) : runF Try.prog 1000 [1] 29 #[cv (slw 1 off n' cap) g b t' q m] [(1, win off c)] [n] [] [(48, rt (str nMeth), [(1, win off c)])] [] =
    some (rt (ii 110), [(1, win off c)], [CallsV Try.prog (.func 48) #[cv (slw 1 off n' cap) g b t' q m] [(1, win off c)] (rt (str nMeth)) [(1, win off c)]]) := by kernel_rfl
theorem chk_7 (off n' cap : Nat) (c : Array Value) (g b t' q m : Int) : runF Try.prog 1000 [1] 29 #[cv (slw 1 off n' cap) g b t' q m] [(1, win off c)] [n] [] [(48, rt (str []), [(1, win off c)])] [] =
    some (rt (ii 0), [(1, win off c)], [CallsV Try.prog (.func 48) #[cv (slw 1 off n' cap) g b t' q m] [(1, win off c)] (rt (str [])) [(1, win off c)]]) := by kernel_rfl
theorem chk_n (g b t' q m : Int) : runF Try.prog 1000 [] 29 #[cv sl0 g b t' q m] [] [n] [(48, rt (str nBodies))] [] [] =
    some (rt (ii 110), [], [PureX Try.prog 48 #[.agg ⟨[.slice none 0 0, ii (g), ii (b), ii (t'), ii (q), ii (m)]⟩] (rt (str [98, 111, 100, 105, 101, 115]))]) := by kernel_rfl
theorem dchk_0 (off n' cap : Nat) (c : Array Value) (g b t' q m : Int) : runF Try.prog 1000 [1] 7 #[cv (slw 1 off n' cap) g b t' q m] [(1, win off c)] [n] [] [(23, rt (str nBodies), [(1, win off c)])] [] =
    some (rt (ii 110), [(1, win off c)], [CallsV Try.prog (.func 23) #[cv (slw 1 off n' cap) g b t' q m] [(1, win off c)] (rt (str nBodies)) [(1, win off c)]]) := by kernel_rfl
theorem dchk_1 (off n' cap : Nat) (c : Array Value) (g b t' q m : Int) : runF Try.prog 1000 [1] 7 #[cv (slw 1 off n' cap) g b t' q m] [(1, win off c)] [n] [] [(23, rt (str nMass), [(1, win off c)])] [] =
    some (rt (ii 110), [(1, win off c)], [CallsV Try.prog (.func 23) #[cv (slw 1 off n' cap) g b t' q m] [(1, win off c)] (rt (str nMass)) [(1, win off c)]]) := by kernel_rfl
theorem dchk_2 (off n' cap : Nat) (c : Array Value) (g b t' q m : Int) : runF Try.prog 1000 [1] 7 #[cv (slw 1 off n' cap) g b t' q m] [(1, win off c)] [n] [] [(23, rt (str nConst), [(1, win off c)])] [] =
    some (rt (ii 110), [(1, win off c)], [CallsV Try.prog (.func 23) #[cv (slw 1 off n' cap) g b t' q m] [(1, win off c)] (rt (str nConst)) [(1, win off c)]]) := by kernel_rfl
theorem dchk_3 (off n' cap : Nat) (c : Array Value) (g b t' q m : Int) : runF Try.prog 1000 [1] 7 #[cv (slw 1 off n' cap) g b t' q m] [(1, win off c)] [n] [] [(23, rt (str nBox), [(1, win off c)])] [] =
    some (rt (ii 110), [(1, win off c)], [CallsV Try.prog (.func 23) #[cv (slw 1 off n' cap) g b t' q m] [(1, win off c)] (rt (str nBox)) [(1, win off c)]]) := by kernel_rfl
theorem dchk_4 (off n' cap : Nat) (c : Array Value) (g b t' q m : Int) : runF Try.prog 1000 [1] 7 #[cv (slw 1 off n' cap) g b t' q m] [(1, win off c)] [n] [] [(23, rt (str nTop), [(1, win off c)])] [] =
    some (rt (ii 110), [(1, win off c)], [CallsV Try.prog (.func 23) #[cv (slw 1 off n' cap) g b t' q m] [(1, win off c)] (rt (str nTop)) [(1, win off c)]]) := by kernel_rfl
theorem dchk_5 (off n' cap : Nat) (c : Array Value) (g b t' q m : Int) : runF Try.prog 1000 [1] 7 #[cv (slw 1 off n' cap) g b t' q m] [(1, win off c)] [n] [] [(23, rt (str nNear), [(1, win off c)])] [] =
    some (rt (ii 110), [(1, win off c)], [CallsV Try.prog (.func 23) #[cv (slw 1 off n' cap) g b t' q m] [(1, win off c)] (rt (str nNear)) [(1, win off c)]]) := by kernel_rfl
theorem dchk_6 (off n' cap : Nat) (c : Array Value) (g b t' q m : Int) : runF Try.prog 1000 [1] 7 #[cv (slw 1 off n' cap) g b t' q m] [(1, win off c)] [n] [] [(23, rt (str nMeth), [(1, win off c)])] [] =
    some (rt (ii 110), [(1, win off c)], [CallsV Try.prog (.func 23) #[cv (slw 1 off n' cap) g b t' q m] [(1, win off c)] (rt (str nMeth)) [(1, win off c)]]) := by kernel_rfl
theorem dchk_7 (off n' cap : Nat) (c : Array Value) (g b t' q m : Int) : runF Try.prog 1000 [1] 7 #[cv (slw 1 off n' cap) g b t' q m] [(1, win off c)] [n] [] [(23, rt (str []), [(1, win off c)])] [] =
    some (rt (ii 0), [(1, win off c)], [CallsV Try.prog (.func 23) #[cv (slw 1 off n' cap) g b t' q m] [(1, win off c)] (rt (str [])) [(1, win off c)]]) := by kernel_rfl
theorem dchk_n (g b t' q m : Int) : runF Try.prog 1000 [] 7 #[cv sl0 g b t' q m] [] [n] [(23, rt (str nBodies))] [] [] =
    some (rt (ii 110), [], [PureX Try.prog 23 #[.agg ⟨[.slice none 0 0, ii (g), ii (b), ii (t'), ii (q), ii (m)]⟩] (rt (str [98, 111, 100, 105, 101, 115]))]) := by kernel_rfl
theorem dwhy_0 (off n' cap : Nat) (c : Array Value) (g b t' q m : Int) : runF Try.prog 1000 [1] 23 #[cv (slw 1 off n' cap) g b t' q m] [(1, win off c)] [n] [(38, rt (bb false))] [] [] =
    some (rt (str nBodies), [(1, win off c)], [PureX Try.prog 38 #[ii ((n' : Int)), ii (1), ii (4)] (rt (bb (false)))]) := by kernel_rfl
theorem dwhy_n (g b t' q m : Int) : runF Try.prog 1000 [] 23 #[cv sl0 g b t' q m] [] [n] [(38, rt (bb false))] [] [] =
    some (rt (str nBodies), [], [PureX Try.prog 38 #[ii (0), ii (1), ii (4)] (rt (bb (false)))]) := by kernel_rfl
theorem dwhy_1_m0 (cap : Nat) (a1 g b t' q m : Int) : runF Try.prog 1000 [1] 23 #[cv (slw 1 0 1 cap) g b t' q m] [(1, wib [a1])] [n, n, n] [(38, rt (bb true)), (38, rt (bb false))] [] [] =
    some (rt (str nMass), [(1, wib [a1])], [PureX Try.prog 38 #[ii (1), ii (1), ii (4)] (rt (bb (true))), PureX Try.prog 38 #[ii (a1), ii (1), ii (1024)] (rt (bb (false)))]) := by kernel_rfl
theorem dwhy_1_2 (cap : Nat) (a1 g b t' q m : Int) : runF Try.prog 1000 [1] 23 #[cv (slw 1 0 1 cap) g b t' q m] [(1, wib [a1])] [n, n, n, n, n] [(38, rt (bb true)), (38, rt (bb true)), (38, rt (bb false))] [] [] =
    some (rt (str nConst), [(1, wib [a1])], [PureX Try.prog 38 #[ii (1), ii (1), ii (4)] (rt (bb (true))), PureX Try.prog 38 #[ii (a1), ii (1), ii (1024)] (rt (bb (true))), PureX Try.prog 38 #[ii (g), ii (1), ii (1048576)] (rt (bb (false)))]) := by kernel_rfl
theorem dwhy_1_3 (cap : Nat) (a1 g b t' q m : Int) : runF Try.prog 1000 [1] 23 #[cv (slw 1 0 1 cap) g b t' q m] [(1, wib [a1])] [n, n, n, n, n, n] [(38, rt (bb true)), (38, rt (bb true)), (38, rt (bb true)), (38, rt (bb false))] [] [] =
    some (rt (str nBox), [(1, wib [a1])], [PureX Try.prog 38 #[ii (1), ii (1), ii (4)] (rt (bb (true))), PureX Try.prog 38 #[ii (a1), ii (1), ii (1024)] (rt (bb (true))), PureX Try.prog 38 #[ii (g), ii (1), ii (1048576)] (rt (bb (true))), PureX Try.prog 38 #[ii (b), ii (1), ii (1048576)] (rt (bb (false)))]) := by kernel_rfl
theorem dwhy_1_4 (cap : Nat) (a1 g b t' q m : Int) : runF Try.prog 1000 [1] 23 #[cv (slw 1 0 1 cap) g b t' q m] [(1, wib [a1])] [n, n, n, n, n, n, n] [(38, rt (bb true)), (38, rt (bb true)), (38, rt (bb true)), (38, rt (bb true)), (38, rt (bb false))] [] [] =
    some (rt (str nTop), [(1, wib [a1])], [PureX Try.prog 38 #[ii (1), ii (1), ii (4)] (rt (bb (true))), PureX Try.prog 38 #[ii (a1), ii (1), ii (1024)] (rt (bb (true))), PureX Try.prog 38 #[ii (g), ii (1), ii (1048576)] (rt (bb (true))), PureX Try.prog 38 #[ii (b), ii (1), ii (1048576)] (rt (bb (true))), PureX Try.prog 38 #[ii (t'), ii (1), ii (65536)] (rt (bb (false)))]) := by kernel_rfl
theorem dwhy_1_5 (cap : Nat) (a1 g b t' q m : Int) : runF Try.prog 1000 [1] 23 #[cv (slw 1 0 1 cap) g b t' q m] [(1, wib [a1])] [n, n, n, n, n, n, n, n] [(38, rt (bb true)), (38, rt (bb true)), (38, rt (bb true)), (38, rt (bb true)), (38, rt (bb true)), (38, rt (bb false))] [] [] =
    some (rt (str nNear), [(1, wib [a1])], [PureX Try.prog 38 #[ii (1), ii (1), ii (4)] (rt (bb (true))), PureX Try.prog 38 #[ii (a1), ii (1), ii (1024)] (rt (bb (true))), PureX Try.prog 38 #[ii (g), ii (1), ii (1048576)] (rt (bb (true))), PureX Try.prog 38 #[ii (b), ii (1), ii (1048576)] (rt (bb (true))), PureX Try.prog 38 #[ii (t'), ii (1), ii (65536)] (rt (bb (true))), PureX Try.prog 38 #[ii (q), ii (1), ii (wi (2 * b))] (rt (bb (false)))]) := by kernel_rfl
theorem dwhy_1_6 (cap : Nat) (a1 g b t' q m : Int) : runF Try.prog 1000 [1] 23 #[cv (slw 1 0 1 cap) g b t' q m] [(1, wib [a1])] [n, n, n, n, n, n, n, n, n] [(38, rt (bb true)), (38, rt (bb true)), (38, rt (bb true)), (38, rt (bb true)), (38, rt (bb true)), (38, rt (bb true)), (38, rt (bb false))] [] [] =
    some (rt (str nMeth), [(1, wib [a1])], [PureX Try.prog 38 #[ii (1), ii (1), ii (4)] (rt (bb (true))), PureX Try.prog 38 #[ii (a1), ii (1), ii (1024)] (rt (bb (true))), PureX Try.prog 38 #[ii (g), ii (1), ii (1048576)] (rt (bb (true))), PureX Try.prog 38 #[ii (b), ii (1), ii (1048576)] (rt (bb (true))), PureX Try.prog 38 #[ii (t'), ii (1), ii (65536)] (rt (bb (true))), PureX Try.prog 38 #[ii (q), ii (1), ii (wi (2 * b))] (rt (bb (true))), PureX Try.prog 38 #[ii (m), ii (0), ii (4)] (rt (bb (false)))]) := by kernel_rfl
theorem dwhy_1_7 (cap : Nat) (a1 g b t' q m : Int) : runF Try.prog 1000 [1] 23 #[cv (slw 1 0 1 cap) g b t' q m] [(1, wib [a1])] [n, n, n, n, n, n, n, n, n] [(38, rt (bb true)), (38, rt (bb true)), (38, rt (bb true)), (38, rt (bb true)), (38, rt (bb true)), (38, rt (bb true)), (38, rt (bb true))] [] [] =
    some (rt (str []), [(1, wib [a1])], [PureX Try.prog 38 #[ii (1), ii (1), ii (4)] (rt (bb (true))), PureX Try.prog 38 #[ii (a1), ii (1), ii (1024)] (rt (bb (true))), PureX Try.prog 38 #[ii (g), ii (1), ii (1048576)] (rt (bb (true))), PureX Try.prog 38 #[ii (b), ii (1), ii (1048576)] (rt (bb (true))), PureX Try.prog 38 #[ii (t'), ii (1), ii (65536)] (rt (bb (true))), PureX Try.prog 38 #[ii (q), ii (1), ii (wi (2 * b))] (rt (bb (true))), PureX Try.prog 38 #[ii (m), ii (0), ii (4)] (rt (bb (true)))]) := by kernel_rfl
theorem dwhy_2_m0 (cap : Nat) (a1 a2 g b t' q m : Int) : runF Try.prog 1000 [1] 23 #[cv (slw 1 0 2 cap) g b t' q m] [(1, wib [a1, a2])] [n, n, n] [(38, rt (bb true)), (38, rt (bb false))] [] [] =
    some (rt (str nMass), [(1, wib [a1, a2])], [PureX Try.prog 38 #[ii (2), ii (1), ii (4)] (rt (bb (true))), PureX Try.prog 38 #[ii (a1), ii (1), ii (1024)] (rt (bb (false)))]) := by kernel_rfl
theorem dwhy_2_m1 (cap : Nat) (a1 a2 g b t' q m : Int) : runF Try.prog 1000 [1] 23 #[cv (slw 1 0 2 cap) g b t' q m] [(1, wib [a1, a2])] [n, n, n, n, n] [(38, rt (bb true)), (38, rt (bb true)), (38, rt (bb false))] [] [] =
    some (rt (str nMass), [(1, wib [a1, a2])], [PureX Try.prog 38 #[ii (2), ii (1), ii (4)] (rt (bb (true))), PureX Try.prog 38 #[ii (a1), ii (1), ii (1024)] (rt (bb (true))), PureX Try.prog 38 #[ii (a2), ii (1), ii (1024)] (rt (bb (false)))]) := by kernel_rfl
theorem dwhy_2_2 (cap : Nat) (a1 a2 g b t' q m : Int) : runF Try.prog 1000 [1] 23 #[cv (slw 1 0 2 cap) g b t' q m] [(1, wib [a1, a2])] [n, n, n, n, n, n, n] [(38, rt (bb true)), (38, rt (bb true)), (38, rt (bb true)), (38, rt (bb false))] [] [] =
    some (rt (str nConst), [(1, wib [a1, a2])], [PureX Try.prog 38 #[ii (2), ii (1), ii (4)] (rt (bb (true))), PureX Try.prog 38 #[ii (a1), ii (1), ii (1024)] (rt (bb (true))), PureX Try.prog 38 #[ii (a2), ii (1), ii (1024)] (rt (bb (true))), PureX Try.prog 38 #[ii (g), ii (1), ii (1048576)] (rt (bb (false)))]) := by kernel_rfl
theorem dwhy_2_3 (cap : Nat) (a1 a2 g b t' q m : Int) : runF Try.prog 1000 [1] 23 #[cv (slw 1 0 2 cap) g b t' q m] [(1, wib [a1, a2])] [n, n, n, n, n, n, n, n] [(38, rt (bb true)), (38, rt (bb true)), (38, rt (bb true)), (38, rt (bb true)), (38, rt (bb false))] [] [] =
    some (rt (str nBox), [(1, wib [a1, a2])], [PureX Try.prog 38 #[ii (2), ii (1), ii (4)] (rt (bb (true))), PureX Try.prog 38 #[ii (a1), ii (1), ii (1024)] (rt (bb (true))), PureX Try.prog 38 #[ii (a2), ii (1), ii (1024)] (rt (bb (true))), PureX Try.prog 38 #[ii (g), ii (1), ii (1048576)] (rt (bb (true))), PureX Try.prog 38 #[ii (b), ii (1), ii (1048576)] (rt (bb (false)))]) := by kernel_rfl
theorem dwhy_2_4 (cap : Nat) (a1 a2 g b t' q m : Int) : runF Try.prog 1000 [1] 23 #[cv (slw 1 0 2 cap) g b t' q m] [(1, wib [a1, a2])] [n, n, n, n, n, n, n, n, n] [(38, rt (bb true)), (38, rt (bb true)), (38, rt (bb true)), (38, rt (bb true)), (38, rt (bb true)), (38, rt (bb false))] [] [] =
    some (rt (str nTop), [(1, wib [a1, a2])], [PureX Try.prog 38 #[ii (2), ii (1), ii (4)] (rt (bb (true))), PureX Try.prog 38 #[ii (a1), ii (1), ii (1024)] (rt (bb (true))), PureX Try.prog 38 #[ii (a2), ii (1), ii (1024)] (rt (bb (true))), PureX Try.prog 38 #[ii (g), ii (1), ii (1048576)] (rt (bb (true))), PureX Try.prog 38 #[ii (b), ii (1), ii (1048576)] (rt (bb (true))), PureX Try.prog 38 #[ii (t'), ii (1), ii (65536)] (rt (bb (false)))]) := by kernel_rfl
theorem dwhy_2_5 (cap : Nat) (a1 a2 g b t' q m : Int) : runF Try.prog 1000 [1] 23 #[cv (slw 1 0 2 cap) g b t' q m] [(1, wib [a1, a2])] [n, n, n, n, n, n, n, n, n, n] [(38, rt (bb true)), (38, rt (bb true)), (38, rt (bb true)), (38, rt (bb true)), (38, rt (bb true)), (38, rt (bb true)), (38, rt (bb false))] [] [] =
    some (rt (str nNear), [(1, wib [a1, a2])], [PureX Try.prog 38 #[ii (2), ii (1), ii (4)] (rt (bb (true))), PureX Try.prog 38 #[ii (a1), ii (1), ii (1024)] (rt (bb (true))), PureX Try.prog 38 #[ii (a2), ii (1), ii (1024)] (rt (bb (true))), PureX Try.prog 38 #[ii (g), ii (1), ii (1048576)] (rt (bb (true))), PureX Try.prog 38 #[ii (b), ii (1), ii (1048576)] (rt (bb (true))), PureX Try.prog 38 #[ii (t'), ii (1), ii (65536)] (rt (bb (true))), PureX Try.prog 38 #[ii (q), ii (1), ii (wi (2 * b))] (rt (bb (false)))]) := by kernel_rfl
theorem dwhy_2_6 (cap : Nat) (a1 a2 g b t' q m : Int) : runF Try.prog 1000 [1] 23 #[cv (slw 1 0 2 cap) g b t' q m] [(1, wib [a1, a2])] [n, n, n, n, n, n, n, n, n, n, n] [(38, rt (bb true)), (38, rt (bb true)), (38, rt (bb true)), (38, rt (bb true)), (38, rt (bb true)), (38, rt (bb true)), (38, rt (bb true)), (38, rt (bb false))] [] [] =
    some (rt (str nMeth), [(1, wib [a1, a2])], [PureX Try.prog 38 #[ii (2), ii (1), ii (4)] (rt (bb (true))), PureX Try.prog 38 #[ii (a1), ii (1), ii (1024)] (rt (bb (true))), PureX Try.prog 38 #[ii (a2), ii (1), ii (1024)] (rt (bb (true))), PureX Try.prog 38 #[ii (g), ii (1), ii (1048576)] (rt (bb (true))), PureX Try.prog 38 #[ii (b), ii (1), ii (1048576)] (rt (bb (true))), PureX Try.prog 38 #[ii (t'), ii (1), ii (65536)] (rt (bb (true))), PureX Try.prog 38 #[ii (q), ii (1), ii (wi (2 * b))] (rt (bb (true))), PureX Try.prog 38 #[ii (m), ii (0), ii (4)] (rt (bb (false)))]) := by kernel_rfl
theorem dwhy_2_7 (cap : Nat) (a1 a2 g b t' q m : Int) : runF Try.prog 1000 [1] 23 #[cv (slw 1 0 2 cap) g b t' q m] [(1, wib [a1, a2])] [n, n, n, n, n, n, n, n, n, n, n] [(38, rt (bb true)), (38, rt (bb true)), (38, rt (bb true)), (38, rt (bb true)), (38, rt (bb true)), (38, rt (bb true)), (38, rt (bb true)), (38, rt (bb true))] [] [] =
    some (rt (str []), [(1, wib [a1, a2])], [PureX Try.prog 38 #[ii (2), ii (1), ii (4)] (rt (bb (true))), PureX Try.prog 38 #[ii (a1), ii (1), ii (1024)] (rt (bb (true))), PureX Try.prog 38 #[ii (a2), ii (1), ii (1024)] (rt (bb (true))), PureX Try.prog 38 #[ii (g), ii (1), ii (1048576)] (rt (bb (true))), PureX Try.prog 38 #[ii (b), ii (1), ii (1048576)] (rt (bb (true))), PureX Try.prog 38 #[ii (t'), ii (1), ii (65536)] (rt (bb (true))), PureX Try.prog 38 #[ii (q), ii (1), ii (wi (2 * b))] (rt (bb (true))), PureX Try.prog 38 #[ii (m), ii (0), ii (4)] (rt (bb (true)))]) := by kernel_rfl
theorem dwhy_3_m0 (cap : Nat) (a1 a2 a3 g b t' q m : Int) : runF Try.prog 1000 [1] 23 #[cv (slw 1 0 3 cap) g b t' q m] [(1, wib [a1, a2, a3])] [n, n, n] [(38, rt (bb true)), (38, rt (bb false))] [] [] =
    some (rt (str nMass), [(1, wib [a1, a2, a3])], [PureX Try.prog 38 #[ii (3), ii (1), ii (4)] (rt (bb (true))), PureX Try.prog 38 #[ii (a1), ii (1), ii (1024)] (rt (bb (false)))]) := by kernel_rfl
theorem dwhy_3_m1 (cap : Nat) (a1 a2 a3 g b t' q m : Int) : runF Try.prog 1000 [1] 23 #[cv (slw 1 0 3 cap) g b t' q m] [(1, wib [a1, a2, a3])] [n, n, n, n, n] [(38, rt (bb true)), (38, rt (bb true)), (38, rt (bb false))] [] [] =
    some (rt (str nMass), [(1, wib [a1, a2, a3])], [PureX Try.prog 38 #[ii (3), ii (1), ii (4)] (rt (bb (true))), PureX Try.prog 38 #[ii (a1), ii (1), ii (1024)] (rt (bb (true))), PureX Try.prog 38 #[ii (a2), ii (1), ii (1024)] (rt (bb (false)))]) := by kernel_rfl
theorem dwhy_3_m2 (cap : Nat) (a1 a2 a3 g b t' q m : Int) : runF Try.prog 1000 [1] 23 #[cv (slw 1 0 3 cap) g b t' q m] [(1, wib [a1, a2, a3])] [n, n, n, n, n, n, n] [(38, rt (bb true)), (38, rt (bb true)), (38, rt (bb true)), (38, rt (bb false))] [] [] =
    some (rt (str nMass), [(1, wib [a1, a2, a3])], [PureX Try.prog 38 #[ii (3), ii (1), ii (4)] (rt (bb (true))), PureX Try.prog 38 #[ii (a1), ii (1), ii (1024)] (rt (bb (true))), PureX Try.prog 38 #[ii (a2), ii (1), ii (1024)] (rt (bb (true))), PureX Try.prog 38 #[ii (a3), ii (1), ii (1024)] (rt (bb (false)))]) := by kernel_rfl
theorem dwhy_3_2 (cap : Nat) (a1 a2 a3 g b t' q m : Int) : runF Try.prog 1000 [1] 23 #[cv (slw 1 0 3 cap) g b t' q m] [(1, wib [a1, a2, a3])] [n, n, n, n, n, n, n, n, n] [(38, rt (bb true)), (38, rt (bb true)), (38, rt (bb true)), (38, rt (bb true)), (38, rt (bb false))] [] [] =
    some (rt (str nConst), [(1, wib [a1, a2, a3])], [PureX Try.prog 38 #[ii (3), ii (1), ii (4)] (rt (bb (true))), PureX Try.prog 38 #[ii (a1), ii (1), ii (1024)] (rt (bb (true))), PureX Try.prog 38 #[ii (a2), ii (1), ii (1024)] (rt (bb (true))), PureX Try.prog 38 #[ii (a3), ii (1), ii (1024)] (rt (bb (true))), PureX Try.prog 38 #[ii (g), ii (1), ii (1048576)] (rt (bb (false)))]) := by kernel_rfl
theorem dwhy_3_3 (cap : Nat) (a1 a2 a3 g b t' q m : Int) : runF Try.prog 1000 [1] 23 #[cv (slw 1 0 3 cap) g b t' q m] [(1, wib [a1, a2, a3])] [n, n, n, n, n, n, n, n, n, n] [(38, rt (bb true)), (38, rt (bb true)), (38, rt (bb true)), (38, rt (bb true)), (38, rt (bb true)), (38, rt (bb false))] [] [] =
    some (rt (str nBox), [(1, wib [a1, a2, a3])], [PureX Try.prog 38 #[ii (3), ii (1), ii (4)] (rt (bb (true))), PureX Try.prog 38 #[ii (a1), ii (1), ii (1024)] (rt (bb (true))), PureX Try.prog 38 #[ii (a2), ii (1), ii (1024)] (rt (bb (true))), PureX Try.prog 38 #[ii (a3), ii (1), ii (1024)] (rt (bb (true))), PureX Try.prog 38 #[ii (g), ii (1), ii (1048576)] (rt (bb (true))), PureX Try.prog 38 #[ii (b), ii (1), ii (1048576)] (rt (bb (false)))]) := by kernel_rfl
theorem dwhy_3_4 (cap : Nat) (a1 a2 a3 g b t' q m : Int) : runF Try.prog 1000 [1] 23 #[cv (slw 1 0 3 cap) g b t' q m] [(1, wib [a1, a2, a3])] [n, n, n, n, n, n, n, n, n, n, n] [(38, rt (bb true)), (38, rt (bb true)), (38, rt (bb true)), (38, rt (bb true)), (38, rt (bb true)), (38, rt (bb true)), (38, rt (bb false))] [] [] =
    some (rt (str nTop), [(1, wib [a1, a2, a3])], [PureX Try.prog 38 #[ii (3), ii (1), ii (4)] (rt (bb (true))), PureX Try.prog 38 #[ii (a1), ii (1), ii (1024)] (rt (bb (true))), PureX Try.prog 38 #[ii (a2), ii (1), ii (1024)] (rt (bb (true))), PureX Try.prog 38 #[ii (a3), ii (1), ii (1024)] (rt (bb (true))), PureX Try.prog 38 #[ii (g), ii (1), ii (1048576)] (rt (bb (true))), PureX Try.prog 38 #[ii (b), ii (1), ii (1048576)] (rt (bb (true))), PureX Try.prog 38 #[ii (t'), ii (1), ii (65536)] (rt (bb (false)))]) := by kernel_rfl
theorem dwhy_3_5 (cap : Nat) (a1 a2 a3 g b t' q m : Int) : runF Try.prog 1000 [1] 23 #[cv (slw 1 0 3 cap) g b t' q m] [(1, wib [a1, a2, a3])] [n, n, n, n, n, n, n, n, n, n, n, n] [(38, rt (bb true)), (38, rt (bb true)), (38, rt (bb true)), (38, rt (bb true)), (38, rt (bb true)), (38, rt (bb true)), (38, rt (bb true)), (38, rt (bb false))] [] [] =
    some (rt (str nNear), [(1, wib [a1, a2, a3])], [PureX Try.prog 38 #[ii (3), ii (1), ii (4)] (rt (bb (true))), PureX Try.prog 38 #[ii (a1), ii (1), ii (1024)] (rt (bb (true))), PureX Try.prog 38 #[ii (a2), ii (1), ii (1024)] (rt (bb (true))), PureX Try.prog 38 #[ii (a3), ii (1), ii (1024)] (rt (bb (true))), PureX Try.prog 38 #[ii (g), ii (1), ii (1048576)] (rt (bb (true))), PureX Try.prog 38 #[ii (b), ii (1), ii (1048576)] (rt (bb (true))), PureX Try.prog 38 #[ii (t'), ii (1), ii (65536)] (rt (bb (true))), PureX Try.prog 38 #[ii (q), ii (1), ii (wi (2 * b))] (rt (bb (false)))]) := by kernel_rfl
theorem dwhy_3_6 (cap : Nat) (a1 a2 a3 g b t' q m : Int) : runF Try.prog 1000 [1] 23 #[cv (slw 1 0 3 cap) g b t' q m] [(1, wib [a1, a2, a3])] [n, n, n, n, n, n, n, n, n, n, n, n, n] [(38, rt (bb true)), (38, rt (bb true)), (38, rt (bb true)), (38, rt (bb true)), (38, rt (bb true)), (38, rt (bb true)), (38, rt (bb true)), (38, rt (bb true)), (38, rt (bb false))] [] [] =
    some (rt (str nMeth), [(1, wib [a1, a2, a3])], [PureX Try.prog 38 #[ii (3), ii (1), ii (4)] (rt (bb (true))), PureX Try.prog 38 #[ii (a1), ii (1), ii (1024)] (rt (bb (true))), PureX Try.prog 38 #[ii (a2), ii (1), ii (1024)] (rt (bb (true))), PureX Try.prog 38 #[ii (a3), ii (1), ii (1024)] (rt (bb (true))), PureX Try.prog 38 #[ii (g), ii (1), ii (1048576)] (rt (bb (true))), PureX Try.prog 38 #[ii (b), ii (1), ii (1048576)] (rt (bb (true))), PureX Try.prog 38 #[ii (t'), ii (1), ii (65536)] (rt (bb (true))), PureX Try.prog 38 #[ii (q), ii (1), ii (wi (2 * b))] (rt (bb (true))), PureX Try.prog 38 #[ii (m), ii (0), ii (4)] (rt (bb (false)))]) := by kernel_rfl
theorem dwhy_3_7 (cap : Nat) (a1 a2 a3 g b t' q m : Int) : runF Try.prog 1000 [1] 23 #[cv (slw 1 0 3 cap) g b t' q m] [(1, wib [a1, a2, a3])] [n, n, n, n, n, n, n, n, n, n, n, n, n] [(38, rt (bb true)), (38, rt (bb true)), (38, rt (bb true)), (38, rt (bb true)), (38, rt (bb true)), (38, rt (bb true)), (38, rt (bb true)), (38, rt (bb true)), (38, rt (bb true))] [] [] =
    some (rt (str []), [(1, wib [a1, a2, a3])], [PureX Try.prog 38 #[ii (3), ii (1), ii (4)] (rt (bb (true))), PureX Try.prog 38 #[ii (a1), ii (1), ii (1024)] (rt (bb (true))), PureX Try.prog 38 #[ii (a2), ii (1), ii (1024)] (rt (bb (true))), PureX Try.prog 38 #[ii (a3), ii (1), ii (1024)] (rt (bb (true))), PureX Try.prog 38 #[ii (g), ii (1), ii (1048576)] (rt (bb (true))), PureX Try.prog 38 #[ii (b), ii (1), ii (1048576)] (rt (bb (true))), PureX Try.prog 38 #[ii (t'), ii (1), ii (65536)] (rt (bb (true))), PureX Try.prog 38 #[ii (q), ii (1), ii (wi (2 * b))] (rt (bb (true))), PureX Try.prog 38 #[ii (m), ii (0), ii (4)] (rt (bb (true)))]) := by kernel_rfl
theorem dwhy_4_m0 (cap : Nat) (a1 a2 a3 a4 g b t' q m : Int) : runF Try.prog 1000 [1] 23 #[cv (slw 1 0 4 cap) g b t' q m] [(1, wib [a1, a2, a3, a4])] [n, n, n] [(38, rt (bb true)), (38, rt (bb false))] [] [] =
    some (rt (str nMass), [(1, wib [a1, a2, a3, a4])], [PureX Try.prog 38 #[ii (4), ii (1), ii (4)] (rt (bb (true))), PureX Try.prog 38 #[ii (a1), ii (1), ii (1024)] (rt (bb (false)))]) := by kernel_rfl
theorem dwhy_4_m1 (cap : Nat) (a1 a2 a3 a4 g b t' q m : Int) : runF Try.prog 1000 [1] 23 #[cv (slw 1 0 4 cap) g b t' q m] [(1, wib [a1, a2, a3, a4])] [n, n, n, n, n] [(38, rt (bb true)), (38, rt (bb true)), (38, rt (bb false))] [] [] =
    some (rt (str nMass), [(1, wib [a1, a2, a3, a4])], [PureX Try.prog 38 #[ii (4), ii (1), ii (4)] (rt (bb (true))), PureX Try.prog 38 #[ii (a1), ii (1), ii (1024)] (rt (bb (true))), PureX Try.prog 38 #[ii (a2), ii (1), ii (1024)] (rt (bb (false)))]) := by kernel_rfl
theorem dwhy_4_m2 (cap : Nat) (a1 a2 a3 a4 g b t' q m : Int) : runF Try.prog 1000 [1] 23 #[cv (slw 1 0 4 cap) g b t' q m] [(1, wib [a1, a2, a3, a4])] [n, n, n, n, n, n, n] [(38, rt (bb true)), (38, rt (bb true)), (38, rt (bb true)), (38, rt (bb false))] [] [] =
    some (rt (str nMass), [(1, wib [a1, a2, a3, a4])], [PureX Try.prog 38 #[ii (4), ii (1), ii (4)] (rt (bb (true))), PureX Try.prog 38 #[ii (a1), ii (1), ii (1024)] (rt (bb (true))), PureX Try.prog 38 #[ii (a2), ii (1), ii (1024)] (rt (bb (true))), PureX Try.prog 38 #[ii (a3), ii (1), ii (1024)] (rt (bb (false)))]) := by kernel_rfl
theorem dwhy_4_m3 (cap : Nat) (a1 a2 a3 a4 g b t' q m : Int) : runF Try.prog 1000 [1] 23 #[cv (slw 1 0 4 cap) g b t' q m] [(1, wib [a1, a2, a3, a4])] [n, n, n, n, n, n, n, n, n] [(38, rt (bb true)), (38, rt (bb true)), (38, rt (bb true)), (38, rt (bb true)), (38, rt (bb false))] [] [] =
    some (rt (str nMass), [(1, wib [a1, a2, a3, a4])], [PureX Try.prog 38 #[ii (4), ii (1), ii (4)] (rt (bb (true))), PureX Try.prog 38 #[ii (a1), ii (1), ii (1024)] (rt (bb (true))), PureX Try.prog 38 #[ii (a2), ii (1), ii (1024)] (rt (bb (true))), PureX Try.prog 38 #[ii (a3), ii (1), ii (1024)] (rt (bb (true))), PureX Try.prog 38 #[ii (a4), ii (1), ii (1024)] (rt (bb (false)))]) := by kernel_rfl
theorem dwhy_4_2 (cap : Nat) (a1 a2 a3 a4 g b t' q m : Int) : runF Try.prog 1000 [1] 23 #[cv (slw 1 0 4 cap) g b t' q m] [(1, wib [a1, a2, a3, a4])] [n, n, n, n, n, n, n, n, n, n, n] [(38, rt (bb true)), (38, rt (bb true)), (38, rt (bb true)), (38, rt (bb true)), (38, rt (bb true)), (38, rt (bb false))] [] [] =
    some (rt (str nConst), [(1, wib [a1, a2, a3, a4])], [PureX Try.prog 38 #[ii (4), ii (1), ii (4)] (rt (bb (true))), PureX Try.prog 38 #[ii (a1), ii (1), ii (1024)] (rt (bb (true))), PureX Try.prog 38 #[ii (a2), ii (1), ii (1024)] (rt (bb (true))), PureX Try.prog 38 #[ii (a3), ii (1), ii (1024)] (rt (bb (true))), PureX Try.prog 38 #[ii (a4), ii (1), ii (1024)] (rt (bb (true))), PureX Try.prog 38 #[ii (g), ii (1), ii (1048576)] (rt (bb (false)))]) := by kernel_rfl
theorem dwhy_4_3 (cap : Nat) (a1 a2 a3 a4 g b t' q m : Int) : runF Try.prog 1000 [1] 23 #[cv (slw 1 0 4 cap) g b t' q m] [(1, wib [a1, a2, a3, a4])] [n, n, n, n, n, n, n, n, n, n, n, n] [(38, rt (bb true)), (38, rt (bb true)), (38, rt (bb true)), (38, rt (bb true)), (38, rt (bb true)), (38, rt (bb true)), (38, rt (bb false))] [] [] =
    some (rt (str nBox), [(1, wib [a1, a2, a3, a4])], [PureX Try.prog 38 #[ii (4), ii (1), ii (4)] (rt (bb (true))), PureX Try.prog 38 #[ii (a1), ii (1), ii (1024)] (rt (bb (true))), PureX Try.prog 38 #[ii (a2), ii (1), ii (1024)] (rt (bb (true))), PureX Try.prog 38 #[ii (a3), ii (1), ii (1024)] (rt (bb (true))), PureX Try.prog 38 #[ii (a4), ii (1), ii (1024)] (rt (bb (true))), PureX Try.prog 38 #[ii (g), ii (1), ii (1048576)] (rt (bb (true))), PureX Try.prog 38 #[ii (b), ii (1), ii (1048576)] (rt (bb (false)))]) := by kernel_rfl
theorem dwhy_4_4 (cap : Nat) (a1 a2 a3 a4 g b t' q m : Int) : runF Try.prog 1000 [1] 23 #[cv (slw 1 0 4 cap) g b t' q m] [(1, wib [a1, a2, a3, a4])] [n, n, n, n, n, n, n, n, n, n, n, n, n] [(38, rt (bb true)), (38, rt (bb true)), (38, rt (bb true)), (38, rt (bb true)), (38, rt (bb true)), (38, rt (bb true)), (38, rt (bb true)), (38, rt (bb false))] [] [] =
    some (rt (str nTop), [(1, wib [a1, a2, a3, a4])], [PureX Try.prog 38 #[ii (4), ii (1), ii (4)] (rt (bb (true))), PureX Try.prog 38 #[ii (a1), ii (1), ii (1024)] (rt (bb (true))), PureX Try.prog 38 #[ii (a2), ii (1), ii (1024)] (rt (bb (true))), PureX Try.prog 38 #[ii (a3), ii (1), ii (1024)] (rt (bb (true))), PureX Try.prog 38 #[ii (a4), ii (1), ii (1024)] (rt (bb (true))), PureX Try.prog 38 #[ii (g), ii (1), ii (1048576)] (rt (bb (true))), PureX Try.prog 38 #[ii (b), ii (1), ii (1048576)] (rt (bb (true))), PureX Try.prog 38 #[ii (t'), ii (1), ii (65536)] (rt (bb (false)))]) := by kernel_rfl
theorem dwhy_4_5 (cap : Nat) (a1 a2 a3 a4 g b t' q m : Int) : runF Try.prog 1000 [1] 23 #[cv (slw 1 0 4 cap) g b t' q m] [(1, wib [a1, a2, a3, a4])] [n, n, n, n, n, n, n, n, n, n, n, n, n, n] [(38, rt (bb true)), (38, rt (bb true)), (38, rt (bb true)), (38, rt (bb true)), (38, rt (bb true)), (38, rt (bb true)), (38, rt (bb true)), (38, rt (bb true)), (38, rt (bb false))] [] [] =
    some (rt (str nNear), [(1, wib [a1, a2, a3, a4])], [PureX Try.prog 38 #[ii (4), ii (1), ii (4)] (rt (bb (true))), PureX Try.prog 38 #[ii (a1), ii (1), ii (1024)] (rt (bb (true))), PureX Try.prog 38 #[ii (a2), ii (1), ii (1024)] (rt (bb (true))), PureX Try.prog 38 #[ii (a3), ii (1), ii (1024)] (rt (bb (true))), PureX Try.prog 38 #[ii (a4), ii (1), ii (1024)] (rt (bb (true))), PureX Try.prog 38 #[ii (g), ii (1), ii (1048576)] (rt (bb (true))), PureX Try.prog 38 #[ii (b), ii (1), ii (1048576)] (rt (bb (true))), PureX Try.prog 38 #[ii (t'), ii (1), ii (65536)] (rt (bb (true))), PureX Try.prog 38 #[ii (q), ii (1), ii (wi (2 * b))] (rt (bb (false)))]) := by kernel_rfl
theorem dwhy_4_6 (cap : Nat) (a1 a2 a3 a4 g b t' q m : Int) : runF Try.prog 1000 [1] 23 #[cv (slw 1 0 4 cap) g b t' q m] [(1, wib [a1, a2, a3, a4])] [n, n, n, n, n, n, n, n, n, n, n, n, n, n, n] [(38, rt (bb true)), (38, rt (bb true)), (38, rt (bb true)), (38, rt (bb true)), (38, rt (bb true)), (38, rt (bb true)), (38, rt (bb true)), (38, rt (bb true)), (38, rt (bb true)), (38, rt (bb false))] [] [] =
    some (rt (str nMeth), [(1, wib [a1, a2, a3, a4])], [PureX Try.prog 38 #[ii (4), ii (1), ii (4)] (rt (bb (true))), PureX Try.prog 38 #[ii (a1), ii (1), ii (1024)] (rt (bb (true))), PureX Try.prog 38 #[ii (a2), ii (1), ii (1024)] (rt (bb (true))), PureX Try.prog 38 #[ii (a3), ii (1), ii (1024)] (rt (bb (true))), PureX Try.prog 38 #[ii (a4), ii (1), ii (1024)] (rt (bb (true))), PureX Try.prog 38 #[ii (g), ii (1), ii (1048576)] (rt (bb (true))), PureX Try.prog 38 #[ii (b), ii (1), ii (1048576)] (rt (bb (true))), PureX Try.prog 38 #[ii (t'), ii (1), ii (65536)] (rt (bb (true))), PureX Try.prog 38 #[ii (q), ii (1), ii (wi (2 * b))] (rt (bb (true))), PureX Try.prog 38 #[ii (m), ii (0), ii (4)] (rt (bb (false)))]) := by kernel_rfl
theorem dwhy_4_7 (cap : Nat) (a1 a2 a3 a4 g b t' q m : Int) : runF Try.prog 1000 [1] 23 #[cv (slw 1 0 4 cap) g b t' q m] [(1, wib [a1, a2, a3, a4])] [n, n, n, n, n, n, n, n, n, n, n, n, n, n, n] [(38, rt (bb true)), (38, rt (bb true)), (38, rt (bb true)), (38, rt (bb true)), (38, rt (bb true)), (38, rt (bb true)), (38, rt (bb true)), (38, rt (bb true)), (38, rt (bb true)), (38, rt (bb true))] [] [] =
    some (rt (str []), [(1, wib [a1, a2, a3, a4])], [PureX Try.prog 38 #[ii (4), ii (1), ii (4)] (rt (bb (true))), PureX Try.prog 38 #[ii (a1), ii (1), ii (1024)] (rt (bb (true))), PureX Try.prog 38 #[ii (a2), ii (1), ii (1024)] (rt (bb (true))), PureX Try.prog 38 #[ii (a3), ii (1), ii (1024)] (rt (bb (true))), PureX Try.prog 38 #[ii (a4), ii (1), ii (1024)] (rt (bb (true))), PureX Try.prog 38 #[ii (g), ii (1), ii (1048576)] (rt (bb (true))), PureX Try.prog 38 #[ii (b), ii (1), ii (1048576)] (rt (bb (true))), PureX Try.prog 38 #[ii (t'), ii (1), ii (65536)] (rt (bb (true))), PureX Try.prog 38 #[ii (q), ii (1), ii (wi (2 * b))] (rt (bb (true))), PureX Try.prog 38 #[ii (m), ii (0), ii (4)] (rt (bb (true)))]) := by kernel_rfl
end Go.Proofs.Ytpllklojcjhjaaa

/- Configurations: what each call answers, wherever the masses lie. -/
namespace Go.Proofs.Ytpllklojcjhjaaa
open Go Go.RowKit
set_option linter.unusedSimpArgs false
set_option linter.unusedVariables false
set_option maxRecDepth 100000

theorem w37_v (x lo hi : Int) : PureX Try.prog 85 #[ii x, ii lo, ii hi] (rt (bb (inZ x lo hi))) := by
  unfold inZ
  by_cases h : lo ≤ x
  · rw [decide_eq_true h, Bool.true_and]
    exact runF_pure mix (w37_t x lo hi) ⟨decide_eq_true h, trivial⟩ rfl rfl
  · rw [decide_eq_false h, Bool.false_and]
    exact runF_pure mix (w37_f x lo hi) ⟨decide_eq_false h, trivial⟩ rfl rfl
theorem w32_v (x lo hi : Int) : PureX Try.prog 38 #[ii x, ii lo, ii hi] (rt (bb (inZ x lo hi))) := by
  unfold inZ
  by_cases h : lo ≤ x
  · rw [decide_eq_true h, Bool.true_and]
    exact runF_pure mix (w32_t x lo hi) ⟨decide_eq_true h, trivial⟩ rfl rfl
  · rw [decide_eq_false h, Bool.false_and]
    exact runF_pure mix (w32_f x lo hi) ⟨decide_eq_false h, trivial⟩ rfl rfl
theorem w37 {x lo hi : Int} {p : Bool} (h : inZ x lo hi = p) : PureX Try.prog 85 #[ii x, ii lo, ii hi] (rt (bb p)) := h ▸ w37_v x lo hi
theorem w32 {x lo hi : Int} {p : Bool} (h : inZ x lo hi = p) : PureX Try.prog 38 #[ii x, ii lo, ii hi] (rt (bb p)) := h ▸ w32_v x lo hi
theorem may_p {x : Int} {p : Bool} (h : inZ x 1 4 = p) : PureX Try.prog 81 #[ii x] (rt (bb p)) := by
  cases p
  · exact runF_pure mix (may_0 x) ⟨w37 h, trivial⟩ rfl rfl
  · exact runF_pure mix (may_1 x) ⟨w37 h, trivial⟩ rfl rfl
theorem len_4 {L : List Int} (h : inZ (L.length : Int) 1 4 = true) : 1 ≤ L.length ∧ L.length ≤ 4 := by
  have := inZ_iff.1 h
  omega
section
variable (g b t' q m : Int)
theorem light_s {L : List Int} (h : 1 ≤ L.length ∧ L.length ≤ 4) : Sem1 Try.prog 83 (fun s => #[cv s g b t' q m]) L (bb (lightL L)) := by
  match L, h with
  | [a1], _ =>
    refine sem1_seen (ren_cv g b t' q m) rfl (fun h => (by cases h)) (fun cap hl hc => ?_)
    cases e1 : inZ a1 1 1024
    · rw [show lightL [a1] = false by simp [lightL, e1]]
      exact runF_calls mix (light_1_0 cap a1 g b t' q m) ⟨w37 e1, trivial⟩ rfl rfl
    · skip
      rw [show lightL [a1] = true by simp [lightL, e1]]
      exact runF_calls mix (light_1_1 cap a1 g b t' q m) ⟨w37 e1, trivial⟩ rfl rfl
  | [a1, a2], _ =>
    refine sem1_seen (ren_cv g b t' q m) rfl (fun h => (by cases h)) (fun cap hl hc => ?_)
    cases e1 : inZ a1 1 1024
    · rw [show lightL [a1, a2] = false by simp [lightL, e1]]
      exact runF_calls mix (light_2_0 cap a1 a2 g b t' q m) ⟨w37 e1, trivial⟩ rfl rfl
    · skip
      cases e2 : inZ a2 1 1024
      · rw [show lightL [a1, a2] = false by simp [lightL, e2]]
        exact runF_calls mix (light_2_1 cap a1 a2 g b t' q m) ⟨w37 e1, w37 e2, trivial⟩ rfl rfl
      · skip
        rw [show lightL [a1, a2] = true by simp [lightL, e1, e2]]
        exact runF_calls mix (light_2_2 cap a1 a2 g b t' q m) ⟨w37 e1, w37 e2, trivial⟩ rfl rfl
  | [a1, a2, a3], _ =>
    refine sem1_seen (ren_cv g b t' q m) rfl (fun h => (by cases h)) (fun cap hl hc => ?_)
    cases e1 : inZ a1 1 1024
    · rw [show lightL [a1, a2, a3] = false by simp [lightL, e1]]
      exact runF_calls mix (light_3_0 cap a1 a2 a3 g b t' q m) ⟨w37 e1, trivial⟩ rfl rfl
    · skip
      cases e2 : inZ a2 1 1024
      · rw [show lightL [a1, a2, a3] = false by simp [lightL, e2]]
        exact runF_calls mix (light_3_1 cap a1 a2 a3 g b t' q m) ⟨w37 e1, w37 e2, trivial⟩ rfl rfl
      · skip
        cases e3 : inZ a3 1 1024
        · rw [show lightL [a1, a2, a3] = false by simp [lightL, e3]]
          exact runF_calls mix (light_3_2 cap a1 a2 a3 g b t' q m) ⟨w37 e1, w37 e2, w37 e3, trivial⟩ rfl rfl
        · skip
          rw [show lightL [a1, a2, a3] = true by simp [lightL, e1, e2, e3]]
          exact runF_calls mix (light_3_3 cap a1 a2 a3 g b t' q m) ⟨w37 e1, w37 e2, w37 e3, trivial⟩ rfl rfl
  | [a1, a2, a3, a4], _ =>
    refine sem1_seen (ren_cv g b t' q m) rfl (fun h => (by cases h)) (fun cap hl hc => ?_)
    cases e1 : inZ a1 1 1024
    · rw [show lightL [a1, a2, a3, a4] = false by simp [lightL, e1]]
      exact runF_calls mix (light_4_0 cap a1 a2 a3 a4 g b t' q m) ⟨w37 e1, trivial⟩ rfl rfl
    · skip
      cases e2 : inZ a2 1 1024
      · rw [show lightL [a1, a2, a3, a4] = false by simp [lightL, e2]]
        exact runF_calls mix (light_4_1 cap a1 a2 a3 a4 g b t' q m) ⟨w37 e1, w37 e2, trivial⟩ rfl rfl
      · skip
        cases e3 : inZ a3 1 1024
        · rw [show lightL [a1, a2, a3, a4] = false by simp [lightL, e3]]
          exact runF_calls mix (light_4_2 cap a1 a2 a3 a4 g b t' q m) ⟨w37 e1, w37 e2, w37 e3, trivial⟩ rfl rfl
        · skip
          cases e4 : inZ a4 1 1024
          · rw [show lightL [a1, a2, a3, a4] = false by simp [lightL, e4]]
            exact runF_calls mix (light_4_3 cap a1 a2 a3 a4 g b t' q m) ⟨w37 e1, w37 e2, w37 e3, w37 e4, trivial⟩ rfl rfl
          · skip
            rw [show lightL [a1, a2, a3, a4] = true by simp [lightL, e1, e2, e3, e4]]
            exact runF_calls mix (light_4_4 cap a1 a2 a3 a4 g b t' q m) ⟨w37 e1, w37 e2, w37 e3, w37 e4, trivial⟩ rfl rfl
  | [], h => exact absurd h.1 (by decide)
  | _ :: _ :: _ :: _ :: _ :: r, h => exact absurd h.2 (by simp)
/-- The name that is told. -/
theorem why_s (L : List Int) : Sem1 Try.prog 48 (fun s => #[cv s g b t' q m]) L (str (whyL L g b t' q m)) := by
  refine sem1_mk (ren_cv g b t' q m) rfl (fun h => ?_) (fun off cap hl hc => ?_)
  · subst h
    exact runF_pure mix (why_n g b t' q m) ⟨may_p rfl, trivial⟩ rfl rfl
  cases h0 : inZ (L.length : Int) 1 4
  · rw [show whyL L g b t' q m = nBodies by simp [whyL, h0]]
    exact runF_calls mix (why_0 off L.length cap _ g b t' q m) ⟨may_p h0, trivial⟩ rfl rfl
  have w := sem1_calls (light_s g b t' q m (len_4 h0)) (ren_cv g b t' q m) rfl (H := [(1, win off (cwx fl1 off L))]) (s := slw 1 off L.length cap) (fun β w hR => ll_win hR rfl hl hc)
  cases h1 : lightL L
  · rw [show whyL L g b t' q m = nMass by simp [whyL, h0, h1]]
    rw [h1] at w
    exact runF_calls mix (why_1 off L.length cap _ g b t' q m) ⟨may_p h0, w, trivial⟩ rfl rfl
  rw [h1] at w
  cases c0 : inZ g 1 1048576
  · rw [show whyL L g b t' q m = nConst by simp [whyL, h0, h1, c0]]
    exact runF_calls mix (why_2 off L.length cap _ g b t' q m) ⟨may_p h0, w, w37 c0, trivial⟩ rfl rfl
  cases c1 : inZ b 1 1048576
  · rw [show whyL L g b t' q m = nBox by simp [whyL, h0, h1, c0, c1]]
    exact runF_calls mix (why_3 off L.length cap _ g b t' q m) ⟨may_p h0, w, w37 c0, w37 c1, trivial⟩ rfl rfl
  cases c2 : inZ t' 1 65536
  · rw [show whyL L g b t' q m = nTop by simp [whyL, h0, h1, c0, c1, c2]]
    exact runF_calls mix (why_4 off L.length cap _ g b t' q m) ⟨may_p h0, w, w37 c0, w37 c1, w37 c2, trivial⟩ rfl rfl
  cases c3 : inZ q 1 (wi (2 * b))
  · rw [show whyL L g b t' q m = nNear by simp [whyL, h0, h1, c0, c1, c2, c3]]
    exact runF_calls mix (why_5 off L.length cap _ g b t' q m) ⟨may_p h0, w, w37 c0, w37 c1, w37 c2, w37 c3, trivial⟩ rfl rfl
  cases c4 : inZ m 0 4
  · rw [show whyL L g b t' q m = nMeth by simp [whyL, h0, h1, c0, c1, c2, c3, c4]]
    exact runF_calls mix (why_6 off L.length cap _ g b t' q m) ⟨may_p h0, w, w37 c0, w37 c1, w37 c2, w37 c3, w37 c4, trivial⟩ rfl rfl
  rw [show whyL L g b t' q m = [] by simp [whyL, h0, h1, c0, c1, c2, c3, c4]]
  exact runF_calls mix (why_7 off L.length cap _ g b t' q m) ⟨may_p h0, w, w37 c0, w37 c1, w37 c2, w37 c3, w37 c4, trivial⟩ rfl rfl
theorem dwhy_s (L : List Int) : Sem1 Try.prog 23 (fun s => #[cv s g b t' q m]) L (str (whyL L g b t' q m)) := by
  cases h0 : inZ (L.length : Int) 1 4
  · refine sem1_mk (ren_cv g b t' q m) rfl (fun h => ?_) (fun off cap hl hc => ?_)
    · subst h
      exact runF_pure mix (dwhy_n g b t' q m) ⟨w32 rfl, trivial⟩ rfl rfl
    rw [show whyL L g b t' q m = nBodies by simp [whyL, h0]]
    exact runF_calls mix (dwhy_0 off L.length cap _ g b t' q m) ⟨w32 h0, trivial⟩ rfl rfl
  have h := len_4 h0
  match L, h0, h with
  | [a1], h0, _ =>
    refine sem1_seen (ren_cv g b t' q m) rfl (fun h => (by cases h)) (fun cap hl hc => ?_)
    cases e1 : inZ a1 1 1024
    · rw [show whyL [a1] g b t' q m = nMass by simp only [whyL, h0, Bool.true_eq_false, if_false, reduceIte]; simp [lightL, e1]]
      exact runF_calls mix (dwhy_1_m0 cap a1 g b t' q m) ⟨w32 rfl, w32 e1, trivial⟩ rfl rfl
    have hl1 : lightL [a1] = true := by simp [lightL, e1]
    cases c0 : inZ g 1 1048576
    · rw [show whyL [a1] g b t' q m = nConst by simp only [whyL, h0, hl1, c0, Bool.true_eq_false, if_true, if_false, reduceIte]]
      exact runF_calls mix (dwhy_1_2 cap a1 g b t' q m) ⟨w32 rfl, w32 e1, w32 c0, trivial⟩ rfl rfl
    cases c1 : inZ b 1 1048576
    · rw [show whyL [a1] g b t' q m = nBox by simp only [whyL, h0, hl1, c0, c1, Bool.true_eq_false, if_true, if_false, reduceIte]]
      exact runF_calls mix (dwhy_1_3 cap a1 g b t' q m) ⟨w32 rfl, w32 e1, w32 c0, w32 c1, trivial⟩ rfl rfl
    cases c2 : inZ t' 1 65536
    · rw [show whyL [a1] g b t' q m = nTop by simp only [whyL, h0, hl1, c0, c1, c2, Bool.true_eq_false, if_true, if_false, reduceIte]]
      exact runF_calls mix (dwhy_1_4 cap a1 g b t' q m) ⟨w32 rfl, w32 e1, w32 c0, w32 c1, w32 c2, trivial⟩ rfl rfl
    cases c3 : inZ q 1 (wi (2 * b))
    · rw [show whyL [a1] g b t' q m = nNear by simp only [whyL, h0, hl1, c0, c1, c2, c3, Bool.true_eq_false, if_true, if_false, reduceIte]]
      exact runF_calls mix (dwhy_1_5 cap a1 g b t' q m) ⟨w32 rfl, w32 e1, w32 c0, w32 c1, w32 c2, w32 c3, trivial⟩ rfl rfl
    cases c4 : inZ m 0 4
    · rw [show whyL [a1] g b t' q m = nMeth by simp only [whyL, h0, hl1, c0, c1, c2, c3, c4, Bool.true_eq_false, if_true, if_false, reduceIte]]
      exact runF_calls mix (dwhy_1_6 cap a1 g b t' q m) ⟨w32 rfl, w32 e1, w32 c0, w32 c1, w32 c2, w32 c3, w32 c4, trivial⟩ rfl rfl
    rw [show whyL [a1] g b t' q m = [] by simp only [whyL, h0, hl1, c0, c1, c2, c3, c4, Bool.true_eq_false, if_false, reduceIte]]
    exact runF_calls mix (dwhy_1_7 cap a1 g b t' q m) ⟨w32 rfl, w32 e1, w32 c0, w32 c1, w32 c2, w32 c3, w32 c4, trivial⟩ rfl rfl
  | [a1, a2], h0, _ =>
    refine sem1_seen (ren_cv g b t' q m) rfl (fun h => (by cases h)) (fun cap hl hc => ?_)
    cases e1 : inZ a1 1 1024
    · rw [show whyL [a1, a2] g b t' q m = nMass by simp only [whyL, h0, Bool.true_eq_false, if_false, reduceIte]; simp [lightL, e1]]
      exact runF_calls mix (dwhy_2_m0 cap a1 a2 g b t' q m) ⟨w32 rfl, w32 e1, trivial⟩ rfl rfl
    cases e2 : inZ a2 1 1024
    · rw [show whyL [a1, a2] g b t' q m = nMass by simp only [whyL, h0, Bool.true_eq_false, if_false, reduceIte]; simp [lightL, e2]]
      exact runF_calls mix (dwhy_2_m1 cap a1 a2 g b t' q m) ⟨w32 rfl, w32 e1, w32 e2, trivial⟩ rfl rfl
    have hl1 : lightL [a1, a2] = true := by simp [lightL, e1, e2]
    cases c0 : inZ g 1 1048576
    · rw [show whyL [a1, a2] g b t' q m = nConst by simp only [whyL, h0, hl1, c0, Bool.true_eq_false, if_true, if_false, reduceIte]]
      exact runF_calls mix (dwhy_2_2 cap a1 a2 g b t' q m) ⟨w32 rfl, w32 e1, w32 e2, w32 c0, trivial⟩ rfl rfl
    cases c1 : inZ b 1 1048576
    · rw [show whyL [a1, a2] g b t' q m = nBox by simp only [whyL, h0, hl1, c0, c1, Bool.true_eq_false, if_true, if_false, reduceIte]]
      exact runF_calls mix (dwhy_2_3 cap a1 a2 g b t' q m) ⟨w32 rfl, w32 e1, w32 e2, w32 c0, w32 c1, trivial⟩ rfl rfl
    cases c2 : inZ t' 1 65536
    · rw [show whyL [a1, a2] g b t' q m = nTop by simp only [whyL, h0, hl1, c0, c1, c2, Bool.true_eq_false, if_true, if_false, reduceIte]]
      exact runF_calls mix (dwhy_2_4 cap a1 a2 g b t' q m) ⟨w32 rfl, w32 e1, w32 e2, w32 c0, w32 c1, w32 c2, trivial⟩ rfl rfl
    cases c3 : inZ q 1 (wi (2 * b))
    · rw [show whyL [a1, a2] g b t' q m = nNear by simp only [whyL, h0, hl1, c0, c1, c2, c3, Bool.true_eq_false, if_true, if_false, reduceIte]]
      exact runF_calls mix (dwhy_2_5 cap a1 a2 g b t' q m) ⟨w32 rfl, w32 e1, w32 e2, w32 c0, w32 c1, w32 c2, w32 c3, trivial⟩ rfl rfl
    cases c4 : inZ m 0 4
    · rw [show whyL [a1, a2] g b t' q m = nMeth by simp only [whyL, h0, hl1, c0, c1, c2, c3, c4, Bool.true_eq_false, if_true, if_false, reduceIte]]
      exact runF_calls mix (dwhy_2_6 cap a1 a2 g b t' q m) ⟨w32 rfl, w32 e1, w32 e2, w32 c0, w32 c1, w32 c2, w32 c3, w32 c4, trivial⟩ rfl rfl
    rw [show whyL [a1, a2] g b t' q m = [] by simp only [whyL, h0, hl1, c0, c1, c2, c3, c4, Bool.true_eq_false, if_false, reduceIte]]
    exact runF_calls mix (dwhy_2_7 cap a1 a2 g b t' q m) ⟨w32 rfl, w32 e1, w32 e2, w32 c0, w32 c1, w32 c2, w32 c3, w32 c4, trivial⟩ rfl rfl
  | [a1, a2, a3], h0, _ =>
    refine sem1_seen (ren_cv g b t' q m) rfl (fun h => (by cases h)) (fun cap hl hc => ?_)
    cases e1 : inZ a1 1 1024
    · rw [show whyL [a1, a2, a3] g b t' q m = nMass by simp only [whyL, h0, Bool.true_eq_false, if_false, reduceIte]; simp [lightL, e1]]
      exact runF_calls mix (dwhy_3_m0 cap a1 a2 a3 g b t' q m) ⟨w32 rfl, w32 e1, trivial⟩ rfl rfl
    cases e2 : inZ a2 1 1024
    · rw [show whyL [a1, a2, a3] g b t' q m = nMass by simp only [whyL, h0, Bool.true_eq_false, if_false, reduceIte]; simp [lightL, e2]]
      exact runF_calls mix (dwhy_3_m1 cap a1 a2 a3 g b t' q m) ⟨w32 rfl, w32 e1, w32 e2, trivial⟩ rfl rfl
    cases e3 : inZ a3 1 1024
    · rw [show whyL [a1, a2, a3] g b t' q m = nMass by simp only [whyL, h0, Bool.true_eq_false, if_false, reduceIte]; simp [lightL, e3]]
      exact runF_calls mix (dwhy_3_m2 cap a1 a2 a3 g b t' q m) ⟨w32 rfl, w32 e1, w32 e2, w32 e3, trivial⟩ rfl rfl
    have hl1 : lightL [a1, a2, a3] = true := by simp [lightL, e1, e2, e3]
    cases c0 : inZ g 1 1048576
    · rw [show whyL [a1, a2, a3] g b t' q m = nConst by simp only [whyL, h0, hl1, c0, Bool.true_eq_false, if_true, if_false, reduceIte]]
      exact runF_calls mix (dwhy_3_2 cap a1 a2 a3 g b t' q m) ⟨w32 rfl, w32 e1, w32 e2, w32 e3, w32 c0, trivial⟩ rfl rfl
    cases c1 : inZ b 1 1048576
    · rw [show whyL [a1, a2, a3] g b t' q m = nBox by simp only [whyL, h0, hl1, c0, c1, Bool.true_eq_false, if_true, if_false, reduceIte]]
      exact runF_calls mix (dwhy_3_3 cap a1 a2 a3 g b t' q m) ⟨w32 rfl, w32 e1, w32 e2, w32 e3, w32 c0, w32 c1, trivial⟩ rfl rfl
    cases c2 : inZ t' 1 65536
    · rw [show whyL [a1, a2, a3] g b t' q m = nTop by simp only [whyL, h0, hl1, c0, c1, c2, Bool.true_eq_false, if_true, if_false, reduceIte]]
      exact runF_calls mix (dwhy_3_4 cap a1 a2 a3 g b t' q m) ⟨w32 rfl, w32 e1, w32 e2, w32 e3, w32 c0, w32 c1, w32 c2, trivial⟩ rfl rfl
    cases c3 : inZ q 1 (wi (2 * b))
    · rw [show whyL [a1, a2, a3] g b t' q m = nNear by simp only [whyL, h0, hl1, c0, c1, c2, c3, Bool.true_eq_false, if_true, if_false, reduceIte]]
      exact runF_calls mix (dwhy_3_5 cap a1 a2 a3 g b t' q m) ⟨w32 rfl, w32 e1, w32 e2, w32 e3, w32 c0, w32 c1, w32 c2, w32 c3, trivial⟩ rfl rfl
    cases c4 : inZ m 0 4
    · rw [show whyL [a1, a2, a3] g b t' q m = nMeth by simp only [whyL, h0, hl1, c0, c1, c2, c3, c4, Bool.true_eq_false, if_true, if_false, reduceIte]]
      exact runF_calls mix (dwhy_3_6 cap a1 a2 a3 g b t' q m) ⟨w32 rfl, w32 e1, w32 e2, w32 e3, w32 c0, w32 c1, w32 c2, w32 c3, w32 c4, trivial⟩ rfl rfl
    rw [show whyL [a1, a2, a3] g b t' q m = [] by simp only [whyL, h0, hl1, c0, c1, c2, c3, c4, Bool.true_eq_false, if_false, reduceIte]]
    exact runF_calls mix (dwhy_3_7 cap a1 a2 a3 g b t' q m) ⟨w32 rfl, w32 e1, w32 e2, w32 e3, w32 c0, w32 c1, w32 c2, w32 c3, w32 c4, trivial⟩ rfl rfl
  | [a1, a2, a3, a4], h0, _ =>
    refine sem1_seen (ren_cv g b t' q m) rfl (fun h => (by cases h)) (fun cap hl hc => ?_)
    cases e1 : inZ a1 1 1024
    · rw [show whyL [a1, a2, a3, a4] g b t' q m = nMass by simp only [whyL, h0, Bool.true_eq_false, if_false, reduceIte]; simp [lightL, e1]]
      exact runF_calls mix (dwhy_4_m0 cap a1 a2 a3 a4 g b t' q m) ⟨w32 rfl, w32 e1, trivial⟩ rfl rfl
    cases e2 : inZ a2 1 1024
    · rw [show whyL [a1, a2, a3, a4] g b t' q m = nMass by simp only [whyL, h0, Bool.true_eq_false, if_false, reduceIte]; simp [lightL, e2]]
      exact runF_calls mix (dwhy_4_m1 cap a1 a2 a3 a4 g b t' q m) ⟨w32 rfl, w32 e1, w32 e2, trivial⟩ rfl rfl
    cases e3 : inZ a3 1 1024
    · rw [show whyL [a1, a2, a3, a4] g b t' q m = nMass by simp only [whyL, h0, Bool.true_eq_false, if_false, reduceIte]; simp [lightL, e3]]
      exact runF_calls mix (dwhy_4_m2 cap a1 a2 a3 a4 g b t' q m) ⟨w32 rfl, w32 e1, w32 e2, w32 e3, trivial⟩ rfl rfl
    cases e4 : inZ a4 1 1024
    · rw [show whyL [a1, a2, a3, a4] g b t' q m = nMass by simp only [whyL, h0, Bool.true_eq_false, if_false, reduceIte]; simp [lightL, e4]]
      exact runF_calls mix (dwhy_4_m3 cap a1 a2 a3 a4 g b t' q m) ⟨w32 rfl, w32 e1, w32 e2, w32 e3, w32 e4, trivial⟩ rfl rfl
    have hl1 : lightL [a1, a2, a3, a4] = true := by simp [lightL, e1, e2, e3, e4]
    cases c0 : inZ g 1 1048576
    · rw [show whyL [a1, a2, a3, a4] g b t' q m = nConst by simp only [whyL, h0, hl1, c0, Bool.true_eq_false, if_true, if_false, reduceIte]]
      exact runF_calls mix (dwhy_4_2 cap a1 a2 a3 a4 g b t' q m) ⟨w32 rfl, w32 e1, w32 e2, w32 e3, w32 e4, w32 c0, trivial⟩ rfl rfl
    cases c1 : inZ b 1 1048576
    · rw [show whyL [a1, a2, a3, a4] g b t' q m = nBox by simp only [whyL, h0, hl1, c0, c1, Bool.true_eq_false, if_true, if_false, reduceIte]]
      exact runF_calls mix (dwhy_4_3 cap a1 a2 a3 a4 g b t' q m) ⟨w32 rfl, w32 e1, w32 e2, w32 e3, w32 e4, w32 c0, w32 c1, trivial⟩ rfl rfl
    cases c2 : inZ t' 1 65536
    · rw [show whyL [a1, a2, a3, a4] g b t' q m = nTop by simp only [whyL, h0, hl1, c0, c1, c2, Bool.true_eq_false, if_true, if_false, reduceIte]]
      exact runF_calls mix (dwhy_4_4 cap a1 a2 a3 a4 g b t' q m) ⟨w32 rfl, w32 e1, w32 e2, w32 e3, w32 e4, w32 c0, w32 c1, w32 c2, trivial⟩ rfl rfl
    cases c3 : inZ q 1 (wi (2 * b))
    · rw [show whyL [a1, a2, a3, a4] g b t' q m = nNear by simp only [whyL, h0, hl1, c0, c1, c2, c3, Bool.true_eq_false, if_true, if_false, reduceIte]]
      exact runF_calls mix (dwhy_4_5 cap a1 a2 a3 a4 g b t' q m) ⟨w32 rfl, w32 e1, w32 e2, w32 e3, w32 e4, w32 c0, w32 c1, w32 c2, w32 c3, trivial⟩ rfl rfl
    cases c4 : inZ m 0 4
    · rw [show whyL [a1, a2, a3, a4] g b t' q m = nMeth by simp only [whyL, h0, hl1, c0, c1, c2, c3, c4, Bool.true_eq_false, if_true, if_false, reduceIte]]
      exact runF_calls mix (dwhy_4_6 cap a1 a2 a3 a4 g b t' q m) ⟨w32 rfl, w32 e1, w32 e2, w32 e3, w32 e4, w32 c0, w32 c1, w32 c2, w32 c3, w32 c4, trivial⟩ rfl rfl
    rw [show whyL [a1, a2, a3, a4] g b t' q m = [] by simp only [whyL, h0, hl1, c0, c1, c2, c3, c4, Bool.true_eq_false, if_false, reduceIte]]
    exact runF_calls mix (dwhy_4_7 cap a1 a2 a3 a4 g b t' q m) ⟨w32 rfl, w32 e1, w32 e2, w32 e3, w32 e4, w32 c0, w32 c1, w32 c2, w32 c3, w32 c4, trivial⟩ rfl rfl
  | [], _, h => exact absurd h.1 (by decide)
  | _ :: _ :: _ :: _ :: _ :: r, _, h => exact absurd h.2 (by simp)
theorem whyL_cases (L : List Int) (g b t' q m : Int) : whyL L g b t' q m = nBodies ∨ whyL L g b t' q m = nMass ∨ whyL L g b t' q m = nConst ∨ whyL L g b t' q m = nBox ∨ whyL L g b t' q m = nTop ∨ whyL L g b t' q m = nNear ∨ whyL L g b t' q m = nMeth ∨ whyL L g b t' q m = [] := by
  unfold whyL
  repeat' split
  all_goals simp
theorem chk_s (L : List Int) : Sem1 Try.prog 29 (fun s => #[cv s g b t' q m]) L (ii (chk (whyL L g b t' q m))) := by
  refine sem1_mk (ren_cv g b t' q m) rfl (fun h => ?_) (fun off cap hl hc => ?_)
  · subst h
    have hn : PureX Try.prog 48 #[cv sl0 g b t' q m] (rt (str nBodies)) := runF_pure mix (why_n g b t' q m) ⟨may_p rfl, trivial⟩ rfl rfl
    exact runF_pure mix (chk_n g b t' q m) ⟨hn, trivial⟩ rfl rfl
  have w := sem1_calls (why_s g b t' q m L) (ren_cv g b t' q m) rfl (H := [(1, win off (cwx fl1 off L))]) (s := slw 1 off L.length cap) (fun β w hR => ll_win hR rfl hl hc)
  rcases whyL_cases L g b t' q m with h | h | h | h | h | h | h | h <;> rw [h] at w ⊢
  · exact runF_calls mix (chk_0 off L.length cap _ g b t' q m) ⟨w, trivial⟩ rfl rfl
  · exact runF_calls mix (chk_1 off L.length cap _ g b t' q m) ⟨w, trivial⟩ rfl rfl
  · exact runF_calls mix (chk_2 off L.length cap _ g b t' q m) ⟨w, trivial⟩ rfl rfl
  · exact runF_calls mix (chk_3 off L.length cap _ g b t' q m) ⟨w, trivial⟩ rfl rfl
  · exact runF_calls mix (chk_4 off L.length cap _ g b t' q m) ⟨w, trivial⟩ rfl rfl
  · exact runF_calls mix (chk_5 off L.length cap _ g b t' q m) ⟨w, trivial⟩ rfl rfl
  · exact runF_calls mix (chk_6 off L.length cap _ g b t' q m) ⟨w, trivial⟩ rfl rfl
  · exact runF_calls mix (chk_7 off L.length cap _ g b t' q m) ⟨w, trivial⟩ rfl rfl
theorem dchk_s (L : List Int) : Sem1 Try.prog 7 (fun s => #[cv s g b t' q m]) L (ii (chk (whyL L g b t' q m))) := by
  refine sem1_mk (ren_cv g b t' q m) rfl (fun h => ?_) (fun off cap hl hc => ?_)
  · subst h
    have hn : PureX Try.prog 23 #[cv sl0 g b t' q m] (rt (str nBodies)) := runF_pure mix (dwhy_n g b t' q m) ⟨w32 rfl, trivial⟩ rfl rfl
    exact runF_pure mix (dchk_n g b t' q m) ⟨hn, trivial⟩ rfl rfl
  have w := sem1_calls (dwhy_s g b t' q m L) (ren_cv g b t' q m) rfl (H := [(1, win off (cwx fl1 off L))]) (s := slw 1 off L.length cap) (fun β w hR => ll_win hR rfl hl hc)
  rcases whyL_cases L g b t' q m with h | h | h | h | h | h | h | h <;> rw [h] at w ⊢
  · exact runF_calls mix (dchk_0 off L.length cap _ g b t' q m) ⟨w, trivial⟩ rfl rfl
  · exact runF_calls mix (dchk_1 off L.length cap _ g b t' q m) ⟨w, trivial⟩ rfl rfl
  · exact runF_calls mix (dchk_2 off L.length cap _ g b t' q m) ⟨w, trivial⟩ rfl rfl
  · exact runF_calls mix (dchk_3 off L.length cap _ g b t' q m) ⟨w, trivial⟩ rfl rfl
  · exact runF_calls mix (dchk_4 off L.length cap _ g b t' q m) ⟨w, trivial⟩ rfl rfl
  · exact runF_calls mix (dchk_5 off L.length cap _ g b t' q m) ⟨w, trivial⟩ rfl rfl
  · exact runF_calls mix (dchk_6 off L.length cap _ g b t' q m) ⟨w, trivial⟩ rfl rfl
  · exact runF_calls mix (dchk_7 off L.length cap _ g b t' q m) ⟨w, trivial⟩ rfl rfl
theorem chk_p (p : Int) (L : List Int) (h : chk (whyL L g b t' q m) = p) : Sem1 Try.prog 29 (fun s => #[cv s g b t' q m]) L (ii p) := h ▸ chk_s g b t' q m L
theorem dchk_p (p : Int) (L : List Int) (h : chk (whyL L g b t' q m) = p) : Sem1 Try.prog 7 (fun s => #[cv s g b t' q m]) L (ii p) := h ▸ dchk_s g b t' q m L
theorem chk_nil15 : PureX Try.prog 29 #[cv sl0 g b t' q m] (rt (ii 110)) := runF_pure mix (chk_n g b t' q m) ⟨runF_pure mix (why_n g b t' q m) ⟨may_p rfl, trivial⟩ rfl rfl, trivial⟩ rfl rfl
theorem chk_nil16 : PureX Try.prog 7 #[cv sl0 g b t' q m] (rt (ii 110)) := runF_pure mix (dchk_n g b t' q m) ⟨runF_pure mix (dwhy_n g b t' q m) ⟨w32 rfl, trivial⟩ rfl rfl, trivial⟩ rfl rfl
end
theorem chk_ok {L : List Int} {g b t' q m : Int} (h : okL L g b t' q m) : chk (whyL L g b t' q m) = 0 := by
  unfold okL at h
  rw [h]
  rfl
theorem chk_no {L : List Int} {g b t' q m : Int} (h : ¬ okL L g b t' q m) : chk (whyL L g b t' q m) = 110 := by
  unfold okL at h
  unfold chk
  rw [if_neg h]
theorem ok_nil {g b t' q m : Int} : ¬ okL [] g b t' q m := fun h => absurd (ok_parts h).1.1 (by decide)
instance (L : List Int) (g b t' q m : Int) : Decidable (okL L g b t' q m) := by unfold okL; infer_instance
section
variable (g b t' q m : Int)
theorem chk_w (f : Nat) (hs : ∀ (p : Int) (L : List Int), chk (whyL L g b t' q m) = p → Sem1 Try.prog f (fun s => #[cv s g b t' q m]) L (ii p)) {L : List Int} {off cap : Nat} (hl : L.length ≤ cap) (hc : cap ≤ maxLen) {p : Int} (h : chk (whyL L g b t' q m) = p) :
    CallsV Try.prog (.func f) #[cv (slw 1 off L.length cap) g b t' q m] [(1, win off (cwx fl1 off L))] (rt (ii p)) [(1, win off (cwx fl1 off L))] :=
  sem1_calls (hs p L h) (ren_cv g b t' q m) rfl (H := [(1, win off (cwx fl1 off L))]) (s := slw 1 off L.length cap) (fun β w hR => ll_win hR rfl hl hc)
theorem chk_i (f : Nat) (hs : ∀ (p : Int) (L : List Int), chk (whyL L g b t' q m) = p → Sem1 Try.prog f (fun s => #[cv s g b t' q m]) L (ii p)) {L : List Int} {cap : Nat} (hl : L.length ≤ cap) (hc : cap ≤ maxLen) {p : Int} (h : chk (whyL L g b t' q m) = p) :
    CallsV Try.prog (.func f) #[cv (slw 1 0 L.length cap) g b t' q m] [(1, wib L)] (rt (ii p)) [(1, wib L)] :=
  sem1_calls (hs p L h) (ren_cv g b t' q m) rfl (H := [(1, wib L)]) (s := slw 1 0 L.length cap) (fun β w hR => ll_seen hR rfl hl hc)
theorem chk_g (f : Nat) (hs : ∀ (p : Int) (L : List Int), chk (whyL L g b t' q m) = p → Sem1 Try.prog f (fun s => #[cv s g b t' q m]) L (ii p)) {L : List Int} {k : Nat} {p : Int} (h : chk (whyL L g b t' q m) = p) :
    CallsV Try.prog (.func f) #[cv (slw k 0 L.length capU) g b t' q m] [(k, gib L)] (rt (ii p)) [(k, gib L)] :=
  sem1_calls (hs p L h) (ren_cv g b t' q m) rfl (H := [(k, gib L)]) (s := slw k 0 L.length capU) (fun β w hR => ll_grow hR (by simp [look]))
end
end Go.Proofs.Ytpllklojcjhjaaa
