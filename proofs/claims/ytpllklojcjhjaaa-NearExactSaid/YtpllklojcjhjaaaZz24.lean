/- Texts of the seat, joined. -/
import Derived.Test.YtpllklojcjhjaaaZz20
/- NearExact: the pieces of its code. -/
namespace Go.Proofs.Ytpllklojcjhjaaa
open Go Go.RowKit
set_option linter.unusedSimpArgs false
set_option linter.unusedVariables false
set_option maxRecDepth 100000

noncomputable def b3 : Code := match Try.f3.body with | some c => c | none => .skip
/-- The code's pieces, in order. -/
def pcx : Nat → Code → Code
  | 0, c => cA c
  | n + 1, c => pcx n (cB c)
noncomputable def L3 : Code := cK (cK (cB (pcx 4 b3)))
noncomputable def Z3 : Code := cB (cB (cB (cB (cB b3))))
theorem b3_eq : Try.f3.body = some (.seq (pcx 0 b3) (.seq (pcx 1 b3) (.seq (pcx 2 b3) (.seq (pcx 3 b3) (.seq (.seq (cA (pcx 4 b3)) (.block 0 (.loop L3))) Z3))))) := by kernel_rfl
abbrev cfO (sl : Value) (g b t' q m : Int) : Obj := .cells ⟨[sl, ii g, ii b, ii t', ii q, ii m]⟩ 24 (0, 0)
abbrev stO (st : Int) (sl : Value) : Obj := .cells ⟨[ii st, sl]⟩ 27 (0, 0)
def boxP (p : Pr) : Obj := .cells ⟨fl3 p⟩ 36 (0, 0)
def FV (C S a b d e : Value) (X : Nat → Value) : List Value := [C, S, ptr 5000, ptr 5001, bb false, a, b, d, e, X 9, X 10, X 11, X 12, X 13, X 14, X 15, X 16, X 17, X 18, X 19, X 20, X 21, X 22, X 23, X 24, X 25, X 26, X 27, X 28, X 29, X 30, X 31, X 32, X 33, X 34, X 35, X 36, X 37, X 38, X 39, X 40, X 41, X 42, X 43, X 44, X 45, X 46, X 47, X 48, X 49, X 50, X 51, X 52, X 53, X 54, X 55, X 56, X 57, X 58, X 59, X 60, X 61, X 62, X 63, X 64, X 65, X 66, X 67, X 68, X 69, X 70, X 71, X 72, X 73, X 74, X 75, X 76, X 77, X 78, X 79, X 80, X 81, X 82, X 83, X 84, X 85, X 86, X 87, X 88, X 89, X 90, X 91, X 92, X 93, X 94, X 95, X 96, X 97, X 98, X 99, X 100, X 101, X 102, X 103, X 104, X 105, X 106, X 107, X 108, X 109, X 110, X 111, X 112, X 113, X 114, X 115, X 116, X 117, X 118, X 119, X 120, X 121, X 122, X 123, X 124, X 125, X 126, X 127, X 128, X 129, X 130, X 131, X 132, X 133, X 134, X 135, X 136, X 137, X 138, X 139, X 140, X 141, X 142, X 143, X 144, X 145, X 146, X 147, X 148, X 149, X 150, X 151, X 152, X 153, X 154, X 155, X 156, X 157, X 158, X 159, X 160, X 161, X 162, X 163, X 164, X 165, X 166, X 167, X 168, X 169, X 170, X 171, X 172, X 173, X 174, X 175, X 176, X 177, X 178, X 179, X 180, X 181, X 182, X 183, X 184, X 185, X 186, X 187, X 188, X 189, X 190, X 191, X 192, X 193, X 194, X 195, X 196, X 197, X 198, X 199, X 200, X 201, X 202, X 203, X 204, X 205, X 206, X 207, X 208, X 209, X 210, X 211, X 212, X 213, X 214, X 215, X 216, X 217, X 218, X 219, X 220, X 221, X 222, X 223, X 224]
def sqW (x0 x1 x2 y0 y1 y2 : Int) : Int := wi (wi (wi (0 + wi (wi (x0 - y0) * wi (x0 - y0))) + wi (wi (x1 - y1) * wi (x1 - y1))) + wi (wi (x2 - y2) * wi (x2 - y2)))
/-- What a round owes: all but what it asks of n. -/
def rndO (R : List Pr) (m2 o2 : Nat) (c' : Array Value) (i : Int) (p : Pr) (lo hi x0 x1 x2 y0 y1 y2 : Int) (E : List Prop) (N : List Prop) : List Prop :=
  [decide (i < (R.length : Int)) = true, 0 ≤ i ∧ i < (R.length : Int), List.take 3 (List.drop (0 + i.toNat * 3) (R.flatMap fl3)) = fl3 p,
   PureX Try.prog 12 #[pv p] (rt (tp [ii lo, ii hi])), decide (p.1 < 0) = false, decide (p.2.1 ≤ p.1) = false, decide ((m2 : Int) ≤ p.2.1) = false, decide (lo < 0) = false, decide (hi < lo) = false, decide (wi (lo + 1) < hi) = false,
   0 ≤ p.1 ∧ p.1 < (m2 : Int), o2 ≤ o2 + p.1.toNat * 6, c'[o2 + p.1.toNat * 6]? = some (ii x0), 0 ≤ p.2.1 ∧ p.2.1 < (m2 : Int), o2 ≤ o2 + p.2.1.toNat * 6, c'[o2 + p.2.1.toNat * 6]? = some (ii y0),
   0 ≤ p.1 ∧ p.1 < (m2 : Int), o2 ≤ o2 + p.1.toNat * 6 + 1, c'[o2 + p.1.toNat * 6 + 1]? = some (ii x1), 0 ≤ p.2.1 ∧ p.2.1 < (m2 : Int), o2 ≤ o2 + p.2.1.toNat * 6 + 1, c'[o2 + p.2.1.toNat * 6 + 1]? = some (ii y1),
   0 ≤ p.1 ∧ p.1 < (m2 : Int), o2 ≤ o2 + p.1.toNat * 6 + 2, c'[o2 + p.1.toNat * 6 + 2]? = some (ii x2), 0 ≤ p.2.1 ∧ p.2.1 < (m2 : Int), o2 ≤ o2 + p.2.1.toNat * 6 + 2, c'[o2 + p.2.1.toNat * 6 + 2]? = some (ii y2),
   (p.2.2 != sqW x0 x1 x2 y0 y1 y2) = false, decide (sqW x0 x1 x2 y0 y1 y2 < wi (lo * lo)) = false, decide (wi (hi * hi) < sqW x0 x1 x2 y0 y1 y2) = false] ++ (E ++ N)
def rndX (lo hi s : Int) : List Prop := [(hi == lo) = false, decide (lo < hi) = true, (wi (hi * hi) == s) = false]
def rndE (lo hi s : Int) : List Prop := [(hi == lo) = true, (wi (lo * lo) != s) = false, decide (lo < hi) = false]
def sameP (a b : Pr) : Bool := a.1 == b.1 && (a.2.1 == b.2.1 && (a.2.2 == b.2.2 && true))
def rndA (R2 : List Pr) (k lo nr : Int) (p p2 : Pr) (v : Bool) : List Prop := [decide (k < (R2.length : Int)) = true, 0 ≤ k ∧ k < (R2.length : Int), List.take 3 (List.drop (0 + k.toNat * 3) (R2.flatMap fl3)) = fl3 p2, (!(sameP p2 p == decide (lo < nr))) = false, sameP p2 p = v]
def rndC (n : Nat) (k lo nr : Int) : List Prop := [decide (k < (n : Int)) = false, (!(false == decide (lo < nr))) = false]
abbrev oC : List (Option Bool) := [t, f, n, n, n, n, f, n, n, n, n, n, f, n, f, n, n, f, n, n, n, f, n, n, n, n, f, n, n, n, n, f, n, n, n, n, f, n, n, n]
abbrev oX : List (Option Bool) := [f, n, n, n, n, n, n, n, n, n, t, n, n, n, n, n, f]
abbrev oE : List (Option Bool) := [t, n, n, n, n, n, f, n, n, n, f, n, n, n, n, n, n]
abbrev oAA : List (Option Bool) := [t, n, n, n, n, n, f, t]
abbrev oBB : List (Option Bool) := [t, n, n, n, n, n, f, f]
abbrev oCC : List (Option Bool) := [f, n, n, n, n, n, f, n]
abbrev oNN : List (Option Bool) := [f, n, n, n, n, n, f, n]
abbrev sq6 (R : List Pr) : Value := slw 6 0 R.length capU
abbrev sq7 (R2 : List Pr) : Value := slw 7 0 R2.length capU
abbrev bsC (o1 m1 cap1 o2 m2 cap2 : Nat) (c c' : Array Value) (st g bx to nr me : Int) : Hp := [(5001, stO st (slw 2 o2 m2 cap2)), (5000, cfO (slw 1 o1 m1 cap1) g bx to nr me), (2, win o2 c'), (1, win o1 c)]
abbrev bsB (o1 m1 cap1 o2 m2 cap2 : Nat) (c c' : Array Value) (st g bx to nr me : Int) (R : List Pr) : Hp := (6, KP.opq R) :: bsC o1 m1 cap1 o2 m2 cap2 c c' st g bx to nr me
abbrev bsA (o1 m1 cap1 o2 m2 cap2 : Nat) (c c' : Array Value) (st g bx to nr me : Int) (R R2 : List Pr) : Hp := (7, KP.opq R2) :: bsB o1 m1 cap1 o2 m2 cap2 c c' st g bx to nr me R
noncomputable def rnR (m : Nat) (C S nn : Value) (X : Nat → Value) (i k lo hi : Int) (R : List Pr) (H : Hp) (orc : List (Option Bool)) (lds : List (List Value)) : Option (Ex × List Value × Hp × List Prop) := runLS Try.prog m L3 (FV C S (sq6 R) nn (ii k) (ii i) X) H orc [(12, rt (tp [ii lo, ii hi]))] [] lds

end Go.Proofs.Ytpllklojcjhjaaa
