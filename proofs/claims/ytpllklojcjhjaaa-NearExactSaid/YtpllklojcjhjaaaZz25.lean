/- Texts of the seat, joined. -/
import Derived.Test.YtpllklojcjhjaaaZz24
/- NearExact: a round. -/
namespace Go.Proofs.Ytpllklojcjhjaaa
open Go Go.RowKit
set_option linter.unusedSimpArgs false
set_option linter.unusedVariables false
set_option maxRecDepth 100000

section
variable (o1 m1 cap1 o2 m2 cap2 : Nat) (c c' : Array Value) (st g bx to nr me : Int) (C S : Value) (R R2 : List Pr) (X : Nat → Value) (i k : Int) (p p2 : Pr) (lo hi x0 x1 x2 y0 y1 y2 : Int)
theorem r0_xA : ∃ Y, rnR 4000 C S (sq7 R2) X i k lo hi R (bsA o1 m1 cap1 o2 m2 cap2 c c' st g bx to nr me R R2) (oC ++ (oX ++ oAA)) [fl3 p, [ii x0], [ii y0], [ii x1], [ii y1], [ii x2], [ii y2], fl3 p2] = some (.normal, FV C S (sq6 R) (sq7 R2) (ii (wi (k + 1))) (ii (wi (i + 1))) Y, (4000, boxP p) :: bsA o1 m1 cap1 o2 m2 cap2 c c' st g bx to nr me R R2, rndO R m2 o2 c' i p lo hi x0 x1 x2 y0 y1 y2 (rndX lo hi (sqW x0 x1 x2 y0 y1 y2)) (rndA R2 k lo nr p p2 true)) :=
  ⟨lt (rnR 4000 C S (sq7 R2) X i k lo hi R (bsA o1 m1 cap1 o2 m2 cap2 c c' st g bx to nr me R R2) (oC ++ (oX ++ oAA)) [fl3 p, [ii x0], [ii y0], [ii x1], [ii y1], [ii x2], [ii y2], fl3 p2]), by kernel_rfl⟩
theorem r0_xB : ∃ Y, rnR 4000 C S (sq7 R2) X i k lo hi R (bsA o1 m1 cap1 o2 m2 cap2 c c' st g bx to nr me R R2) (oC ++ (oX ++ oBB)) [fl3 p, [ii x0], [ii y0], [ii x1], [ii y1], [ii x2], [ii y2], fl3 p2] = some (.normal, FV C S (sq6 R) (sq7 R2) (ii k) (ii (wi (i + 1))) Y, (4000, boxP p) :: bsA o1 m1 cap1 o2 m2 cap2 c c' st g bx to nr me R R2, rndO R m2 o2 c' i p lo hi x0 x1 x2 y0 y1 y2 (rndX lo hi (sqW x0 x1 x2 y0 y1 y2)) (rndA R2 k lo nr p p2 false)) :=
  ⟨lt (rnR 4000 C S (sq7 R2) X i k lo hi R (bsA o1 m1 cap1 o2 m2 cap2 c c' st g bx to nr me R R2) (oC ++ (oX ++ oBB)) [fl3 p, [ii x0], [ii y0], [ii x1], [ii y1], [ii x2], [ii y2], fl3 p2]), by kernel_rfl⟩
theorem r0_xC : ∃ Y, rnR 4000 C S (sq7 R2) X i k lo hi R (bsA o1 m1 cap1 o2 m2 cap2 c c' st g bx to nr me R R2) (oC ++ (oX ++ oCC)) [fl3 p, [ii x0], [ii y0], [ii x1], [ii y1], [ii x2], [ii y2]] = some (.normal, FV C S (sq6 R) (sq7 R2) (ii k) (ii (wi (i + 1))) Y, (4000, boxP p) :: bsA o1 m1 cap1 o2 m2 cap2 c c' st g bx to nr me R R2, rndO R m2 o2 c' i p lo hi x0 x1 x2 y0 y1 y2 (rndX lo hi (sqW x0 x1 x2 y0 y1 y2)) (rndC R2.length k lo nr)) :=
  ⟨lt (rnR 4000 C S (sq7 R2) X i k lo hi R (bsA o1 m1 cap1 o2 m2 cap2 c c' st g bx to nr me R R2) (oC ++ (oX ++ oCC)) [fl3 p, [ii x0], [ii y0], [ii x1], [ii y1], [ii x2], [ii y2]]), by kernel_rfl⟩
theorem r0_xN : ∃ Y, rnR 4000 C S sl0 X i k lo hi R (bsB o1 m1 cap1 o2 m2 cap2 c c' st g bx to nr me R) (oC ++ (oX ++ oNN)) [fl3 p, [ii x0], [ii y0], [ii x1], [ii y1], [ii x2], [ii y2]] = some (.normal, FV C S (sq6 R) sl0 (ii k) (ii (wi (i + 1))) Y, (4000, boxP p) :: bsB o1 m1 cap1 o2 m2 cap2 c c' st g bx to nr me R, rndO R m2 o2 c' i p lo hi x0 x1 x2 y0 y1 y2 (rndX lo hi (sqW x0 x1 x2 y0 y1 y2)) (rndC 0 k lo nr)) :=
  ⟨lt (rnR 4000 C S sl0 X i k lo hi R (bsB o1 m1 cap1 o2 m2 cap2 c c' st g bx to nr me R) (oC ++ (oX ++ oNN)) [fl3 p, [ii x0], [ii y0], [ii x1], [ii y1], [ii x2], [ii y2]]), by kernel_rfl⟩
theorem r0_eA : ∃ Y, rnR 4000 C S (sq7 R2) X i k lo hi R (bsA o1 m1 cap1 o2 m2 cap2 c c' st g bx to nr me R R2) (oC ++ (oE ++ oAA)) [fl3 p, [ii x0], [ii y0], [ii x1], [ii y1], [ii x2], [ii y2], fl3 p2] = some (.normal, FV C S (sq6 R) (sq7 R2) (ii (wi (k + 1))) (ii (wi (i + 1))) Y, (4000, boxP p) :: bsA o1 m1 cap1 o2 m2 cap2 c c' st g bx to nr me R R2, rndO R m2 o2 c' i p lo hi x0 x1 x2 y0 y1 y2 (rndE lo hi (sqW x0 x1 x2 y0 y1 y2)) (rndA R2 k lo nr p p2 true)) :=
  ⟨lt (rnR 4000 C S (sq7 R2) X i k lo hi R (bsA o1 m1 cap1 o2 m2 cap2 c c' st g bx to nr me R R2) (oC ++ (oE ++ oAA)) [fl3 p, [ii x0], [ii y0], [ii x1], [ii y1], [ii x2], [ii y2], fl3 p2]), by kernel_rfl⟩
theorem r0_eB : ∃ Y, rnR 4000 C S (sq7 R2) X i k lo hi R (bsA o1 m1 cap1 o2 m2 cap2 c c' st g bx to nr me R R2) (oC ++ (oE ++ oBB)) [fl3 p, [ii x0], [ii y0], [ii x1], [ii y1], [ii x2], [ii y2], fl3 p2] = some (.normal, FV C S (sq6 R) (sq7 R2) (ii k) (ii (wi (i + 1))) Y, (4000, boxP p) :: bsA o1 m1 cap1 o2 m2 cap2 c c' st g bx to nr me R R2, rndO R m2 o2 c' i p lo hi x0 x1 x2 y0 y1 y2 (rndE lo hi (sqW x0 x1 x2 y0 y1 y2)) (rndA R2 k lo nr p p2 false)) :=
  ⟨lt (rnR 4000 C S (sq7 R2) X i k lo hi R (bsA o1 m1 cap1 o2 m2 cap2 c c' st g bx to nr me R R2) (oC ++ (oE ++ oBB)) [fl3 p, [ii x0], [ii y0], [ii x1], [ii y1], [ii x2], [ii y2], fl3 p2]), by kernel_rfl⟩
theorem r0_eC : ∃ Y, rnR 4000 C S (sq7 R2) X i k lo hi R (bsA o1 m1 cap1 o2 m2 cap2 c c' st g bx to nr me R R2) (oC ++ (oE ++ oCC)) [fl3 p, [ii x0], [ii y0], [ii x1], [ii y1], [ii x2], [ii y2]] = some (.normal, FV C S (sq6 R) (sq7 R2) (ii k) (ii (wi (i + 1))) Y, (4000, boxP p) :: bsA o1 m1 cap1 o2 m2 cap2 c c' st g bx to nr me R R2, rndO R m2 o2 c' i p lo hi x0 x1 x2 y0 y1 y2 (rndE lo hi (sqW x0 x1 x2 y0 y1 y2)) (rndC R2.length k lo nr)) :=
  ⟨lt (rnR 4000 C S (sq7 R2) X i k lo hi R (bsA o1 m1 cap1 o2 m2 cap2 c c' st g bx to nr me R R2) (oC ++ (oE ++ oCC)) [fl3 p, [ii x0], [ii y0], [ii x1], [ii y1], [ii x2], [ii y2]]), by kernel_rfl⟩
theorem r0_eN : ∃ Y, rnR 4000 C S sl0 X i k lo hi R (bsB o1 m1 cap1 o2 m2 cap2 c c' st g bx to nr me R) (oC ++ (oE ++ oNN)) [fl3 p, [ii x0], [ii y0], [ii x1], [ii y1], [ii x2], [ii y2]] = some (.normal, FV C S (sq6 R) sl0 (ii k) (ii (wi (i + 1))) Y, (4000, boxP p) :: bsB o1 m1 cap1 o2 m2 cap2 c c' st g bx to nr me R, rndO R m2 o2 c' i p lo hi x0 x1 x2 y0 y1 y2 (rndE lo hi (sqW x0 x1 x2 y0 y1 y2)) (rndC 0 k lo nr)) :=
  ⟨lt (rnR 4000 C S sl0 X i k lo hi R (bsB o1 m1 cap1 o2 m2 cap2 c c' st g bx to nr me R) (oC ++ (oE ++ oNN)) [fl3 p, [ii x0], [ii y0], [ii x1], [ii y1], [ii x2], [ii y2]]), by kernel_rfl⟩
end

end Go.Proofs.Ytpllklojcjhjaaa
