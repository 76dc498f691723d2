/- IvalParts, walked. -/
import Derived.Test.YtieplecefgnakaaK14
namespace Go.Proofs.Ytieplecefgnakaa
open Go Go.RowKit
set_option linter.unusedSimpArgs false
set_option linter.unusedVariables false

theorem l3_no (l1 h1 : Int) (b1 : Bool) (l2 h2 : Int) (b2 : Bool) (l3 h3 : Int) (b3 : Bool) (l4 h4 : Int) (b4 : Bool) : runB Try.prog 3 #[iv l1 h1 b1, iv l2 h2 b2, iv l3 h3 b3, iv l4 h4 b4] [] [] [(7, rt (bb true))] [(6, rt (bb false), [(1004, oiv [(l1, h1, b1), (l2, h2, b2), (l3, h3, b3), (l4, h4, b4)])])] =
    some (rt (bb true), [], [CallsV Try.prog (.func 6) #[sl 1004 4] [(1004, oiv [(l1, h1, b1), (l2, h2, b2), (l3, h3, b3), (l4, h4, b4)])] (rt (bb false)) [(1004, oiv [(l1, h1, b1), (l2, h2, b2), (l3, h3, b3), (l4, h4, b4)])], PureX Try.prog 7 #[] (rt (bb true))]) := by kernel_rfl
theorem l3_0000 (l1 h1 : Int) (b1 : Bool) (l2 h2 : Int) (b2 : Bool) (l3 h3 : Int) (b3 : Bool) (l4 h4 : Int) (b4 : Bool) (hl hh : Int) (hb : Bool) (ml mh xl xh : Int) (xb : Bool) (yl yh ul uh : Int) (ub : Bool) (vl vh zl zh : Int) (zb : Bool) (tl th : Int) : runB Try.prog 3 #[iv l1 h1 b1, iv l2 h2 b2, iv l3 h3 b3, iv l4 h4 b4] [] [n, n, n, n, n, n, n, n, n, n, n, n, n, n, n, n, n, n, n, f, n, n, n, n, n, n, n, n, n, f, f, n, n, n, n, n, n, n, n, n, n, n, n, n, n, n, n, n, n, n, n, n, n, n, n, n, n, n, n, n, n, n, n, n] [(9, rt (bb true)), (9, rt (bb true)), (9, rt (bb true)), (10, rt (iv ml mh false)), (9, rt (bb true)), (9, rt (bb true)), (11, rt (iv xl xh xb)), (11, rt (iv yl yh false)), (12, rt (iv ul uh ub)), (12, rt (iv vl vh false)), (13, rt (iv zl zh zb)), (13, rt (iv tl th false)), (9, rt (bb true)), (9, rt (bb true)), (9, rt (bb true)), (7, rt (bb true))]
      [(6, rt (bb true), [(1004, oiv [(l1, h1, b1), (l2, h2, b2), (l3, h3, b3), (l4, h4, b4)])]), (8, rt (iv hl hh hb), [(1005, oiv [(l1, h1, b1), (l2, h2, b2), (l3, h3, b3)])])] =
    some (rt (bb true), [], [CallsV Try.prog (.func 6) #[sl 1004 4] [(1004, oiv [(l1, h1, b1), (l2, h2, b2), (l3, h3, b3), (l4, h4, b4)])] (rt (bb true)) [(1004, oiv [(l1, h1, b1), (l2, h2, b2), (l3, h3, b3), (l4, h4, b4)])],
      CallsV Try.prog (.func 8) #[sl 1005 3] [(1005, oiv [(l1, h1, b1), (l2, h2, b2), (l3, h3, b3)])] (rt (iv hl hh hb)) [(1005, oiv [(l1, h1, b1), (l2, h2, b2), (l3, h3, b3)])],
      PureX Try.prog 9 #[iv hl hh hb, iv l1 h1 b1] (rt (bb true)),
      PureX Try.prog 9 #[iv hl hh hb, iv l2 h2 b2] (rt (bb true)),
      PureX Try.prog 9 #[iv hl hh hb, iv l3 h3 b3] (rt (bb true)),
      (hl != mnI (mnI l1 l2) l3) = false,
      (hh != mxI (mxI h1 h2) h3) = false,
      PureX Try.prog 10 #[iv l1 h1 b1, iv l2 h2 b2] (rt (iv ml mh false)),
      (false != decide (mnI h1 h2 < mxI l1 l2)) = false,
      PureX Try.prog 9 #[iv l1 h1 b1, iv ml mh false] (rt (bb true)),
      PureX Try.prog 9 #[iv l2 h2 b2, iv ml mh false] (rt (bb true)),
      PureX Try.prog 11 #[iv l1 h1 b1, iv l4 h4 b4] (rt (iv xl xh xb)),
      PureX Try.prog 11 #[iv hl hh hb, iv l4 h4 b4] (rt (iv yl yh false)),
      PureX Try.prog 12 #[iv l1 h1 b1, iv l4 h4 b4] (rt (iv ul uh ub)),
      PureX Try.prog 12 #[iv hl hh hb, iv l4 h4 b4] (rt (iv vl vh false)),
      PureX Try.prog 13 #[iv l4 h4 b4, iv l1 h1 b1] (rt (iv zl zh zb)),
      PureX Try.prog 13 #[iv l4 h4 b4, iv hl hh hb] (rt (iv tl th false)),
      PureX Try.prog 9 #[iv yl yh false, iv xl xh xb] (rt (bb true)),
      PureX Try.prog 9 #[iv vl vh false, iv ul uh ub] (rt (bb true)),
      PureX Try.prog 9 #[iv tl th false, iv zl zh zb] (rt (bb true)),
      PureX Try.prog 7 #[] (rt (bb true))]) := by kernel_rfl
theorem l3_0001 (l1 h1 : Int) (b1 : Bool) (l2 h2 : Int) (b2 : Bool) (l3 h3 : Int) (b3 : Bool) (l4 h4 : Int) (b4 : Bool) (hl hh : Int) (hb : Bool) (ml mh xl xh : Int) (xb : Bool) (yl yh ul uh : Int) (ub : Bool) (vl vh zl zh : Int) (zb : Bool) (tl th : Int) : runB Try.prog 3 #[iv l1 h1 b1, iv l2 h2 b2, iv l3 h3 b3, iv l4 h4 b4] [] [n, n, n, n, n, n, n, n, n, n, n, n, n, n, n, n, n, n, n, f, n, n, n, n, n, n, n, n, n, f, f, n, n, n, n, n, n, n, n, n, n, n, n, n, n, n, n, n, n, n, n, n, n, n, n, n, n, n, n, n, n, n, n, n] [(9, rt (bb true)), (9, rt (bb true)), (9, rt (bb true)), (10, rt (iv ml mh false)), (9, rt (bb true)), (9, rt (bb true)), (11, rt (iv xl xh xb)), (11, rt (iv yl yh false)), (12, rt (iv ul uh ub)), (12, rt (iv vl vh false)), (13, rt (iv zl zh zb)), (13, rt (bad)), (9, rt (bb true)), (9, rt (bb true)), (7, rt (bb true))]
      [(6, rt (bb true), [(1004, oiv [(l1, h1, b1), (l2, h2, b2), (l3, h3, b3), (l4, h4, b4)])]), (8, rt (iv hl hh hb), [(1005, oiv [(l1, h1, b1), (l2, h2, b2), (l3, h3, b3)])])] =
    some (rt (bb true), [], [CallsV Try.prog (.func 6) #[sl 1004 4] [(1004, oiv [(l1, h1, b1), (l2, h2, b2), (l3, h3, b3), (l4, h4, b4)])] (rt (bb true)) [(1004, oiv [(l1, h1, b1), (l2, h2, b2), (l3, h3, b3), (l4, h4, b4)])],
      CallsV Try.prog (.func 8) #[sl 1005 3] [(1005, oiv [(l1, h1, b1), (l2, h2, b2), (l3, h3, b3)])] (rt (iv hl hh hb)) [(1005, oiv [(l1, h1, b1), (l2, h2, b2), (l3, h3, b3)])],
      PureX Try.prog 9 #[iv hl hh hb, iv l1 h1 b1] (rt (bb true)),
      PureX Try.prog 9 #[iv hl hh hb, iv l2 h2 b2] (rt (bb true)),
      PureX Try.prog 9 #[iv hl hh hb, iv l3 h3 b3] (rt (bb true)),
      (hl != mnI (mnI l1 l2) l3) = false,
      (hh != mxI (mxI h1 h2) h3) = false,
      PureX Try.prog 10 #[iv l1 h1 b1, iv l2 h2 b2] (rt (iv ml mh false)),
      (false != decide (mnI h1 h2 < mxI l1 l2)) = false,
      PureX Try.prog 9 #[iv l1 h1 b1, iv ml mh false] (rt (bb true)),
      PureX Try.prog 9 #[iv l2 h2 b2, iv ml mh false] (rt (bb true)),
      PureX Try.prog 11 #[iv l1 h1 b1, iv l4 h4 b4] (rt (iv xl xh xb)),
      PureX Try.prog 11 #[iv hl hh hb, iv l4 h4 b4] (rt (iv yl yh false)),
      PureX Try.prog 12 #[iv l1 h1 b1, iv l4 h4 b4] (rt (iv ul uh ub)),
      PureX Try.prog 12 #[iv hl hh hb, iv l4 h4 b4] (rt (iv vl vh false)),
      PureX Try.prog 13 #[iv l4 h4 b4, iv l1 h1 b1] (rt (iv zl zh zb)),
      PureX Try.prog 13 #[iv l4 h4 b4, iv hl hh hb] (rt (bad)),
      PureX Try.prog 9 #[iv yl yh false, iv xl xh xb] (rt (bb true)),
      PureX Try.prog 9 #[iv vl vh false, iv ul uh ub] (rt (bb true)),
      PureX Try.prog 7 #[] (rt (bb true))]) := by kernel_rfl
theorem l3_0010 (l1 h1 : Int) (b1 : Bool) (l2 h2 : Int) (b2 : Bool) (l3 h3 : Int) (b3 : Bool) (l4 h4 : Int) (b4 : Bool) (hl hh : Int) (hb : Bool) (ml mh xl xh : Int) (xb : Bool) (yl yh ul uh : Int) (ub : Bool) (vl vh zl zh : Int) (zb : Bool) (tl th : Int) : runB Try.prog 3 #[iv l1 h1 b1, iv l2 h2 b2, iv l3 h3 b3, iv l4 h4 b4] [] [n, n, n, n, n, n, n, n, n, n, n, n, n, n, n, n, n, n, n, f, n, n, n, n, n, n, n, n, n, f, f, n, n, n, n, n, n, n, n, n, n, n, n, n, n, n, n, n, n, n, n, n, n, n, n, n, n, n, n, n, n, n, n, n] [(9, rt (bb true)), (9, rt (bb true)), (9, rt (bb true)), (10, rt (iv ml mh false)), (9, rt (bb true)), (9, rt (bb true)), (11, rt (iv xl xh xb)), (11, rt (iv yl yh false)), (12, rt (iv ul uh ub)), (12, rt (bad)), (13, rt (iv zl zh zb)), (13, rt (iv tl th false)), (9, rt (bb true)), (9, rt (bb true)), (7, rt (bb true))]
      [(6, rt (bb true), [(1004, oiv [(l1, h1, b1), (l2, h2, b2), (l3, h3, b3), (l4, h4, b4)])]), (8, rt (iv hl hh hb), [(1005, oiv [(l1, h1, b1), (l2, h2, b2), (l3, h3, b3)])])] =
    some (rt (bb true), [], [CallsV Try.prog (.func 6) #[sl 1004 4] [(1004, oiv [(l1, h1, b1), (l2, h2, b2), (l3, h3, b3), (l4, h4, b4)])] (rt (bb true)) [(1004, oiv [(l1, h1, b1), (l2, h2, b2), (l3, h3, b3), (l4, h4, b4)])],
      CallsV Try.prog (.func 8) #[sl 1005 3] [(1005, oiv [(l1, h1, b1), (l2, h2, b2), (l3, h3, b3)])] (rt (iv hl hh hb)) [(1005, oiv [(l1, h1, b1), (l2, h2, b2), (l3, h3, b3)])],
      PureX Try.prog 9 #[iv hl hh hb, iv l1 h1 b1] (rt (bb true)),
      PureX Try.prog 9 #[iv hl hh hb, iv l2 h2 b2] (rt (bb true)),
      PureX Try.prog 9 #[iv hl hh hb, iv l3 h3 b3] (rt (bb true)),
      (hl != mnI (mnI l1 l2) l3) = false,
      (hh != mxI (mxI h1 h2) h3) = false,
      PureX Try.prog 10 #[iv l1 h1 b1, iv l2 h2 b2] (rt (iv ml mh false)),
      (false != decide (mnI h1 h2 < mxI l1 l2)) = false,
      PureX Try.prog 9 #[iv l1 h1 b1, iv ml mh false] (rt (bb true)),
      PureX Try.prog 9 #[iv l2 h2 b2, iv ml mh false] (rt (bb true)),
      PureX Try.prog 11 #[iv l1 h1 b1, iv l4 h4 b4] (rt (iv xl xh xb)),
      PureX Try.prog 11 #[iv hl hh hb, iv l4 h4 b4] (rt (iv yl yh false)),
      PureX Try.prog 12 #[iv l1 h1 b1, iv l4 h4 b4] (rt (iv ul uh ub)),
      PureX Try.prog 12 #[iv hl hh hb, iv l4 h4 b4] (rt (bad)),
      PureX Try.prog 13 #[iv l4 h4 b4, iv l1 h1 b1] (rt (iv zl zh zb)),
      PureX Try.prog 13 #[iv l4 h4 b4, iv hl hh hb] (rt (iv tl th false)),
      PureX Try.prog 9 #[iv yl yh false, iv xl xh xb] (rt (bb true)),
      PureX Try.prog 9 #[iv tl th false, iv zl zh zb] (rt (bb true)),
      PureX Try.prog 7 #[] (rt (bb true))]) := by kernel_rfl
theorem l3_0011 (l1 h1 : Int) (b1 : Bool) (l2 h2 : Int) (b2 : Bool) (l3 h3 : Int) (b3 : Bool) (l4 h4 : Int) (b4 : Bool) (hl hh : Int) (hb : Bool) (ml mh xl xh : Int) (xb : Bool) (yl yh ul uh : Int) (ub : Bool) (vl vh zl zh : Int) (zb : Bool) (tl th : Int) : runB Try.prog 3 #[iv l1 h1 b1, iv l2 h2 b2, iv l3 h3 b3, iv l4 h4 b4] [] [n, n, n, n, n, n, n, n, n, n, n, n, n, n, n, n, n, n, n, f, n, n, n, n, n, n, n, n, n, f, f, n, n, n, n, n, n, n, n, n, n, n, n, n, n, n, n, n, n, n, n, n, n, n, n, n, n, n, n, n, n, n, n, n] [(9, rt (bb true)), (9, rt (bb true)), (9, rt (bb true)), (10, rt (iv ml mh false)), (9, rt (bb true)), (9, rt (bb true)), (11, rt (iv xl xh xb)), (11, rt (iv yl yh false)), (12, rt (iv ul uh ub)), (12, rt (bad)), (13, rt (iv zl zh zb)), (13, rt (bad)), (9, rt (bb true)), (7, rt (bb true))]
      [(6, rt (bb true), [(1004, oiv [(l1, h1, b1), (l2, h2, b2), (l3, h3, b3), (l4, h4, b4)])]), (8, rt (iv hl hh hb), [(1005, oiv [(l1, h1, b1), (l2, h2, b2), (l3, h3, b3)])])] =
    some (rt (bb true), [], [CallsV Try.prog (.func 6) #[sl 1004 4] [(1004, oiv [(l1, h1, b1), (l2, h2, b2), (l3, h3, b3), (l4, h4, b4)])] (rt (bb true)) [(1004, oiv [(l1, h1, b1), (l2, h2, b2), (l3, h3, b3), (l4, h4, b4)])],
      CallsV Try.prog (.func 8) #[sl 1005 3] [(1005, oiv [(l1, h1, b1), (l2, h2, b2), (l3, h3, b3)])] (rt (iv hl hh hb)) [(1005, oiv [(l1, h1, b1), (l2, h2, b2), (l3, h3, b3)])],
      PureX Try.prog 9 #[iv hl hh hb, iv l1 h1 b1] (rt (bb true)),
      PureX Try.prog 9 #[iv hl hh hb, iv l2 h2 b2] (rt (bb true)),
      PureX Try.prog 9 #[iv hl hh hb, iv l3 h3 b3] (rt (bb true)),
      (hl != mnI (mnI l1 l2) l3) = false,
      (hh != mxI (mxI h1 h2) h3) = false,
      PureX Try.prog 10 #[iv l1 h1 b1, iv l2 h2 b2] (rt (iv ml mh false)),
      (false != decide (mnI h1 h2 < mxI l1 l2)) = false,
      PureX Try.prog 9 #[iv l1 h1 b1, iv ml mh false] (rt (bb true)),
      PureX Try.prog 9 #[iv l2 h2 b2, iv ml mh false] (rt (bb true)),
      PureX Try.prog 11 #[iv l1 h1 b1, iv l4 h4 b4] (rt (iv xl xh xb)),
      PureX Try.prog 11 #[iv hl hh hb, iv l4 h4 b4] (rt (iv yl yh false)),
      PureX Try.prog 12 #[iv l1 h1 b1, iv l4 h4 b4] (rt (iv ul uh ub)),
      PureX Try.prog 12 #[iv hl hh hb, iv l4 h4 b4] (rt (bad)),
      PureX Try.prog 13 #[iv l4 h4 b4, iv l1 h1 b1] (rt (iv zl zh zb)),
      PureX Try.prog 13 #[iv l4 h4 b4, iv hl hh hb] (rt (bad)),
      PureX Try.prog 9 #[iv yl yh false, iv xl xh xb] (rt (bb true)),
      PureX Try.prog 7 #[] (rt (bb true))]) := by kernel_rfl
theorem l3_0100 (l1 h1 : Int) (b1 : Bool) (l2 h2 : Int) (b2 : Bool) (l3 h3 : Int) (b3 : Bool) (l4 h4 : Int) (b4 : Bool) (hl hh : Int) (hb : Bool) (ml mh xl xh : Int) (xb : Bool) (yl yh ul uh : Int) (ub : Bool) (vl vh zl zh : Int) (zb : Bool) (tl th : Int) : runB Try.prog 3 #[iv l1 h1 b1, iv l2 h2 b2, iv l3 h3 b3, iv l4 h4 b4] [] [n, n, n, n, n, n, n, n, n, n, n, n, n, n, n, n, n, n, n, f, n, n, n, n, n, n, n, n, n, f, f, n, n, n, n, n, n, n, n, n, n, n, n, n, n, n, n, n, n, n, n, n, n, n, n, n, n, n, n, n, n, n, n, n] [(9, rt (bb true)), (9, rt (bb true)), (9, rt (bb true)), (10, rt (iv ml mh false)), (9, rt (bb true)), (9, rt (bb true)), (11, rt (iv xl xh xb)), (11, rt (bad)), (12, rt (iv ul uh ub)), (12, rt (iv vl vh false)), (13, rt (iv zl zh zb)), (13, rt (iv tl th false)), (9, rt (bb true)), (9, rt (bb true)), (7, rt (bb true))]
      [(6, rt (bb true), [(1004, oiv [(l1, h1, b1), (l2, h2, b2), (l3, h3, b3), (l4, h4, b4)])]), (8, rt (iv hl hh hb), [(1005, oiv [(l1, h1, b1), (l2, h2, b2), (l3, h3, b3)])])] =
    some (rt (bb true), [], [CallsV Try.prog (.func 6) #[sl 1004 4] [(1004, oiv [(l1, h1, b1), (l2, h2, b2), (l3, h3, b3), (l4, h4, b4)])] (rt (bb true)) [(1004, oiv [(l1, h1, b1), (l2, h2, b2), (l3, h3, b3), (l4, h4, b4)])],
      CallsV Try.prog (.func 8) #[sl 1005 3] [(1005, oiv [(l1, h1, b1), (l2, h2, b2), (l3, h3, b3)])] (rt (iv hl hh hb)) [(1005, oiv [(l1, h1, b1), (l2, h2, b2), (l3, h3, b3)])],
      PureX Try.prog 9 #[iv hl hh hb, iv l1 h1 b1] (rt (bb true)),
      PureX Try.prog 9 #[iv hl hh hb, iv l2 h2 b2] (rt (bb true)),
      PureX Try.prog 9 #[iv hl hh hb, iv l3 h3 b3] (rt (bb true)),
      (hl != mnI (mnI l1 l2) l3) = false,
      (hh != mxI (mxI h1 h2) h3) = false,
      PureX Try.prog 10 #[iv l1 h1 b1, iv l2 h2 b2] (rt (iv ml mh false)),
      (false != decide (mnI h1 h2 < mxI l1 l2)) = false,
      PureX Try.prog 9 #[iv l1 h1 b1, iv ml mh false] (rt (bb true)),
      PureX Try.prog 9 #[iv l2 h2 b2, iv ml mh false] (rt (bb true)),
      PureX Try.prog 11 #[iv l1 h1 b1, iv l4 h4 b4] (rt (iv xl xh xb)),
      PureX Try.prog 11 #[iv hl hh hb, iv l4 h4 b4] (rt (bad)),
      PureX Try.prog 12 #[iv l1 h1 b1, iv l4 h4 b4] (rt (iv ul uh ub)),
      PureX Try.prog 12 #[iv hl hh hb, iv l4 h4 b4] (rt (iv vl vh false)),
      PureX Try.prog 13 #[iv l4 h4 b4, iv l1 h1 b1] (rt (iv zl zh zb)),
      PureX Try.prog 13 #[iv l4 h4 b4, iv hl hh hb] (rt (iv tl th false)),
      PureX Try.prog 9 #[iv vl vh false, iv ul uh ub] (rt (bb true)),
      PureX Try.prog 9 #[iv tl th false, iv zl zh zb] (rt (bb true)),
      PureX Try.prog 7 #[] (rt (bb true))]) := by kernel_rfl
theorem l3_0101 (l1 h1 : Int) (b1 : Bool) (l2 h2 : Int) (b2 : Bool) (l3 h3 : Int) (b3 : Bool) (l4 h4 : Int) (b4 : Bool) (hl hh : Int) (hb : Bool) (ml mh xl xh : Int) (xb : Bool) (yl yh ul uh : Int) (ub : Bool) (vl vh zl zh : Int) (zb : Bool) (tl th : Int) : runB Try.prog 3 #[iv l1 h1 b1, iv l2 h2 b2, iv l3 h3 b3, iv l4 h4 b4] [] [n, n, n, n, n, n, n, n, n, n, n, n, n, n, n, n, n, n, n, f, n, n, n, n, n, n, n, n, n, f, f, n, n, n, n, n, n, n, n, n, n, n, n, n, n, n, n, n, n, n, n, n, n, n, n, n, n, n, n, n, n, n, n, n] [(9, rt (bb true)), (9, rt (bb true)), (9, rt (bb true)), (10, rt (iv ml mh false)), (9, rt (bb true)), (9, rt (bb true)), (11, rt (iv xl xh xb)), (11, rt (bad)), (12, rt (iv ul uh ub)), (12, rt (iv vl vh false)), (13, rt (iv zl zh zb)), (13, rt (bad)), (9, rt (bb true)), (7, rt (bb true))]
      [(6, rt (bb true), [(1004, oiv [(l1, h1, b1), (l2, h2, b2), (l3, h3, b3), (l4, h4, b4)])]), (8, rt (iv hl hh hb), [(1005, oiv [(l1, h1, b1), (l2, h2, b2), (l3, h3, b3)])])] =
    some (rt (bb true), [], [CallsV Try.prog (.func 6) #[sl 1004 4] [(1004, oiv [(l1, h1, b1), (l2, h2, b2), (l3, h3, b3), (l4, h4, b4)])] (rt (bb true)) [(1004, oiv [(l1, h1, b1), (l2, h2, b2), (l3, h3, b3), (l4, h4, b4)])],
      CallsV Try.prog (.func 8) #[sl 1005 3] [(1005, oiv [(l1, h1, b1), (l2, h2, b2), (l3, h3, b3)])] (rt (iv hl hh hb)) [(1005, oiv [(l1, h1, b1), (l2, h2, b2), (l3, h3, b3)])],
      PureX Try.prog 9 #[iv hl hh hb, iv l1 h1 b1] (rt (bb true)),
      PureX Try.prog 9 #[iv hl hh hb, iv l2 h2 b2] (rt (bb true)),
      PureX Try.prog 9 #[iv hl hh hb, iv l3 h3 b3] (rt (bb true)),
      (hl != mnI (mnI l1 l2) l3) = false,
      (hh != mxI (mxI h1 h2) h3) = false,
      PureX Try.prog 10 #[iv l1 h1 b1, iv l2 h2 b2] (rt (iv ml mh false)),
      (false != decide (mnI h1 h2 < mxI l1 l2)) = false,
      PureX Try.prog 9 #[iv l1 h1 b1, iv ml mh false] (rt (bb true)),
      PureX Try.prog 9 #[iv l2 h2 b2, iv ml mh false] (rt (bb true)),
      PureX Try.prog 11 #[iv l1 h1 b1, iv l4 h4 b4] (rt (iv xl xh xb)),
      PureX Try.prog 11 #[iv hl hh hb, iv l4 h4 b4] (rt (bad)),
      PureX Try.prog 12 #[iv l1 h1 b1, iv l4 h4 b4] (rt (iv ul uh ub)),
      PureX Try.prog 12 #[iv hl hh hb, iv l4 h4 b4] (rt (iv vl vh false)),
      PureX Try.prog 13 #[iv l4 h4 b4, iv l1 h1 b1] (rt (iv zl zh zb)),
      PureX Try.prog 13 #[iv l4 h4 b4, iv hl hh hb] (rt (bad)),
      PureX Try.prog 9 #[iv vl vh false, iv ul uh ub] (rt (bb true)),
      PureX Try.prog 7 #[] (rt (bb true))]) := by kernel_rfl
theorem l3_0110 (l1 h1 : Int) (b1 : Bool) (l2 h2 : Int) (b2 : Bool) (l3 h3 : Int) (b3 : Bool) (l4 h4 : Int) (b4 : Bool) (hl hh : Int) (hb : Bool) (ml mh xl xh : Int) (xb : Bool) (yl yh ul uh : Int) (ub : Bool) (vl vh zl zh : Int) (zb : Bool) (tl th : Int) : runB Try.prog 3 #[iv l1 h1 b1, iv l2 h2 b2, iv l3 h3 b3, iv l4 h4 b4] [] [n, n, n, n, n, n, n, n, n, n, n, n, n, n, n, n, n, n, n, f, n, n, n, n, n, n, n, n, n, f, f, n, n, n, n, n, n, n, n, n, n, n, n, n, n, n, n, n, n, n, n, n, n, n, n, n, n, n, n, n, n, n, n, n] [(9, rt (bb true)), (9, rt (bb true)), (9, rt (bb true)), (10, rt (iv ml mh false)), (9, rt (bb true)), (9, rt (bb true)), (11, rt (iv xl xh xb)), (11, rt (bad)), (12, rt (iv ul uh ub)), (12, rt (bad)), (13, rt (iv zl zh zb)), (13, rt (iv tl th false)), (9, rt (bb true)), (7, rt (bb true))]
      [(6, rt (bb true), [(1004, oiv [(l1, h1, b1), (l2, h2, b2), (l3, h3, b3), (l4, h4, b4)])]), (8, rt (iv hl hh hb), [(1005, oiv [(l1, h1, b1), (l2, h2, b2), (l3, h3, b3)])])] =
    some (rt (bb true), [], [CallsV Try.prog (.func 6) #[sl 1004 4] [(1004, oiv [(l1, h1, b1), (l2, h2, b2), (l3, h3, b3), (l4, h4, b4)])] (rt (bb true)) [(1004, oiv [(l1, h1, b1), (l2, h2, b2), (l3, h3, b3), (l4, h4, b4)])],
      CallsV Try.prog (.func 8) #[sl 1005 3] [(1005, oiv [(l1, h1, b1), (l2, h2, b2), (l3, h3, b3)])] (rt (iv hl hh hb)) [(1005, oiv [(l1, h1, b1), (l2, h2, b2), (l3, h3, b3)])],
      PureX Try.prog 9 #[iv hl hh hb, iv l1 h1 b1] (rt (bb true)),
      PureX Try.prog 9 #[iv hl hh hb, iv l2 h2 b2] (rt (bb true)),
      PureX Try.prog 9 #[iv hl hh hb, iv l3 h3 b3] (rt (bb true)),
      (hl != mnI (mnI l1 l2) l3) = false,
      (hh != mxI (mxI h1 h2) h3) = false,
      PureX Try.prog 10 #[iv l1 h1 b1, iv l2 h2 b2] (rt (iv ml mh false)),
      (false != decide (mnI h1 h2 < mxI l1 l2)) = false,
      PureX Try.prog 9 #[iv l1 h1 b1, iv ml mh false] (rt (bb true)),
      PureX Try.prog 9 #[iv l2 h2 b2, iv ml mh false] (rt (bb true)),
      PureX Try.prog 11 #[iv l1 h1 b1, iv l4 h4 b4] (rt (iv xl xh xb)),
      PureX Try.prog 11 #[iv hl hh hb, iv l4 h4 b4] (rt (bad)),
      PureX Try.prog 12 #[iv l1 h1 b1, iv l4 h4 b4] (rt (iv ul uh ub)),
      PureX Try.prog 12 #[iv hl hh hb, iv l4 h4 b4] (rt (bad)),
      PureX Try.prog 13 #[iv l4 h4 b4, iv l1 h1 b1] (rt (iv zl zh zb)),
      PureX Try.prog 13 #[iv l4 h4 b4, iv hl hh hb] (rt (iv tl th false)),
      PureX Try.prog 9 #[iv tl th false, iv zl zh zb] (rt (bb true)),
      PureX Try.prog 7 #[] (rt (bb true))]) := by kernel_rfl
theorem l3_0111 (l1 h1 : Int) (b1 : Bool) (l2 h2 : Int) (b2 : Bool) (l3 h3 : Int) (b3 : Bool) (l4 h4 : Int) (b4 : Bool) (hl hh : Int) (hb : Bool) (ml mh xl xh : Int) (xb : Bool) (yl yh ul uh : Int) (ub : Bool) (vl vh zl zh : Int) (zb : Bool) (tl th : Int) : runB Try.prog 3 #[iv l1 h1 b1, iv l2 h2 b2, iv l3 h3 b3, iv l4 h4 b4] [] [n, n, n, n, n, n, n, n, n, n, n, n, n, n, n, n, n, n, n, f, n, n, n, n, n, n, n, n, n, f, f, n, n, n, n, n, n, n, n, n, n, n, n, n, n, n, n, n, n, n, n, n, n, n, n, n, n, n, n, n, n, n, n, n] [(9, rt (bb true)), (9, rt (bb true)), (9, rt (bb true)), (10, rt (iv ml mh false)), (9, rt (bb true)), (9, rt (bb true)), (11, rt (iv xl xh xb)), (11, rt (bad)), (12, rt (iv ul uh ub)), (12, rt (bad)), (13, rt (iv zl zh zb)), (13, rt (bad)), (7, rt (bb true))]
      [(6, rt (bb true), [(1004, oiv [(l1, h1, b1), (l2, h2, b2), (l3, h3, b3), (l4, h4, b4)])]), (8, rt (iv hl hh hb), [(1005, oiv [(l1, h1, b1), (l2, h2, b2), (l3, h3, b3)])])] =
    some (rt (bb true), [], [CallsV Try.prog (.func 6) #[sl 1004 4] [(1004, oiv [(l1, h1, b1), (l2, h2, b2), (l3, h3, b3), (l4, h4, b4)])] (rt (bb true)) [(1004, oiv [(l1, h1, b1), (l2, h2, b2), (l3, h3, b3), (l4, h4, b4)])],
      CallsV Try.prog (.func 8) #[sl 1005 3] [(1005, oiv [(l1, h1, b1), (l2, h2, b2), (l3, h3, b3)])] (rt (iv hl hh hb)) [(1005, oiv [(l1, h1, b1), (l2, h2, b2), (l3, h3, b3)])],
      PureX Try.prog 9 #[iv hl hh hb, iv l1 h1 b1] (rt (bb true)),
      PureX Try.prog 9 #[iv hl hh hb, iv l2 h2 b2] (rt (bb true)),
      PureX Try.prog 9 #[iv hl hh hb, iv l3 h3 b3] (rt (bb true)),
      (hl != mnI (mnI l1 l2) l3) = false,
      (hh != mxI (mxI h1 h2) h3) = false,
      PureX Try.prog 10 #[iv l1 h1 b1, iv l2 h2 b2] (rt (iv ml mh false)),
      (false != decide (mnI h1 h2 < mxI l1 l2)) = false,
      PureX Try.prog 9 #[iv l1 h1 b1, iv ml mh false] (rt (bb true)),
      PureX Try.prog 9 #[iv l2 h2 b2, iv ml mh false] (rt (bb true)),
      PureX Try.prog 11 #[iv l1 h1 b1, iv l4 h4 b4] (rt (iv xl xh xb)),
      PureX Try.prog 11 #[iv hl hh hb, iv l4 h4 b4] (rt (bad)),
      PureX Try.prog 12 #[iv l1 h1 b1, iv l4 h4 b4] (rt (iv ul uh ub)),
      PureX Try.prog 12 #[iv hl hh hb, iv l4 h4 b4] (rt (bad)),
      PureX Try.prog 13 #[iv l4 h4 b4, iv l1 h1 b1] (rt (iv zl zh zb)),
      PureX Try.prog 13 #[iv l4 h4 b4, iv hl hh hb] (rt (bad)),
      PureX Try.prog 7 #[] (rt (bb true))]) := by kernel_rfl
theorem l3_1000 (l1 h1 : Int) (b1 : Bool) (l2 h2 : Int) (b2 : Bool) (l3 h3 : Int) (b3 : Bool) (l4 h4 : Int) (b4 : Bool) (hl hh : Int) (hb : Bool) (ml mh xl xh : Int) (xb : Bool) (yl yh ul uh : Int) (ub : Bool) (vl vh zl zh : Int) (zb : Bool) (tl th : Int) : runB Try.prog 3 #[iv l1 h1 b1, iv l2 h2 b2, iv l3 h3 b3, iv l4 h4 b4] [] [n, n, n, n, n, n, n, n, n, n, n, n, n, n, n, n, n, n, n, f, n, n, n, n, n, n, n, n, n, f, f, n, n, n, n, n, n, n, n, n, n, n, n, n, n, n, n, n, n, n, n, n, n, n, n, n, n, n, n, n] [(9, rt (bb true)), (9, rt (bb true)), (9, rt (bb true)), (10, rt (bad)), (11, rt (iv xl xh xb)), (11, rt (iv yl yh false)), (12, rt (iv ul uh ub)), (12, rt (iv vl vh false)), (13, rt (iv zl zh zb)), (13, rt (iv tl th false)), (9, rt (bb true)), (9, rt (bb true)), (9, rt (bb true)), (7, rt (bb true))]
      [(6, rt (bb true), [(1004, oiv [(l1, h1, b1), (l2, h2, b2), (l3, h3, b3), (l4, h4, b4)])]), (8, rt (iv hl hh hb), [(1005, oiv [(l1, h1, b1), (l2, h2, b2), (l3, h3, b3)])])] =
    some (rt (bb true), [], [CallsV Try.prog (.func 6) #[sl 1004 4] [(1004, oiv [(l1, h1, b1), (l2, h2, b2), (l3, h3, b3), (l4, h4, b4)])] (rt (bb true)) [(1004, oiv [(l1, h1, b1), (l2, h2, b2), (l3, h3, b3), (l4, h4, b4)])],
      CallsV Try.prog (.func 8) #[sl 1005 3] [(1005, oiv [(l1, h1, b1), (l2, h2, b2), (l3, h3, b3)])] (rt (iv hl hh hb)) [(1005, oiv [(l1, h1, b1), (l2, h2, b2), (l3, h3, b3)])],
      PureX Try.prog 9 #[iv hl hh hb, iv l1 h1 b1] (rt (bb true)),
      PureX Try.prog 9 #[iv hl hh hb, iv l2 h2 b2] (rt (bb true)),
      PureX Try.prog 9 #[iv hl hh hb, iv l3 h3 b3] (rt (bb true)),
      (hl != mnI (mnI l1 l2) l3) = false,
      (hh != mxI (mxI h1 h2) h3) = false,
      PureX Try.prog 10 #[iv l1 h1 b1, iv l2 h2 b2] (rt (bad)),
      (true != decide (mnI h1 h2 < mxI l1 l2)) = false,
      PureX Try.prog 11 #[iv l1 h1 b1, iv l4 h4 b4] (rt (iv xl xh xb)),
      PureX Try.prog 11 #[iv hl hh hb, iv l4 h4 b4] (rt (iv yl yh false)),
      PureX Try.prog 12 #[iv l1 h1 b1, iv l4 h4 b4] (rt (iv ul uh ub)),
      PureX Try.prog 12 #[iv hl hh hb, iv l4 h4 b4] (rt (iv vl vh false)),
      PureX Try.prog 13 #[iv l4 h4 b4, iv l1 h1 b1] (rt (iv zl zh zb)),
      PureX Try.prog 13 #[iv l4 h4 b4, iv hl hh hb] (rt (iv tl th false)),
      PureX Try.prog 9 #[iv yl yh false, iv xl xh xb] (rt (bb true)),
      PureX Try.prog 9 #[iv vl vh false, iv ul uh ub] (rt (bb true)),
      PureX Try.prog 9 #[iv tl th false, iv zl zh zb] (rt (bb true)),
      PureX Try.prog 7 #[] (rt (bb true))]) := by kernel_rfl
theorem l3_1001 (l1 h1 : Int) (b1 : Bool) (l2 h2 : Int) (b2 : Bool) (l3 h3 : Int) (b3 : Bool) (l4 h4 : Int) (b4 : Bool) (hl hh : Int) (hb : Bool) (ml mh xl xh : Int) (xb : Bool) (yl yh ul uh : Int) (ub : Bool) (vl vh zl zh : Int) (zb : Bool) (tl th : Int) : runB Try.prog 3 #[iv l1 h1 b1, iv l2 h2 b2, iv l3 h3 b3, iv l4 h4 b4] [] [n, n, n, n, n, n, n, n, n, n, n, n, n, n, n, n, n, n, n, f, n, n, n, n, n, n, n, n, n, f, f, n, n, n, n, n, n, n, n, n, n, n, n, n, n, n, n, n, n, n, n, n, n, n, n, n, n, n, n, n] [(9, rt (bb true)), (9, rt (bb true)), (9, rt (bb true)), (10, rt (bad)), (11, rt (iv xl xh xb)), (11, rt (iv yl yh false)), (12, rt (iv ul uh ub)), (12, rt (iv vl vh false)), (13, rt (iv zl zh zb)), (13, rt (bad)), (9, rt (bb true)), (9, rt (bb true)), (7, rt (bb true))]
      [(6, rt (bb true), [(1004, oiv [(l1, h1, b1), (l2, h2, b2), (l3, h3, b3), (l4, h4, b4)])]), (8, rt (iv hl hh hb), [(1005, oiv [(l1, h1, b1), (l2, h2, b2), (l3, h3, b3)])])] =
    some (rt (bb true), [], [CallsV Try.prog (.func 6) #[sl 1004 4] [(1004, oiv [(l1, h1, b1), (l2, h2, b2), (l3, h3, b3), (l4, h4, b4)])] (rt (bb true)) [(1004, oiv [(l1, h1, b1), (l2, h2, b2), (l3, h3, b3), (l4, h4, b4)])],
      CallsV Try.prog (.func 8) #[sl 1005 3] [(1005, oiv [(l1, h1, b1), (l2, h2, b2), (l3, h3, b3)])] (rt (iv hl hh hb)) [(1005, oiv [(l1, h1, b1), (l2, h2, b2), (l3, h3, b3)])],
      PureX Try.prog 9 #[iv hl hh hb, iv l1 h1 b1] (rt (bb true)),
      PureX Try.prog 9 #[iv hl hh hb, iv l2 h2 b2] (rt (bb true)),
      PureX Try.prog 9 #[iv hl hh hb, iv l3 h3 b3] (rt (bb true)),
      (hl != mnI (mnI l1 l2) l3) = false,
      (hh != mxI (mxI h1 h2) h3) = false,
      PureX Try.prog 10 #[iv l1 h1 b1, iv l2 h2 b2] (rt (bad)),
      (true != decide (mnI h1 h2 < mxI l1 l2)) = false,
      PureX Try.prog 11 #[iv l1 h1 b1, iv l4 h4 b4] (rt (iv xl xh xb)),
      PureX Try.prog 11 #[iv hl hh hb, iv l4 h4 b4] (rt (iv yl yh false)),
      PureX Try.prog 12 #[iv l1 h1 b1, iv l4 h4 b4] (rt (iv ul uh ub)),
      PureX Try.prog 12 #[iv hl hh hb, iv l4 h4 b4] (rt (iv vl vh false)),
      PureX Try.prog 13 #[iv l4 h4 b4, iv l1 h1 b1] (rt (iv zl zh zb)),
      PureX Try.prog 13 #[iv l4 h4 b4, iv hl hh hb] (rt (bad)),
      PureX Try.prog 9 #[iv yl yh false, iv xl xh xb] (rt (bb true)),
      PureX Try.prog 9 #[iv vl vh false, iv ul uh ub] (rt (bb true)),
      PureX Try.prog 7 #[] (rt (bb true))]) := by kernel_rfl
theorem l3_1010 (l1 h1 : Int) (b1 : Bool) (l2 h2 : Int) (b2 : Bool) (l3 h3 : Int) (b3 : Bool) (l4 h4 : Int) (b4 : Bool) (hl hh : Int) (hb : Bool) (ml mh xl xh : Int) (xb : Bool) (yl yh ul uh : Int) (ub : Bool) (vl vh zl zh : Int) (zb : Bool) (tl th : Int) : runB Try.prog 3 #[iv l1 h1 b1, iv l2 h2 b2, iv l3 h3 b3, iv l4 h4 b4] [] [n, n, n, n, n, n, n, n, n, n, n, n, n, n, n, n, n, n, n, f, n, n, n, n, n, n, n, n, n, f, f, n, n, n, n, n, n, n, n, n, n, n, n, n, n, n, n, n, n, n, n, n, n, n, n, n, n, n, n, n] [(9, rt (bb true)), (9, rt (bb true)), (9, rt (bb true)), (10, rt (bad)), (11, rt (iv xl xh xb)), (11, rt (iv yl yh false)), (12, rt (iv ul uh ub)), (12, rt (bad)), (13, rt (iv zl zh zb)), (13, rt (iv tl th false)), (9, rt (bb true)), (9, rt (bb true)), (7, rt (bb true))]
      [(6, rt (bb true), [(1004, oiv [(l1, h1, b1), (l2, h2, b2), (l3, h3, b3), (l4, h4, b4)])]), (8, rt (iv hl hh hb), [(1005, oiv [(l1, h1, b1), (l2, h2, b2), (l3, h3, b3)])])] =
    some (rt (bb true), [], [CallsV Try.prog (.func 6) #[sl 1004 4] [(1004, oiv [(l1, h1, b1), (l2, h2, b2), (l3, h3, b3), (l4, h4, b4)])] (rt (bb true)) [(1004, oiv [(l1, h1, b1), (l2, h2, b2), (l3, h3, b3), (l4, h4, b4)])],
      CallsV Try.prog (.func 8) #[sl 1005 3] [(1005, oiv [(l1, h1, b1), (l2, h2, b2), (l3, h3, b3)])] (rt (iv hl hh hb)) [(1005, oiv [(l1, h1, b1), (l2, h2, b2), (l3, h3, b3)])],
      PureX Try.prog 9 #[iv hl hh hb, iv l1 h1 b1] (rt (bb true)),
      PureX Try.prog 9 #[iv hl hh hb, iv l2 h2 b2] (rt (bb true)),
      PureX Try.prog 9 #[iv hl hh hb, iv l3 h3 b3] (rt (bb true)),
      (hl != mnI (mnI l1 l2) l3) = false,
      (hh != mxI (mxI h1 h2) h3) = false,
      PureX Try.prog 10 #[iv l1 h1 b1, iv l2 h2 b2] (rt (bad)),
      (true != decide (mnI h1 h2 < mxI l1 l2)) = false,
      PureX Try.prog 11 #[iv l1 h1 b1, iv l4 h4 b4] (rt (iv xl xh xb)),
      PureX Try.prog 11 #[iv hl hh hb, iv l4 h4 b4] (rt (iv yl yh false)),
      PureX Try.prog 12 #[iv l1 h1 b1, iv l4 h4 b4] (rt (iv ul uh ub)),
      PureX Try.prog 12 #[iv hl hh hb, iv l4 h4 b4] (rt (bad)),
      PureX Try.prog 13 #[iv l4 h4 b4, iv l1 h1 b1] (rt (iv zl zh zb)),
      PureX Try.prog 13 #[iv l4 h4 b4, iv hl hh hb] (rt (iv tl th false)),
      PureX Try.prog 9 #[iv yl yh false, iv xl xh xb] (rt (bb true)),
      PureX Try.prog 9 #[iv tl th false, iv zl zh zb] (rt (bb true)),
      PureX Try.prog 7 #[] (rt (bb true))]) := by kernel_rfl
theorem l3_1011 (l1 h1 : Int) (b1 : Bool) (l2 h2 : Int) (b2 : Bool) (l3 h3 : Int) (b3 : Bool) (l4 h4 : Int) (b4 : Bool) (hl hh : Int) (hb : Bool) (ml mh xl xh : Int) (xb : Bool) (yl yh ul uh : Int) (ub : Bool) (vl vh zl zh : Int) (zb : Bool) (tl th : Int) : runB Try.prog 3 #[iv l1 h1 b1, iv l2 h2 b2, iv l3 h3 b3, iv l4 h4 b4] [] [n, n, n, n, n, n, n, n, n, n, n, n, n, n, n, n, n, n, n, f, n, n, n, n, n, n, n, n, n, f, f, n, n, n, n, n, n, n, n, n, n, n, n, n, n, n, n, n, n, n, n, n, n, n, n, n, n, n, n, n] [(9, rt (bb true)), (9, rt (bb true)), (9, rt (bb true)), (10, rt (bad)), (11, rt (iv xl xh xb)), (11, rt (iv yl yh false)), (12, rt (iv ul uh ub)), (12, rt (bad)), (13, rt (iv zl zh zb)), (13, rt (bad)), (9, rt (bb true)), (7, rt (bb true))]
      [(6, rt (bb true), [(1004, oiv [(l1, h1, b1), (l2, h2, b2), (l3, h3, b3), (l4, h4, b4)])]), (8, rt (iv hl hh hb), [(1005, oiv [(l1, h1, b1), (l2, h2, b2), (l3, h3, b3)])])] =
    some (rt (bb true), [], [CallsV Try.prog (.func 6) #[sl 1004 4] [(1004, oiv [(l1, h1, b1), (l2, h2, b2), (l3, h3, b3), (l4, h4, b4)])] (rt (bb true)) [(1004, oiv [(l1, h1, b1), (l2, h2, b2), (l3, h3, b3), (l4, h4, b4)])],
      CallsV Try.prog (.func 8) #[sl 1005 3] [(1005, oiv [(l1, h1, b1), (l2, h2, b2), (l3, h3, b3)])] (rt (iv hl hh hb)) [(1005, oiv [(l1, h1, b1), (l2, h2, b2), (l3, h3, b3)])],
      PureX Try.prog 9 #[iv hl hh hb, iv l1 h1 b1] (rt (bb true)),
      PureX Try.prog 9 #[iv hl hh hb, iv l2 h2 b2] (rt (bb true)),
      PureX Try.prog 9 #[iv hl hh hb, iv l3 h3 b3] (rt (bb true)),
      (hl != mnI (mnI l1 l2) l3) = false,
      (hh != mxI (mxI h1 h2) h3) = false,
      PureX Try.prog 10 #[iv l1 h1 b1, iv l2 h2 b2] (rt (bad)),
      (true != decide (mnI h1 h2 < mxI l1 l2)) = false,
      PureX Try.prog 11 #[iv l1 h1 b1, iv l4 h4 b4] (rt (iv xl xh xb)),
      PureX Try.prog 11 #[iv hl hh hb, iv l4 h4 b4] (rt (iv yl yh false)),
      PureX Try.prog 12 #[iv l1 h1 b1, iv l4 h4 b4] (rt (iv ul uh ub)),
      PureX Try.prog 12 #[iv hl hh hb, iv l4 h4 b4] (rt (bad)),
      PureX Try.prog 13 #[iv l4 h4 b4, iv l1 h1 b1] (rt (iv zl zh zb)),
      PureX Try.prog 13 #[iv l4 h4 b4, iv hl hh hb] (rt (bad)),
      PureX Try.prog 9 #[iv yl yh false, iv xl xh xb] (rt (bb true)),
      PureX Try.prog 7 #[] (rt (bb true))]) := by kernel_rfl
theorem l3_1100 (l1 h1 : Int) (b1 : Bool) (l2 h2 : Int) (b2 : Bool) (l3 h3 : Int) (b3 : Bool) (l4 h4 : Int) (b4 : Bool) (hl hh : Int) (hb : Bool) (ml mh xl xh : Int) (xb : Bool) (yl yh ul uh : Int) (ub : Bool) (vl vh zl zh : Int) (zb : Bool) (tl th : Int) : runB Try.prog 3 #[iv l1 h1 b1, iv l2 h2 b2, iv l3 h3 b3, iv l4 h4 b4] [] [n, n, n, n, n, n, n, n, n, n, n, n, n, n, n, n, n, n, n, f, n, n, n, n, n, n, n, n, n, f, f, n, n, n, n, n, n, n, n, n, n, n, n, n, n, n, n, n, n, n, n, n, n, n, n, n, n, n, n, n] [(9, rt (bb true)), (9, rt (bb true)), (9, rt (bb true)), (10, rt (bad)), (11, rt (iv xl xh xb)), (11, rt (bad)), (12, rt (iv ul uh ub)), (12, rt (iv vl vh false)), (13, rt (iv zl zh zb)), (13, rt (iv tl th false)), (9, rt (bb true)), (9, rt (bb true)), (7, rt (bb true))]
      [(6, rt (bb true), [(1004, oiv [(l1, h1, b1), (l2, h2, b2), (l3, h3, b3), (l4, h4, b4)])]), (8, rt (iv hl hh hb), [(1005, oiv [(l1, h1, b1), (l2, h2, b2), (l3, h3, b3)])])] =
    some (rt (bb true), [], [CallsV Try.prog (.func 6) #[sl 1004 4] [(1004, oiv [(l1, h1, b1), (l2, h2, b2), (l3, h3, b3), (l4, h4, b4)])] (rt (bb true)) [(1004, oiv [(l1, h1, b1), (l2, h2, b2), (l3, h3, b3), (l4, h4, b4)])],
      CallsV Try.prog (.func 8) #[sl 1005 3] [(1005, oiv [(l1, h1, b1), (l2, h2, b2), (l3, h3, b3)])] (rt (iv hl hh hb)) [(1005, oiv [(l1, h1, b1), (l2, h2, b2), (l3, h3, b3)])],
      PureX Try.prog 9 #[iv hl hh hb, iv l1 h1 b1] (rt (bb true)),
      PureX Try.prog 9 #[iv hl hh hb, iv l2 h2 b2] (rt (bb true)),
      PureX Try.prog 9 #[iv hl hh hb, iv l3 h3 b3] (rt (bb true)),
      (hl != mnI (mnI l1 l2) l3) = false,
      (hh != mxI (mxI h1 h2) h3) = false,
      PureX Try.prog 10 #[iv l1 h1 b1, iv l2 h2 b2] (rt (bad)),
      (true != decide (mnI h1 h2 < mxI l1 l2)) = false,
      PureX Try.prog 11 #[iv l1 h1 b1, iv l4 h4 b4] (rt (iv xl xh xb)),
      PureX Try.prog 11 #[iv hl hh hb, iv l4 h4 b4] (rt (bad)),
      PureX Try.prog 12 #[iv l1 h1 b1, iv l4 h4 b4] (rt (iv ul uh ub)),
      PureX Try.prog 12 #[iv hl hh hb, iv l4 h4 b4] (rt (iv vl vh false)),
      PureX Try.prog 13 #[iv l4 h4 b4, iv l1 h1 b1] (rt (iv zl zh zb)),
      PureX Try.prog 13 #[iv l4 h4 b4, iv hl hh hb] (rt (iv tl th false)),
      PureX Try.prog 9 #[iv vl vh false, iv ul uh ub] (rt (bb true)),
      PureX Try.prog 9 #[iv tl th false, iv zl zh zb] (rt (bb true)),
      PureX Try.prog 7 #[] (rt (bb true))]) := by kernel_rfl
theorem l3_1101 (l1 h1 : Int) (b1 : Bool) (l2 h2 : Int) (b2 : Bool) (l3 h3 : Int) (b3 : Bool) (l4 h4 : Int) (b4 : Bool) (hl hh : Int) (hb : Bool) (ml mh xl xh : Int) (xb : Bool) (yl yh ul uh : Int) (ub : Bool) (vl vh zl zh : Int) (zb : Bool) (tl th : Int) : runB Try.prog 3 #[iv l1 h1 b1, iv l2 h2 b2, iv l3 h3 b3, iv l4 h4 b4] [] [n, n, n, n, n, n, n, n, n, n, n, n, n, n, n, n, n, n, n, f, n, n, n, n, n, n, n, n, n, f, f, n, n, n, n, n, n, n, n, n, n, n, n, n, n, n, n, n, n, n, n, n, n, n, n, n, n, n, n, n] [(9, rt (bb true)), (9, rt (bb true)), (9, rt (bb true)), (10, rt (bad)), (11, rt (iv xl xh xb)), (11, rt (bad)), (12, rt (iv ul uh ub)), (12, rt (iv vl vh false)), (13, rt (iv zl zh zb)), (13, rt (bad)), (9, rt (bb true)), (7, rt (bb true))]
      [(6, rt (bb true), [(1004, oiv [(l1, h1, b1), (l2, h2, b2), (l3, h3, b3), (l4, h4, b4)])]), (8, rt (iv hl hh hb), [(1005, oiv [(l1, h1, b1), (l2, h2, b2), (l3, h3, b3)])])] =
    some (rt (bb true), [], [CallsV Try.prog (.func 6) #[sl 1004 4] [(1004, oiv [(l1, h1, b1), (l2, h2, b2), (l3, h3, b3), (l4, h4, b4)])] (rt (bb true)) [(1004, oiv [(l1, h1, b1), (l2, h2, b2), (l3, h3, b3), (l4, h4, b4)])],
      CallsV Try.prog (.func 8) #[sl 1005 3] [(1005, oiv [(l1, h1, b1), (l2, h2, b2), (l3, h3, b3)])] (rt (iv hl hh hb)) [(1005, oiv [(l1, h1, b1), (l2, h2, b2), (l3, h3, b3)])],
      PureX Try.prog 9 #[iv hl hh hb, iv l1 h1 b1] (rt (bb true)),
      PureX Try.prog 9 #[iv hl hh hb, iv l2 h2 b2] (rt (bb true)),
      PureX Try.prog 9 #[iv hl hh hb, iv l3 h3 b3] (rt (bb true)),
      (hl != mnI (mnI l1 l2) l3) = false,
      (hh != mxI (mxI h1 h2) h3) = false,
      PureX Try.prog 10 #[iv l1 h1 b1, iv l2 h2 b2] (rt (bad)),
      (true != decide (mnI h1 h2 < mxI l1 l2)) = false,
      PureX Try.prog 11 #[iv l1 h1 b1, iv l4 h4 b4] (rt (iv xl xh xb)),
      PureX Try.prog 11 #[iv hl hh hb, iv l4 h4 b4] (rt (bad)),
      PureX Try.prog 12 #[iv l1 h1 b1, iv l4 h4 b4] (rt (iv ul uh ub)),
      PureX Try.prog 12 #[iv hl hh hb, iv l4 h4 b4] (rt (iv vl vh false)),
      PureX Try.prog 13 #[iv l4 h4 b4, iv l1 h1 b1] (rt (iv zl zh zb)),
      PureX Try.prog 13 #[iv l4 h4 b4, iv hl hh hb] (rt (bad)),
      PureX Try.prog 9 #[iv vl vh false, iv ul uh ub] (rt (bb true)),
      PureX Try.prog 7 #[] (rt (bb true))]) := by kernel_rfl
theorem l3_1110 (l1 h1 : Int) (b1 : Bool) (l2 h2 : Int) (b2 : Bool) (l3 h3 : Int) (b3 : Bool) (l4 h4 : Int) (b4 : Bool) (hl hh : Int) (hb : Bool) (ml mh xl xh : Int) (xb : Bool) (yl yh ul uh : Int) (ub : Bool) (vl vh zl zh : Int) (zb : Bool) (tl th : Int) : runB Try.prog 3 #[iv l1 h1 b1, iv l2 h2 b2, iv l3 h3 b3, iv l4 h4 b4] [] [n, n, n, n, n, n, n, n, n, n, n, n, n, n, n, n, n, n, n, f, n, n, n, n, n, n, n, n, n, f, f, n, n, n, n, n, n, n, n, n, n, n, n, n, n, n, n, n, n, n, n, n, n, n, n, n, n, n, n, n] [(9, rt (bb true)), (9, rt (bb true)), (9, rt (bb true)), (10, rt (bad)), (11, rt (iv xl xh xb)), (11, rt (bad)), (12, rt (iv ul uh ub)), (12, rt (bad)), (13, rt (iv zl zh zb)), (13, rt (iv tl th false)), (9, rt (bb true)), (7, rt (bb true))]
      [(6, rt (bb true), [(1004, oiv [(l1, h1, b1), (l2, h2, b2), (l3, h3, b3), (l4, h4, b4)])]), (8, rt (iv hl hh hb), [(1005, oiv [(l1, h1, b1), (l2, h2, b2), (l3, h3, b3)])])] =
    some (rt (bb true), [], [CallsV Try.prog (.func 6) #[sl 1004 4] [(1004, oiv [(l1, h1, b1), (l2, h2, b2), (l3, h3, b3), (l4, h4, b4)])] (rt (bb true)) [(1004, oiv [(l1, h1, b1), (l2, h2, b2), (l3, h3, b3), (l4, h4, b4)])],
      CallsV Try.prog (.func 8) #[sl 1005 3] [(1005, oiv [(l1, h1, b1), (l2, h2, b2), (l3, h3, b3)])] (rt (iv hl hh hb)) [(1005, oiv [(l1, h1, b1), (l2, h2, b2), (l3, h3, b3)])],
      PureX Try.prog 9 #[iv hl hh hb, iv l1 h1 b1] (rt (bb true)),
      PureX Try.prog 9 #[iv hl hh hb, iv l2 h2 b2] (rt (bb true)),
      PureX Try.prog 9 #[iv hl hh hb, iv l3 h3 b3] (rt (bb true)),
      (hl != mnI (mnI l1 l2) l3) = false,
      (hh != mxI (mxI h1 h2) h3) = false,
      PureX Try.prog 10 #[iv l1 h1 b1, iv l2 h2 b2] (rt (bad)),
      (true != decide (mnI h1 h2 < mxI l1 l2)) = false,
      PureX Try.prog 11 #[iv l1 h1 b1, iv l4 h4 b4] (rt (iv xl xh xb)),
      PureX Try.prog 11 #[iv hl hh hb, iv l4 h4 b4] (rt (bad)),
      PureX Try.prog 12 #[iv l1 h1 b1, iv l4 h4 b4] (rt (iv ul uh ub)),
      PureX Try.prog 12 #[iv hl hh hb, iv l4 h4 b4] (rt (bad)),
      PureX Try.prog 13 #[iv l4 h4 b4, iv l1 h1 b1] (rt (iv zl zh zb)),
      PureX Try.prog 13 #[iv l4 h4 b4, iv hl hh hb] (rt (iv tl th false)),
      PureX Try.prog 9 #[iv tl th false, iv zl zh zb] (rt (bb true)),
      PureX Try.prog 7 #[] (rt (bb true))]) := by kernel_rfl
theorem l3_1111 (l1 h1 : Int) (b1 : Bool) (l2 h2 : Int) (b2 : Bool) (l3 h3 : Int) (b3 : Bool) (l4 h4 : Int) (b4 : Bool) (hl hh : Int) (hb : Bool) (ml mh xl xh : Int) (xb : Bool) (yl yh ul uh : Int) (ub : Bool) (vl vh zl zh : Int) (zb : Bool) (tl th : Int) : runB Try.prog 3 #[iv l1 h1 b1, iv l2 h2 b2, iv l3 h3 b3, iv l4 h4 b4] [] [n, n, n, n, n, n, n, n, n, n, n, n, n, n, n, n, n, n, n, f, n, n, n, n, n, n, n, n, n, f, f, n, n, n, n, n, n, n, n, n, n, n, n, n, n, n, n, n, n, n, n, n, n, n, n, n, n, n, n, n] [(9, rt (bb true)), (9, rt (bb true)), (9, rt (bb true)), (10, rt (bad)), (11, rt (iv xl xh xb)), (11, rt (bad)), (12, rt (iv ul uh ub)), (12, rt (bad)), (13, rt (iv zl zh zb)), (13, rt (bad)), (7, rt (bb true))]
      [(6, rt (bb true), [(1004, oiv [(l1, h1, b1), (l2, h2, b2), (l3, h3, b3), (l4, h4, b4)])]), (8, rt (iv hl hh hb), [(1005, oiv [(l1, h1, b1), (l2, h2, b2), (l3, h3, b3)])])] =
    some (rt (bb true), [], [CallsV Try.prog (.func 6) #[sl 1004 4] [(1004, oiv [(l1, h1, b1), (l2, h2, b2), (l3, h3, b3), (l4, h4, b4)])] (rt (bb true)) [(1004, oiv [(l1, h1, b1), (l2, h2, b2), (l3, h3, b3), (l4, h4, b4)])],
      CallsV Try.prog (.func 8) #[sl 1005 3] [(1005, oiv [(l1, h1, b1), (l2, h2, b2), (l3, h3, b3)])] (rt (iv hl hh hb)) [(1005, oiv [(l1, h1, b1), (l2, h2, b2), (l3, h3, b3)])],
      PureX Try.prog 9 #[iv hl hh hb, iv l1 h1 b1] (rt (bb true)),
      PureX Try.prog 9 #[iv hl hh hb, iv l2 h2 b2] (rt (bb true)),
      PureX Try.prog 9 #[iv hl hh hb, iv l3 h3 b3] (rt (bb true)),
      (hl != mnI (mnI l1 l2) l3) = false,
      (hh != mxI (mxI h1 h2) h3) = false,
      PureX Try.prog 10 #[iv l1 h1 b1, iv l2 h2 b2] (rt (bad)),
      (true != decide (mnI h1 h2 < mxI l1 l2)) = false,
      PureX Try.prog 11 #[iv l1 h1 b1, iv l4 h4 b4] (rt (iv xl xh xb)),
      PureX Try.prog 11 #[iv hl hh hb, iv l4 h4 b4] (rt (bad)),
      PureX Try.prog 12 #[iv l1 h1 b1, iv l4 h4 b4] (rt (iv ul uh ub)),
      PureX Try.prog 12 #[iv hl hh hb, iv l4 h4 b4] (rt (bad)),
      PureX Try.prog 13 #[iv l4 h4 b4, iv l1 h1 b1] (rt (iv zl zh zb)),
      PureX Try.prog 13 #[iv l4 h4 b4, iv hl hh hb] (rt (bad)),
      PureX Try.prog 7 #[] (rt (bb true))]) := by kernel_rfl
theorem hull3_facts {x y z : IV} (hx : okV x = true) (hy : okV y = true) (hz : okV z = true) : hullV3 x y z = (mnI (mnI x.1 y.1) z.1, mxI (mxI x.2.1 y.2.1) z.2.1, false) ∧ okV (hullV3 x y z) = true ∧ holdsV (hullV3 x y z) x = true ∧ holdsV (hullV3 x y z) y = true ∧ holdsV (hullV3 x y z) z = true := by
  have a := okV_iff.1 hx
  have b := okV_iff.1 hy
  have c := okV_iff.1 hz
  have e : hullV3 x y z = (mnI (mnI x.1 y.1) z.1, mxI (mxI x.2.1 y.2.1) z.2.1, false) := by
    unfold hullV3
    rw [hx, hy, hz, a.1]
    rfl
  have m1 := mnI_le (x := x.1) (y := y.1)
  have m2 := mnI_le (x := mnI x.1 y.1) (y := z.1)
  have M1 := le_mxI (x := x.2.1) (y := y.2.1)
  have M2 := le_mxI (x := mxI x.2.1 y.2.1) (y := z.2.1)
  have n1 := le_mnI (le_mnI a.2.1 b.2.1) c.2.1
  have n2 := mxI_le (mxI_le a.2.2.2 b.2.2.2) c.2.2.2
  have ok : okV (hullV3 x y z) = true := by rw [e]; exact okV_mk n1 (by omega) n2
  refine ⟨e, ok, ?_, ?_, ?_⟩ <;> refine holdsV_iff.2 ⟨ok, by assumption, ?_, ?_⟩ <;> rw [e] <;> simp only <;> omega
theorem meet_facts {x y : IV} (hx : okV x = true) (hy : okV y = true) : (meetV x y = bdV ∧ mnI x.2.1 y.2.1 < mxI x.1 y.1) ∨ (¬ mnI x.2.1 y.2.1 < mxI x.1 y.1 ∧ (meetV x y).2.2 = false ∧ holdsV x (meetV x y) = true ∧ holdsV y (meetV x y) = true) := by
  have a := okV_iff.1 hx
  have b := okV_iff.1 hy
  have m1 := mnI_le (x := x.2.1) (y := y.2.1)
  have M1 := le_mxI (x := x.1) (y := y.1)
  have e : meetV x y = mkV (mxI x.1 y.1) (mnI x.2.1 y.2.1) := if_pos (by rw [hx, hy]; rfl)
  by_cases h : mnI x.2.1 y.2.1 < mxI x.1 y.1
  · exact .inl ⟨by rw [e]; exact mkV_no (by omega), h⟩
  · have e2 := mkV_ok (l := mxI x.1 y.1) (h := mnI x.2.1 y.2.1) (by omega) (by omega) (by omega)
    rw [e, e2]
    exact .inr ⟨h, rfl, holdsV_iff.2 ⟨hx, okV_mk (by omega) (by omega) (by omega), by simp only; omega, by simp only; omega⟩, holdsV_iff.2 ⟨hy, okV_mk (by omega) (by omega) (by omega), by simp only; omega, by simp only; omega⟩⟩
theorem bad_or {x : IV} (h : x.2.2 = true → x = bdV) : x = bdV ∨ x = (x.1, x.2.1, false) := by
  obtain ⟨l, u, c⟩ := x
  cases c
  · exact .inr rfl
  · exact .inl (h rfl)
theorem mkV_bd {l h : Int} : (mkV l h).2.2 = true → mkV l h = bdV := by
  unfold mkV
  split
  · intro h; cases h
  · exact fun _ => rfl
theorem addV_bd {x y : IV} : (addV x y).2.2 = true → addV x y = bdV := by unfold addV; split <;> first | exact mkV_bd | exact fun _ => rfl
theorem subV_bd {x y : IV} : (subV x y).2.2 = true → subV x y = bdV := by unfold subV; split <;> first | exact mkV_bd | exact fun _ => rfl
theorem mulV_bd {x y : IV} : (mulV x y).2.2 = true → mulV x y = bdV := by unfold mulV outV; split <;> first | exact mkV_bd | exact fun _ => rfl
theorem ivv_eq {x : IV} {l h : Int} {b : Bool} (e : x = (l, h, b)) : ivv x = iv l h b := by rw [e]; rfl
theorem parts_walk (x y z v : IV) : PureX Try.prog 3 #[ivv x, ivv y, ivv z, ivv v] (rt (bb true)) := by
  have hf := rfine_v4 1004 x y z v
  cases hk : okV x && okV y && okV z && okV v
  · rw [hk] at hf
    exact runB_pure mix (l3_no _ _ _ _ _ _ _ _ _ _ _ _) ⟨hf, wakes5_c, trivial⟩ rfl rfl
  rw [hk] at hf
  simp only [Bool.and_eq_true] at hk
  obtain ⟨⟨⟨hx, hy⟩, hz⟩, hv⟩ := hk
  obtain ⟨e, ho, k1, k2, k3⟩ := hull3_facts hx hy hz
  have a1 := hull3_v 1005 x y z
  have o1 := holds_v (hullV3 x y z) x
  have o2 := holds_v (hullV3 x y z) y
  have o3 := holds_v (hullV3 x y z) z
  rw [k1] at o1
  rw [k2] at o2
  rw [k3] at o3
  have q := holdsV_iff.1 k1
  have t1 : ((hullV3 x y z).1 != mnI (mnI x.1 y.1) z.1) = false := by rw [e]; simp
  have t2 : ((hullV3 x y z).2.1 != mxI (mxI x.2.1 y.2.1) z.2.1) = false := by rw [e]; simp
  have am := meet_v x y
  have ax := imul_v x v
  have ay := imul_v (hullV3 x y z) v
  have au := add_v x v
  have av := add_v (hullV3 x y z) v
  have as_ := isub_v v x
  have at_ := isub_v v (hullV3 x y z)
  have py := holds_v (mulV (hullV3 x y z) v) (mulV x v)
  have pv := holds_v (addV (hullV3 x y z) v) (addV x v)
  have pt := holds_v (subV v (hullV3 x y z)) (subV v x)
  rcases meet_facts hx hy with ⟨hm, hm2⟩ | ⟨hm2, hm, hm3, hm4⟩
  · rw [hm] at am
    have tm : (true != decide (mnI x.2.1 y.2.1 < mxI x.1 y.1)) = false := by rw [decide_eq_true hm2]; rfl
    cases hby : (mulV (hullV3 x y z) v).2.2
    · rw [mul_part ho hx hv q.2.2.1 q.2.2.2 hby] at py
      rw [ivv_eq (ext3 rfl rfl hby)] at ay py
      cases hbv : (addV (hullV3 x y z) v).2.2
      · rw [add_part ho hx hv q.2.2.1 q.2.2.2 hbv] at pv
        rw [ivv_eq (ext3 rfl rfl hbv)] at av pv
        cases hbt : (subV v (hullV3 x y z)).2.2
        · rw [sub_part ho hx hv q.2.2.1 q.2.2.2 hbt] at pt
          rw [ivv_eq (ext3 rfl rfl hbt)] at at_ pt
          exact runB_pure mix (l3_1000 _ _ _ _ _ _ _ _ _ _ _ _ _ _ _ 0 0 _ _ _ _ _ _ _ _ _ _ _ _ _ _ _) ⟨hf, a1, o1, o2, o3, t1, t2, am, tm, ax, ay, au, av, as_, at_, py, pv, pt, wakes5_c, trivial⟩ rfl rfl
        · rw [subV_bd hbt] at at_
          exact runB_pure mix (l3_1001 _ _ _ _ _ _ _ _ _ _ _ _ _ _ _ 0 0 _ _ _ _ _ _ _ _ _ _ _ _ _ 0 0) ⟨hf, a1, o1, o2, o3, t1, t2, am, tm, ax, ay, au, av, as_, at_, py, pv, wakes5_c, trivial⟩ rfl rfl
      · rw [addV_bd hbv] at av
        cases hbt : (subV v (hullV3 x y z)).2.2
        · rw [sub_part ho hx hv q.2.2.1 q.2.2.2 hbt] at pt
          rw [ivv_eq (ext3 rfl rfl hbt)] at at_ pt
          exact runB_pure mix (l3_1010 _ _ _ _ _ _ _ _ _ _ _ _ _ _ _ 0 0 _ _ _ _ _ _ _ _ 0 0 _ _ _ _ _) ⟨hf, a1, o1, o2, o3, t1, t2, am, tm, ax, ay, au, av, as_, at_, py, pt, wakes5_c, trivial⟩ rfl rfl
        · rw [subV_bd hbt] at at_
          exact runB_pure mix (l3_1011 _ _ _ _ _ _ _ _ _ _ _ _ _ _ _ 0 0 _ _ _ _ _ _ _ _ 0 0 _ _ _ 0 0) ⟨hf, a1, o1, o2, o3, t1, t2, am, tm, ax, ay, au, av, as_, at_, py, wakes5_c, trivial⟩ rfl rfl
    · rw [mulV_bd hby] at ay
      cases hbv : (addV (hullV3 x y z) v).2.2
      · rw [add_part ho hx hv q.2.2.1 q.2.2.2 hbv] at pv
        rw [ivv_eq (ext3 rfl rfl hbv)] at av pv
        cases hbt : (subV v (hullV3 x y z)).2.2
        · rw [sub_part ho hx hv q.2.2.1 q.2.2.2 hbt] at pt
          rw [ivv_eq (ext3 rfl rfl hbt)] at at_ pt
          exact runB_pure mix (l3_1100 _ _ _ _ _ _ _ _ _ _ _ _ _ _ _ 0 0 _ _ _ 0 0 _ _ _ _ _ _ _ _ _ _) ⟨hf, a1, o1, o2, o3, t1, t2, am, tm, ax, ay, au, av, as_, at_, pv, pt, wakes5_c, trivial⟩ rfl rfl
        · rw [subV_bd hbt] at at_
          exact runB_pure mix (l3_1101 _ _ _ _ _ _ _ _ _ _ _ _ _ _ _ 0 0 _ _ _ 0 0 _ _ _ _ _ _ _ _ 0 0) ⟨hf, a1, o1, o2, o3, t1, t2, am, tm, ax, ay, au, av, as_, at_, pv, wakes5_c, trivial⟩ rfl rfl
      · rw [addV_bd hbv] at av
        cases hbt : (subV v (hullV3 x y z)).2.2
        · rw [sub_part ho hx hv q.2.2.1 q.2.2.2 hbt] at pt
          rw [ivv_eq (ext3 rfl rfl hbt)] at at_ pt
          exact runB_pure mix (l3_1110 _ _ _ _ _ _ _ _ _ _ _ _ _ _ _ 0 0 _ _ _ 0 0 _ _ _ 0 0 _ _ _ _ _) ⟨hf, a1, o1, o2, o3, t1, t2, am, tm, ax, ay, au, av, as_, at_, pt, wakes5_c, trivial⟩ rfl rfl
        · rw [subV_bd hbt] at at_
          exact runB_pure mix (l3_1111 _ _ _ _ _ _ _ _ _ _ _ _ _ _ _ 0 0 _ _ _ 0 0 _ _ _ 0 0 _ _ _ 0 0) ⟨hf, a1, o1, o2, o3, t1, t2, am, tm, ax, ay, au, av, as_, at_, wakes5_c, trivial⟩ rfl rfl
  · rw [ivv_eq (ext3 rfl rfl hm)] at am
    have om1 := holds_v x (meetV x y)
    have om2 := holds_v y (meetV x y)
    rw [hm3, ivv_eq (ext3 rfl rfl hm)] at om1
    rw [hm4, ivv_eq (ext3 rfl rfl hm)] at om2
    have tm : (false != decide (mnI x.2.1 y.2.1 < mxI x.1 y.1)) = false := by rw [decide_eq_false hm2]; rfl
    cases hby : (mulV (hullV3 x y z) v).2.2
    · rw [mul_part ho hx hv q.2.2.1 q.2.2.2 hby] at py
      rw [ivv_eq (ext3 rfl rfl hby)] at ay py
      cases hbv : (addV (hullV3 x y z) v).2.2
      · rw [add_part ho hx hv q.2.2.1 q.2.2.2 hbv] at pv
        rw [ivv_eq (ext3 rfl rfl hbv)] at av pv
        cases hbt : (subV v (hullV3 x y z)).2.2
        · rw [sub_part ho hx hv q.2.2.1 q.2.2.2 hbt] at pt
          rw [ivv_eq (ext3 rfl rfl hbt)] at at_ pt
          exact runB_pure mix (l3_0000 _ _ _ _ _ _ _ _ _ _ _ _ _ _ _ _ _ _ _ _ _ _ _ _ _ _ _ _ _ _ _ _) ⟨hf, a1, o1, o2, o3, t1, t2, am, tm, om1, om2, ax, ay, au, av, as_, at_, py, pv, pt, wakes5_c, trivial⟩ rfl rfl
        · rw [subV_bd hbt] at at_
          exact runB_pure mix (l3_0001 _ _ _ _ _ _ _ _ _ _ _ _ _ _ _ _ _ _ _ _ _ _ _ _ _ _ _ _ _ _ 0 0) ⟨hf, a1, o1, o2, o3, t1, t2, am, tm, om1, om2, ax, ay, au, av, as_, at_, py, pv, wakes5_c, trivial⟩ rfl rfl
      · rw [addV_bd hbv] at av
        cases hbt : (subV v (hullV3 x y z)).2.2
        · rw [sub_part ho hx hv q.2.2.1 q.2.2.2 hbt] at pt
          rw [ivv_eq (ext3 rfl rfl hbt)] at at_ pt
          exact runB_pure mix (l3_0010 _ _ _ _ _ _ _ _ _ _ _ _ _ _ _ _ _ _ _ _ _ _ _ _ _ 0 0 _ _ _ _ _) ⟨hf, a1, o1, o2, o3, t1, t2, am, tm, om1, om2, ax, ay, au, av, as_, at_, py, pt, wakes5_c, trivial⟩ rfl rfl
        · rw [subV_bd hbt] at at_
          exact runB_pure mix (l3_0011 _ _ _ _ _ _ _ _ _ _ _ _ _ _ _ _ _ _ _ _ _ _ _ _ _ 0 0 _ _ _ 0 0) ⟨hf, a1, o1, o2, o3, t1, t2, am, tm, om1, om2, ax, ay, au, av, as_, at_, py, wakes5_c, trivial⟩ rfl rfl
    · rw [mulV_bd hby] at ay
      cases hbv : (addV (hullV3 x y z) v).2.2
      · rw [add_part ho hx hv q.2.2.1 q.2.2.2 hbv] at pv
        rw [ivv_eq (ext3 rfl rfl hbv)] at av pv
        cases hbt : (subV v (hullV3 x y z)).2.2
        · rw [sub_part ho hx hv q.2.2.1 q.2.2.2 hbt] at pt
          rw [ivv_eq (ext3 rfl rfl hbt)] at at_ pt
          exact runB_pure mix (l3_0100 _ _ _ _ _ _ _ _ _ _ _ _ _ _ _ _ _ _ _ _ 0 0 _ _ _ _ _ _ _ _ _ _) ⟨hf, a1, o1, o2, o3, t1, t2, am, tm, om1, om2, ax, ay, au, av, as_, at_, pv, pt, wakes5_c, trivial⟩ rfl rfl
        · rw [subV_bd hbt] at at_
          exact runB_pure mix (l3_0101 _ _ _ _ _ _ _ _ _ _ _ _ _ _ _ _ _ _ _ _ 0 0 _ _ _ _ _ _ _ _ 0 0) ⟨hf, a1, o1, o2, o3, t1, t2, am, tm, om1, om2, ax, ay, au, av, as_, at_, pv, wakes5_c, trivial⟩ rfl rfl
      · rw [addV_bd hbv] at av
        cases hbt : (subV v (hullV3 x y z)).2.2
        · rw [sub_part ho hx hv q.2.2.1 q.2.2.2 hbt] at pt
          rw [ivv_eq (ext3 rfl rfl hbt)] at at_ pt
          exact runB_pure mix (l3_0110 _ _ _ _ _ _ _ _ _ _ _ _ _ _ _ _ _ _ _ _ 0 0 _ _ _ 0 0 _ _ _ _ _) ⟨hf, a1, o1, o2, o3, t1, t2, am, tm, om1, om2, ax, ay, au, av, as_, at_, pt, wakes5_c, trivial⟩ rfl rfl
        · rw [subV_bd hbt] at at_
          exact runB_pure mix (l3_0111 _ _ _ _ _ _ _ _ _ _ _ _ _ _ _ _ _ _ _ _ 0 0 _ _ _ 0 0 _ _ _ 0 0) ⟨hf, a1, o1, o2, o3, t1, t2, am, tm, om1, om2, ax, ay, au, av, as_, at_, wakes5_c, trivial⟩ rfl rfl

end Go.Proofs.Ytieplecefgnakaa
