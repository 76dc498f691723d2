/- IvalRing, walked. -/
import Derived.Test.YtieplecefgnakaaW3
namespace Go.Proofs.Ytieplecefgnakaa
open Go Go.RowKit
set_option linter.unusedSimpArgs false
set_option linter.unusedVariables false

theorem l4_no (l1 h1 : Int) (b1 : Bool) (l2 h2 : Int) (b2 : Bool) (l3 h3 : Int) (b3 : Bool) : runB Try.prog 4 #[iv l1 h1 b1, iv l2 h2 b2, iv l3 h3 b3] [] [] [(7, rt (bb true))] [(6, rt (bb false), [(1003, oiv [(l1, h1, b1), (l2, h2, b2), (l3, h3, b3)])])] =
    some (rt (bb true), [], [CallsV Try.prog (.func 6) #[sl 1003 3] [(1003, oiv [(l1, h1, b1), (l2, h2, b2), (l3, h3, b3)])] (rt (bb false)) [(1003, oiv [(l1, h1, b1), (l2, h2, b2), (l3, h3, b3)])], PureX Try.prog 7 #[] (rt (bb true))]) := by kernel_rfl
theorem l4_00 (l1 h1 : Int) (b1 : Bool) (l2 h2 : Int) (b2 : Bool) (l3 h3 : Int) (b3 : Bool) (al ah : Int) (ab : Bool) (ml mh : Int) (mb : Bool) (nl nh : Int) (nb : Bool) (kl kh : Int) (kb : Bool) (dl dh : Int) (db : Bool) (tl th : Int) (tb : Bool) (ql qh : Int) (qb : Bool) (sx sy pl ph rl rh : Int) (gb : Bool) : runB Try.prog 4 #[iv l1 h1 b1, iv l2 h2 b2, iv l3 h3 b3] [] [n, f, n, n, n, n, n, n, f, n, n, n, n, f, n, n, n, n, n, n, n, n, n, f, n, n, n, n, n, n, n, f] [(12, rt (iv al ah ab)), (12, rt (iv al ah ab)), (11, rt (iv ml mh mb)), (11, rt (iv ml mh mb)), (14, rt (iv 1073741824 1073741824 false)), (11, rt (iv l1 h1 b1)), (14, rt (iv 0 0 false)), (11, rt (iv 0 0 false)), (15, rt (iv 0 0 false)), (16, rt (iv nl nh nb)), (16, rt (iv l1 h1 b1)), (13, rt (iv dl dh db)), (16, rt (iv kl kh kb)), (12, rt (iv dl dh db)), (12, rt (iv al ah ab)), (13, rt (iv sx sy false)), (12, rt (iv tl th tb)), (11, rt (iv pl ph false)), (11, rt (iv ml mh mb)), (11, rt (iv ql qh qb)), (12, rt (iv rl rh false)), (9, rt (bb true)), (9, rt (bb true)), (7, rt (bb true))]
      [(6, rt (bb true), [(1003, oiv [(l1, h1, b1), (l2, h2, b2), (l3, h3, b3)])])] =
    some (rt (bb true), [], [CallsV Try.prog (.func 6) #[sl 1003 3] [(1003, oiv [(l1, h1, b1), (l2, h2, b2), (l3, h3, b3)])] (rt (bb true)) [(1003, oiv [(l1, h1, b1), (l2, h2, b2), (l3, h3, b3)])],
      PureX Try.prog 12 #[iv l1 h1 b1, iv l2 h2 b2] (rt (iv al ah ab)),
      PureX Try.prog 12 #[iv l2 h2 b2, iv l1 h1 b1] (rt (iv al ah ab)),
      (!((al == al) && ((ah == ah) && ((ab == ab) && true)))) = false,
      PureX Try.prog 11 #[iv l1 h1 b1, iv l2 h2 b2] (rt (iv ml mh mb)),
      PureX Try.prog 11 #[iv l2 h2 b2, iv l1 h1 b1] (rt (iv ml mh mb)),
      (!((ml == ml) && ((mh == mh) && ((mb == mb) && true)))) = false,
      PureX Try.prog 14 #[ii 1] (rt (iv 1073741824 1073741824 false)),
      PureX Try.prog 11 #[iv 1073741824 1073741824 false, iv l1 h1 b1] (rt (iv l1 h1 b1)),
      (!((l1 == l1) && ((h1 == h1) && ((b1 == b1) && true)))) = false,
      PureX Try.prog 14 #[ii 0] (rt (iv 0 0 false)),
      PureX Try.prog 11 #[iv 0 0 false, iv l1 h1 b1] (rt (iv 0 0 false)),
      PureX Try.prog 15 #[ii 0] (rt (iv 0 0 false)),
      PureX Try.prog 16 #[iv l1 h1 b1] (rt (iv nl nh nb)),
      PureX Try.prog 16 #[iv nl nh nb] (rt (iv l1 h1 b1)),
      (!((l1 == l1) && ((h1 == h1) && ((b1 == b1) && true)))) = false,
      PureX Try.prog 13 #[iv l1 h1 b1, iv l2 h2 b2] (rt (iv dl dh db)),
      PureX Try.prog 16 #[iv l2 h2 b2] (rt (iv kl kh kb)),
      PureX Try.prog 12 #[iv l1 h1 b1, iv kl kh kb] (rt (iv dl dh db)),
      (!((dl == dl) && ((dh == dh) && ((db == db) && true)))) = false,
      PureX Try.prog 12 #[iv l1 h1 b1, iv l2 h2 b2] (rt (iv al ah ab)),
      PureX Try.prog 13 #[iv al ah ab, iv l2 h2 b2] (rt (iv sx sy false)),
      PureX Try.prog 12 #[iv l2 h2 b2, iv l3 h3 b3] (rt (iv tl th tb)),
      PureX Try.prog 11 #[iv l1 h1 b1, iv tl th tb] (rt (iv pl ph false)),
      PureX Try.prog 11 #[iv l1 h1 b1, iv l2 h2 b2] (rt (iv ml mh mb)),
      PureX Try.prog 11 #[iv l1 h1 b1, iv l3 h3 b3] (rt (iv ql qh qb)),
      PureX Try.prog 12 #[iv ml mh mb, iv ql qh qb] (rt (iv rl rh false)),
      PureX Try.prog 9 #[iv sx sy false, iv l1 h1 b1] (rt (bb true)),
      PureX Try.prog 9 #[iv rl rh false, iv pl ph false] (rt (bb true)),
      PureX Try.prog 7 #[] (rt (bb true))]) := by kernel_rfl
theorem l4_01 (l1 h1 : Int) (b1 : Bool) (l2 h2 : Int) (b2 : Bool) (l3 h3 : Int) (b3 : Bool) (al ah : Int) (ab : Bool) (ml mh : Int) (mb : Bool) (nl nh : Int) (nb : Bool) (kl kh : Int) (kb : Bool) (dl dh : Int) (db : Bool) (tl th : Int) (tb : Bool) (ql qh : Int) (qb : Bool) (sx sy pl ph rl rh : Int) (gb : Bool) : runB Try.prog 4 #[iv l1 h1 b1, iv l2 h2 b2, iv l3 h3 b3] [] [n, f, n, n, n, n, n, n, f, n, n, n, n, f, n, n, n, n, n, n, n, n, n, f, n, n, n, n, n, n, n, f] [(12, rt (iv al ah ab)), (12, rt (iv al ah ab)), (11, rt (iv ml mh mb)), (11, rt (iv ml mh mb)), (14, rt (iv 1073741824 1073741824 false)), (11, rt (iv l1 h1 b1)), (14, rt (iv 0 0 false)), (11, rt (iv 0 0 false)), (15, rt (iv 0 0 false)), (16, rt (iv nl nh nb)), (16, rt (iv l1 h1 b1)), (13, rt (iv dl dh db)), (16, rt (iv kl kh kb)), (12, rt (iv dl dh db)), (12, rt (iv al ah ab)), (13, rt (iv sx sy false)), (12, rt (iv tl th tb)), (11, rt (iv pl ph gb)), (11, rt (iv ml mh mb)), (11, rt (iv ql qh qb)), (12, rt (bad)), (9, rt (bb true)), (7, rt (bb true))]
      [(6, rt (bb true), [(1003, oiv [(l1, h1, b1), (l2, h2, b2), (l3, h3, b3)])])] =
    some (rt (bb true), [], [CallsV Try.prog (.func 6) #[sl 1003 3] [(1003, oiv [(l1, h1, b1), (l2, h2, b2), (l3, h3, b3)])] (rt (bb true)) [(1003, oiv [(l1, h1, b1), (l2, h2, b2), (l3, h3, b3)])],
      PureX Try.prog 12 #[iv l1 h1 b1, iv l2 h2 b2] (rt (iv al ah ab)),
      PureX Try.prog 12 #[iv l2 h2 b2, iv l1 h1 b1] (rt (iv al ah ab)),
      (!((al == al) && ((ah == ah) && ((ab == ab) && true)))) = false,
      PureX Try.prog 11 #[iv l1 h1 b1, iv l2 h2 b2] (rt (iv ml mh mb)),
      PureX Try.prog 11 #[iv l2 h2 b2, iv l1 h1 b1] (rt (iv ml mh mb)),
      (!((ml == ml) && ((mh == mh) && ((mb == mb) && true)))) = false,
      PureX Try.prog 14 #[ii 1] (rt (iv 1073741824 1073741824 false)),
      PureX Try.prog 11 #[iv 1073741824 1073741824 false, iv l1 h1 b1] (rt (iv l1 h1 b1)),
      (!((l1 == l1) && ((h1 == h1) && ((b1 == b1) && true)))) = false,
      PureX Try.prog 14 #[ii 0] (rt (iv 0 0 false)),
      PureX Try.prog 11 #[iv 0 0 false, iv l1 h1 b1] (rt (iv 0 0 false)),
      PureX Try.prog 15 #[ii 0] (rt (iv 0 0 false)),
      PureX Try.prog 16 #[iv l1 h1 b1] (rt (iv nl nh nb)),
      PureX Try.prog 16 #[iv nl nh nb] (rt (iv l1 h1 b1)),
      (!((l1 == l1) && ((h1 == h1) && ((b1 == b1) && true)))) = false,
      PureX Try.prog 13 #[iv l1 h1 b1, iv l2 h2 b2] (rt (iv dl dh db)),
      PureX Try.prog 16 #[iv l2 h2 b2] (rt (iv kl kh kb)),
      PureX Try.prog 12 #[iv l1 h1 b1, iv kl kh kb] (rt (iv dl dh db)),
      (!((dl == dl) && ((dh == dh) && ((db == db) && true)))) = false,
      PureX Try.prog 12 #[iv l1 h1 b1, iv l2 h2 b2] (rt (iv al ah ab)),
      PureX Try.prog 13 #[iv al ah ab, iv l2 h2 b2] (rt (iv sx sy false)),
      PureX Try.prog 12 #[iv l2 h2 b2, iv l3 h3 b3] (rt (iv tl th tb)),
      PureX Try.prog 11 #[iv l1 h1 b1, iv tl th tb] (rt (iv pl ph gb)),
      PureX Try.prog 11 #[iv l1 h1 b1, iv l2 h2 b2] (rt (iv ml mh mb)),
      PureX Try.prog 11 #[iv l1 h1 b1, iv l3 h3 b3] (rt (iv ql qh qb)),
      PureX Try.prog 12 #[iv ml mh mb, iv ql qh qb] (rt (bad)),
      PureX Try.prog 9 #[iv sx sy false, iv l1 h1 b1] (rt (bb true)),
      PureX Try.prog 7 #[] (rt (bb true))]) := by kernel_rfl
theorem l4_02 (l1 h1 : Int) (b1 : Bool) (l2 h2 : Int) (b2 : Bool) (l3 h3 : Int) (b3 : Bool) (al ah : Int) (ab : Bool) (ml mh : Int) (mb : Bool) (nl nh : Int) (nb : Bool) (kl kh : Int) (kb : Bool) (dl dh : Int) (db : Bool) (tl th : Int) (tb : Bool) (ql qh : Int) (qb : Bool) (sx sy pl ph rl rh : Int) (gb : Bool) : runB Try.prog 4 #[iv l1 h1 b1, iv l2 h2 b2, iv l3 h3 b3] [] [n, f, n, n, n, n, n, n, f, n, n, n, n, f, n, n, n, n, n, n, n, n, n, f, n, n, n, n, n, n, n, f] [(12, rt (iv al ah ab)), (12, rt (iv al ah ab)), (11, rt (iv ml mh mb)), (11, rt (iv ml mh mb)), (14, rt (iv 1073741824 1073741824 false)), (11, rt (iv l1 h1 b1)), (14, rt (iv 0 0 false)), (11, rt (iv 0 0 false)), (15, rt (iv 0 0 false)), (16, rt (iv nl nh nb)), (16, rt (iv l1 h1 b1)), (13, rt (iv dl dh db)), (16, rt (iv kl kh kb)), (12, rt (iv dl dh db)), (12, rt (iv al ah ab)), (13, rt (iv sx sy false)), (12, rt (iv tl th tb)), (11, rt (bad)), (11, rt (iv ml mh mb)), (11, rt (iv ql qh qb)), (12, rt (iv rl rh false)), (9, rt (bb true)), (7, rt (bb true))]
      [(6, rt (bb true), [(1003, oiv [(l1, h1, b1), (l2, h2, b2), (l3, h3, b3)])])] =
    some (rt (bb true), [], [CallsV Try.prog (.func 6) #[sl 1003 3] [(1003, oiv [(l1, h1, b1), (l2, h2, b2), (l3, h3, b3)])] (rt (bb true)) [(1003, oiv [(l1, h1, b1), (l2, h2, b2), (l3, h3, b3)])],
      PureX Try.prog 12 #[iv l1 h1 b1, iv l2 h2 b2] (rt (iv al ah ab)),
      PureX Try.prog 12 #[iv l2 h2 b2, iv l1 h1 b1] (rt (iv al ah ab)),
      (!((al == al) && ((ah == ah) && ((ab == ab) && true)))) = false,
      PureX Try.prog 11 #[iv l1 h1 b1, iv l2 h2 b2] (rt (iv ml mh mb)),
      PureX Try.prog 11 #[iv l2 h2 b2, iv l1 h1 b1] (rt (iv ml mh mb)),
      (!((ml == ml) && ((mh == mh) && ((mb == mb) && true)))) = false,
      PureX Try.prog 14 #[ii 1] (rt (iv 1073741824 1073741824 false)),
      PureX Try.prog 11 #[iv 1073741824 1073741824 false, iv l1 h1 b1] (rt (iv l1 h1 b1)),
      (!((l1 == l1) && ((h1 == h1) && ((b1 == b1) && true)))) = false,
      PureX Try.prog 14 #[ii 0] (rt (iv 0 0 false)),
      PureX Try.prog 11 #[iv 0 0 false, iv l1 h1 b1] (rt (iv 0 0 false)),
      PureX Try.prog 15 #[ii 0] (rt (iv 0 0 false)),
      PureX Try.prog 16 #[iv l1 h1 b1] (rt (iv nl nh nb)),
      PureX Try.prog 16 #[iv nl nh nb] (rt (iv l1 h1 b1)),
      (!((l1 == l1) && ((h1 == h1) && ((b1 == b1) && true)))) = false,
      PureX Try.prog 13 #[iv l1 h1 b1, iv l2 h2 b2] (rt (iv dl dh db)),
      PureX Try.prog 16 #[iv l2 h2 b2] (rt (iv kl kh kb)),
      PureX Try.prog 12 #[iv l1 h1 b1, iv kl kh kb] (rt (iv dl dh db)),
      (!((dl == dl) && ((dh == dh) && ((db == db) && true)))) = false,
      PureX Try.prog 12 #[iv l1 h1 b1, iv l2 h2 b2] (rt (iv al ah ab)),
      PureX Try.prog 13 #[iv al ah ab, iv l2 h2 b2] (rt (iv sx sy false)),
      PureX Try.prog 12 #[iv l2 h2 b2, iv l3 h3 b3] (rt (iv tl th tb)),
      PureX Try.prog 11 #[iv l1 h1 b1, iv tl th tb] (rt (bad)),
      PureX Try.prog 11 #[iv l1 h1 b1, iv l2 h2 b2] (rt (iv ml mh mb)),
      PureX Try.prog 11 #[iv l1 h1 b1, iv l3 h3 b3] (rt (iv ql qh qb)),
      PureX Try.prog 12 #[iv ml mh mb, iv ql qh qb] (rt (iv rl rh false)),
      PureX Try.prog 9 #[iv sx sy false, iv l1 h1 b1] (rt (bb true)),
      PureX Try.prog 7 #[] (rt (bb true))]) := by kernel_rfl
theorem l4_10 (l1 h1 : Int) (b1 : Bool) (l2 h2 : Int) (b2 : Bool) (l3 h3 : Int) (b3 : Bool) (al ah : Int) (ab : Bool) (ml mh : Int) (mb : Bool) (nl nh : Int) (nb : Bool) (kl kh : Int) (kb : Bool) (dl dh : Int) (db : Bool) (tl th : Int) (tb : Bool) (ql qh : Int) (qb : Bool) (sx sy pl ph rl rh : Int) (gb : Bool) : runB Try.prog 4 #[iv l1 h1 b1, iv l2 h2 b2, iv l3 h3 b3] [] [n, f, n, n, n, n, n, n, f, n, n, n, n, f, n, n, n, n, n, n, n, n, n, f, n, n, n, n, n, n, n, f] [(12, rt (iv al ah ab)), (12, rt (iv al ah ab)), (11, rt (iv ml mh mb)), (11, rt (iv ml mh mb)), (14, rt (iv 1073741824 1073741824 false)), (11, rt (iv l1 h1 b1)), (14, rt (iv 0 0 false)), (11, rt (iv 0 0 false)), (15, rt (iv 0 0 false)), (16, rt (iv nl nh nb)), (16, rt (iv l1 h1 b1)), (13, rt (iv dl dh db)), (16, rt (iv kl kh kb)), (12, rt (iv dl dh db)), (12, rt (iv al ah ab)), (13, rt (bad)), (12, rt (iv tl th tb)), (11, rt (iv pl ph false)), (11, rt (iv ml mh mb)), (11, rt (iv ql qh qb)), (12, rt (iv rl rh false)), (9, rt (bb true)), (7, rt (bb true))]
      [(6, rt (bb true), [(1003, oiv [(l1, h1, b1), (l2, h2, b2), (l3, h3, b3)])])] =
    some (rt (bb true), [], [CallsV Try.prog (.func 6) #[sl 1003 3] [(1003, oiv [(l1, h1, b1), (l2, h2, b2), (l3, h3, b3)])] (rt (bb true)) [(1003, oiv [(l1, h1, b1), (l2, h2, b2), (l3, h3, b3)])],
      PureX Try.prog 12 #[iv l1 h1 b1, iv l2 h2 b2] (rt (iv al ah ab)),
      PureX Try.prog 12 #[iv l2 h2 b2, iv l1 h1 b1] (rt (iv al ah ab)),
      (!((al == al) && ((ah == ah) && ((ab == ab) && true)))) = false,
      PureX Try.prog 11 #[iv l1 h1 b1, iv l2 h2 b2] (rt (iv ml mh mb)),
      PureX Try.prog 11 #[iv l2 h2 b2, iv l1 h1 b1] (rt (iv ml mh mb)),
      (!((ml == ml) && ((mh == mh) && ((mb == mb) && true)))) = false,
      PureX Try.prog 14 #[ii 1] (rt (iv 1073741824 1073741824 false)),
      PureX Try.prog 11 #[iv 1073741824 1073741824 false, iv l1 h1 b1] (rt (iv l1 h1 b1)),
      (!((l1 == l1) && ((h1 == h1) && ((b1 == b1) && true)))) = false,
      PureX Try.prog 14 #[ii 0] (rt (iv 0 0 false)),
      PureX Try.prog 11 #[iv 0 0 false, iv l1 h1 b1] (rt (iv 0 0 false)),
      PureX Try.prog 15 #[ii 0] (rt (iv 0 0 false)),
      PureX Try.prog 16 #[iv l1 h1 b1] (rt (iv nl nh nb)),
      PureX Try.prog 16 #[iv nl nh nb] (rt (iv l1 h1 b1)),
      (!((l1 == l1) && ((h1 == h1) && ((b1 == b1) && true)))) = false,
      PureX Try.prog 13 #[iv l1 h1 b1, iv l2 h2 b2] (rt (iv dl dh db)),
      PureX Try.prog 16 #[iv l2 h2 b2] (rt (iv kl kh kb)),
      PureX Try.prog 12 #[iv l1 h1 b1, iv kl kh kb] (rt (iv dl dh db)),
      (!((dl == dl) && ((dh == dh) && ((db == db) && true)))) = false,
      PureX Try.prog 12 #[iv l1 h1 b1, iv l2 h2 b2] (rt (iv al ah ab)),
      PureX Try.prog 13 #[iv al ah ab, iv l2 h2 b2] (rt (bad)),
      PureX Try.prog 12 #[iv l2 h2 b2, iv l3 h3 b3] (rt (iv tl th tb)),
      PureX Try.prog 11 #[iv l1 h1 b1, iv tl th tb] (rt (iv pl ph false)),
      PureX Try.prog 11 #[iv l1 h1 b1, iv l2 h2 b2] (rt (iv ml mh mb)),
      PureX Try.prog 11 #[iv l1 h1 b1, iv l3 h3 b3] (rt (iv ql qh qb)),
      PureX Try.prog 12 #[iv ml mh mb, iv ql qh qb] (rt (iv rl rh false)),
      PureX Try.prog 9 #[iv rl rh false, iv pl ph false] (rt (bb true)),
      PureX Try.prog 7 #[] (rt (bb true))]) := by kernel_rfl
theorem l4_11 (l1 h1 : Int) (b1 : Bool) (l2 h2 : Int) (b2 : Bool) (l3 h3 : Int) (b3 : Bool) (al ah : Int) (ab : Bool) (ml mh : Int) (mb : Bool) (nl nh : Int) (nb : Bool) (kl kh : Int) (kb : Bool) (dl dh : Int) (db : Bool) (tl th : Int) (tb : Bool) (ql qh : Int) (qb : Bool) (sx sy pl ph rl rh : Int) (gb : Bool) : runB Try.prog 4 #[iv l1 h1 b1, iv l2 h2 b2, iv l3 h3 b3] [] [n, f, n, n, n, n, n, n, f, n, n, n, n, f, n, n, n, n, n, n, n, n, n, f, n, n, n, n, n, n, n, f] [(12, rt (iv al ah ab)), (12, rt (iv al ah ab)), (11, rt (iv ml mh mb)), (11, rt (iv ml mh mb)), (14, rt (iv 1073741824 1073741824 false)), (11, rt (iv l1 h1 b1)), (14, rt (iv 0 0 false)), (11, rt (iv 0 0 false)), (15, rt (iv 0 0 false)), (16, rt (iv nl nh nb)), (16, rt (iv l1 h1 b1)), (13, rt (iv dl dh db)), (16, rt (iv kl kh kb)), (12, rt (iv dl dh db)), (12, rt (iv al ah ab)), (13, rt (bad)), (12, rt (iv tl th tb)), (11, rt (iv pl ph gb)), (11, rt (iv ml mh mb)), (11, rt (iv ql qh qb)), (12, rt (bad)), (7, rt (bb true))]
      [(6, rt (bb true), [(1003, oiv [(l1, h1, b1), (l2, h2, b2), (l3, h3, b3)])])] =
    some (rt (bb true), [], [CallsV Try.prog (.func 6) #[sl 1003 3] [(1003, oiv [(l1, h1, b1), (l2, h2, b2), (l3, h3, b3)])] (rt (bb true)) [(1003, oiv [(l1, h1, b1), (l2, h2, b2), (l3, h3, b3)])],
      PureX Try.prog 12 #[iv l1 h1 b1, iv l2 h2 b2] (rt (iv al ah ab)),
      PureX Try.prog 12 #[iv l2 h2 b2, iv l1 h1 b1] (rt (iv al ah ab)),
      (!((al == al) && ((ah == ah) && ((ab == ab) && true)))) = false,
      PureX Try.prog 11 #[iv l1 h1 b1, iv l2 h2 b2] (rt (iv ml mh mb)),
      PureX Try.prog 11 #[iv l2 h2 b2, iv l1 h1 b1] (rt (iv ml mh mb)),
      (!((ml == ml) && ((mh == mh) && ((mb == mb) && true)))) = false,
      PureX Try.prog 14 #[ii 1] (rt (iv 1073741824 1073741824 false)),
      PureX Try.prog 11 #[iv 1073741824 1073741824 false, iv l1 h1 b1] (rt (iv l1 h1 b1)),
      (!((l1 == l1) && ((h1 == h1) && ((b1 == b1) && true)))) = false,
      PureX Try.prog 14 #[ii 0] (rt (iv 0 0 false)),
      PureX Try.prog 11 #[iv 0 0 false, iv l1 h1 b1] (rt (iv 0 0 false)),
      PureX Try.prog 15 #[ii 0] (rt (iv 0 0 false)),
      PureX Try.prog 16 #[iv l1 h1 b1] (rt (iv nl nh nb)),
      PureX Try.prog 16 #[iv nl nh nb] (rt (iv l1 h1 b1)),
      (!((l1 == l1) && ((h1 == h1) && ((b1 == b1) && true)))) = false,
      PureX Try.prog 13 #[iv l1 h1 b1, iv l2 h2 b2] (rt (iv dl dh db)),
      PureX Try.prog 16 #[iv l2 h2 b2] (rt (iv kl kh kb)),
      PureX Try.prog 12 #[iv l1 h1 b1, iv kl kh kb] (rt (iv dl dh db)),
      (!((dl == dl) && ((dh == dh) && ((db == db) && true)))) = false,
      PureX Try.prog 12 #[iv l1 h1 b1, iv l2 h2 b2] (rt (iv al ah ab)),
      PureX Try.prog 13 #[iv al ah ab, iv l2 h2 b2] (rt (bad)),
      PureX Try.prog 12 #[iv l2 h2 b2, iv l3 h3 b3] (rt (iv tl th tb)),
      PureX Try.prog 11 #[iv l1 h1 b1, iv tl th tb] (rt (iv pl ph gb)),
      PureX Try.prog 11 #[iv l1 h1 b1, iv l2 h2 b2] (rt (iv ml mh mb)),
      PureX Try.prog 11 #[iv l1 h1 b1, iv l3 h3 b3] (rt (iv ql qh qb)),
      PureX Try.prog 12 #[iv ml mh mb, iv ql qh qb] (rt (bad)),
      PureX Try.prog 7 #[] (rt (bb true))]) := by kernel_rfl
theorem l4_12 (l1 h1 : Int) (b1 : Bool) (l2 h2 : Int) (b2 : Bool) (l3 h3 : Int) (b3 : Bool) (al ah : Int) (ab : Bool) (ml mh : Int) (mb : Bool) (nl nh : Int) (nb : Bool) (kl kh : Int) (kb : Bool) (dl dh : Int) (db : Bool) (tl th : Int) (tb : Bool) (ql qh : Int) (qb : Bool) (sx sy pl ph rl rh : Int) (gb : Bool) : runB Try.prog 4 #[iv l1 h1 b1, iv l2 h2 b2, iv l3 h3 b3] [] [n, f, n, n, n, n, n, n, f, n, n, n, n, f, n, n, n, n, n, n, n, n, n, f, n, n, n, n, n, n, n, f] [(12, rt (iv al ah ab)), (12, rt (iv al ah ab)), (11, rt (iv ml mh mb)), (11, rt (iv ml mh mb)), (14, rt (iv 1073741824 1073741824 false)), (11, rt (iv l1 h1 b1)), (14, rt (iv 0 0 false)), (11, rt (iv 0 0 false)), (15, rt (iv 0 0 false)), (16, rt (iv nl nh nb)), (16, rt (iv l1 h1 b1)), (13, rt (iv dl dh db)), (16, rt (iv kl kh kb)), (12, rt (iv dl dh db)), (12, rt (iv al ah ab)), (13, rt (bad)), (12, rt (iv tl th tb)), (11, rt (bad)), (11, rt (iv ml mh mb)), (11, rt (iv ql qh qb)), (12, rt (iv rl rh false)), (7, rt (bb true))]
      [(6, rt (bb true), [(1003, oiv [(l1, h1, b1), (l2, h2, b2), (l3, h3, b3)])])] =
    some (rt (bb true), [], [CallsV Try.prog (.func 6) #[sl 1003 3] [(1003, oiv [(l1, h1, b1), (l2, h2, b2), (l3, h3, b3)])] (rt (bb true)) [(1003, oiv [(l1, h1, b1), (l2, h2, b2), (l3, h3, b3)])],
      PureX Try.prog 12 #[iv l1 h1 b1, iv l2 h2 b2] (rt (iv al ah ab)),
      PureX Try.prog 12 #[iv l2 h2 b2, iv l1 h1 b1] (rt (iv al ah ab)),
      (!((al == al) && ((ah == ah) && ((ab == ab) && true)))) = false,
      PureX Try.prog 11 #[iv l1 h1 b1, iv l2 h2 b2] (rt (iv ml mh mb)),
      PureX Try.prog 11 #[iv l2 h2 b2, iv l1 h1 b1] (rt (iv ml mh mb)),
      (!((ml == ml) && ((mh == mh) && ((mb == mb) && true)))) = false,
      PureX Try.prog 14 #[ii 1] (rt (iv 1073741824 1073741824 false)),
      PureX Try.prog 11 #[iv 1073741824 1073741824 false, iv l1 h1 b1] (rt (iv l1 h1 b1)),
      (!((l1 == l1) && ((h1 == h1) && ((b1 == b1) && true)))) = false,
      PureX Try.prog 14 #[ii 0] (rt (iv 0 0 false)),
      PureX Try.prog 11 #[iv 0 0 false, iv l1 h1 b1] (rt (iv 0 0 false)),
      PureX Try.prog 15 #[ii 0] (rt (iv 0 0 false)),
      PureX Try.prog 16 #[iv l1 h1 b1] (rt (iv nl nh nb)),
      PureX Try.prog 16 #[iv nl nh nb] (rt (iv l1 h1 b1)),
      (!((l1 == l1) && ((h1 == h1) && ((b1 == b1) && true)))) = false,
      PureX Try.prog 13 #[iv l1 h1 b1, iv l2 h2 b2] (rt (iv dl dh db)),
      PureX Try.prog 16 #[iv l2 h2 b2] (rt (iv kl kh kb)),
      PureX Try.prog 12 #[iv l1 h1 b1, iv kl kh kb] (rt (iv dl dh db)),
      (!((dl == dl) && ((dh == dh) && ((db == db) && true)))) = false,
      PureX Try.prog 12 #[iv l1 h1 b1, iv l2 h2 b2] (rt (iv al ah ab)),
      PureX Try.prog 13 #[iv al ah ab, iv l2 h2 b2] (rt (bad)),
      PureX Try.prog 12 #[iv l2 h2 b2, iv l3 h3 b3] (rt (iv tl th tb)),
      PureX Try.prog 11 #[iv l1 h1 b1, iv tl th tb] (rt (bad)),
      PureX Try.prog 11 #[iv l1 h1 b1, iv l2 h2 b2] (rt (iv ml mh mb)),
      PureX Try.prog 11 #[iv l1 h1 b1, iv l3 h3 b3] (rt (iv ql qh qb)),
      PureX Try.prog 12 #[iv ml mh mb, iv ql qh qb] (rt (iv rl rh false)),
      PureX Try.prog 7 #[] (rt (bb true))]) := by kernel_rfl
theorem same3 (a b : Int) (c : Bool) : (!((a == a) && ((b == b) && ((c == c) && true)))) = false := by simp
theorem ring_walk (x y z : IV) : PureX Try.prog 4 #[ivv x, ivv y, ivv z] (rt (bb true)) := by
  have hf := rfine_v3 1003 x y z
  cases hk : okV x && okV y && okV z
  · rw [hk] at hf
    exact runB_pure mix (l4_no _ _ _ _ _ _ _ _ _) ⟨hf, wakes5_c, trivial⟩ rfl rfl
  rw [hk] at hf
  simp only [Bool.and_eq_true] at hk
  obtain ⟨⟨hx, hy⟩, hz⟩ := hk
  have a1 := add_v x y
  have a2 := add_v y x
  rw [addV_comm y x] at a2
  have m1 := imul_v x y
  have m2 := imul_v y x
  rw [mulV_comm y x] at m2
  have o1 := (iof_v 1).is (show _ = rt (iv 1073741824 1073741824 false) from by kernel_rfl)
  have o0 := (iof_v 0).is (show _ = rt (iv 0 0 false) from by kernel_rfl)
  have p0 := (point_v 0).is (show _ = rt (iv 0 0 false) from by kernel_rfl)
  have n1 := imul_v (1073741824, 1073741824, false) x
  rw [mulV_one hx] at n1
  have n0 := imul_v (0, 0, false) x
  rw [mulV_nought hx] at n0
  have g1 := ineg_v x
  have g2 := ineg_v (negV x)
  rw [negV_negV hx] at g2
  have d1 := isub_v x y
  have g3 := ineg_v y
  have d2 := add_v x (negV y)
  rw [← subV_neg hx hy] at d2
  have s1 := isub_v (addV x y) y
  have u1 := add_v y z
  have l1 := imul_v x (addV y z)
  have q1 := imul_v x z
  have r1 := add_v (mulV x y) (mulV x z)
  have e1 := same3 (addV x y).1 (addV x y).2.1 (addV x y).2.2
  have e2 := same3 (mulV x y).1 (mulV x y).2.1 (mulV x y).2.2
  have e3 := same3 x.1 x.2.1 x.2.2
  have e4 := same3 (subV x y).1 (subV x y).2.1 (subV x y).2.2
  have ps := holds_v (subV (addV x y) y) x
  have pr := holds_v (addV (mulV x y) (mulV x z)) (mulV x (addV y z))
  cases hs : (subV (addV x y) y).2.2
  · rw [add_sub_holds hx hy hs] at ps
    rw [ivv_eq (ext3 rfl rfl hs)] at s1 ps
    cases hr : (addV (mulV x y) (mulV x z)).2.2
    · cases hl : (mulV x (addV y z)).2.2
      · rw [ring_holds hx hy hz hr hl] at pr
        rw [ivv_eq (ext3 rfl rfl hr)] at r1 pr
        rw [ivv_eq (ext3 rfl rfl hl)] at l1 pr
        exact runB_pure mix (l4_00 _ _ _ _ _ _ _ _ _ _ _ _ _ _ _ _ _ _ _ _ _ _ _ _ _ _ _ _ _ _ _ _ _ _ _ _ false) ⟨hf, a1, a2, e1, m1, m2, e2, o1, n1, e3, o0, n0, p0, g1, g2, e3, d1, g3, d2, e4, a1, s1, u1, l1, m1, q1, r1, ps, pr, wakes5_c, trivial⟩ rfl rfl
      · rw [ivv_eq (ext3 rfl rfl hr)] at r1
        rw [mulV_bd hl] at l1
        exact runB_pure mix (l4_02 _ _ _ _ _ _ _ _ _ _ _ _ _ _ _ _ _ _ _ _ _ _ _ _ _ _ _ _ _ _ _ _ 0 0 _ _ false) ⟨hf, a1, a2, e1, m1, m2, e2, o1, n1, e3, o0, n0, p0, g1, g2, e3, d1, g3, d2, e4, a1, s1, u1, l1, m1, q1, r1, ps, wakes5_c, trivial⟩ rfl rfl
    · rw [addV_bd hr] at r1
      exact runB_pure mix (l4_01 _ _ _ _ _ _ _ _ _ _ _ _ _ _ _ _ _ _ _ _ _ _ _ _ _ _ _ _ _ _ _ _ _ _ 0 0 _) ⟨hf, a1, a2, e1, m1, m2, e2, o1, n1, e3, o0, n0, p0, g1, g2, e3, d1, g3, d2, e4, a1, s1, u1, l1, m1, q1, r1, ps, wakes5_c, trivial⟩ rfl rfl
  · rw [subV_bd hs] at s1
    cases hr : (addV (mulV x y) (mulV x z)).2.2
    · cases hl : (mulV x (addV y z)).2.2
      · rw [ring_holds hx hy hz hr hl] at pr
        rw [ivv_eq (ext3 rfl rfl hr)] at r1 pr
        rw [ivv_eq (ext3 rfl rfl hl)] at l1 pr
        exact runB_pure mix (l4_10 _ _ _ _ _ _ _ _ _ _ _ _ _ _ _ _ _ _ _ _ _ _ _ _ _ _ _ _ _ _ 0 0 _ _ _ _ false) ⟨hf, a1, a2, e1, m1, m2, e2, o1, n1, e3, o0, n0, p0, g1, g2, e3, d1, g3, d2, e4, a1, s1, u1, l1, m1, q1, r1, pr, wakes5_c, trivial⟩ rfl rfl
      · rw [ivv_eq (ext3 rfl rfl hr)] at r1
        rw [mulV_bd hl] at l1
        exact runB_pure mix (l4_12 _ _ _ _ _ _ _ _ _ _ _ _ _ _ _ _ _ _ _ _ _ _ _ _ _ _ _ _ _ _ 0 0 0 0 _ _ false) ⟨hf, a1, a2, e1, m1, m2, e2, o1, n1, e3, o0, n0, p0, g1, g2, e3, d1, g3, d2, e4, a1, s1, u1, l1, m1, q1, r1, wakes5_c, trivial⟩ rfl rfl
    · rw [addV_bd hr] at r1
      exact runB_pure mix (l4_11 _ _ _ _ _ _ _ _ _ _ _ _ _ _ _ _ _ _ _ _ _ _ _ _ _ _ _ _ _ _ 0 0 _ _ 0 0 _) ⟨hf, a1, a2, e1, m1, m2, e2, o1, n1, e3, o0, n0, p0, g1, g2, e3, d1, g3, d2, e4, a1, s1, u1, l1, m1, q1, r1, wakes5_c, trivial⟩ rfl rfl

end Go.Proofs.Ytieplecefgnakaa
