/- Texts of the seat, joined. -/
import Derived.Test.YtpllklojcjhjaaaZz14
import Derived.Test.YtpllklojcjhjaaaZz16
/- Check and Moved, by letters. -/
namespace Go.Proofs.Ytpllklojcjhjaaa
open Go Go.RowKit
set_option linter.unusedSimpArgs false
set_option linter.unusedVariables false
set_option maxRecDepth 100000

theorem ck_nn (st : Int) (g bx to nr me : Int) : runF Try.prog 1000 [] 14 #[cv sl0 g bx to nr me, sv st sl0] [] [n, n, n, n] [(29, rt (ii 110))] [] [] =
    some (rt (ii (2)), [], [PureX Try.prog 29 #[.agg ⟨[sl0, ii (g), ii (bx), ii (to), ii (nr), ii (me)]⟩] (rt (ii (110)))]) := by kernel_rfl
theorem ck_nw (st : Int) (off m cap off' m' cap' : Nat) (c c' : Array Value) (g bx to nr me e : Int) : runF Try.prog 1000 [2] 14 #[cv sl0 g bx to nr me, sv st (slw 2 off' m' cap')] [(2, win off' c')] [n, n, n, n] [(29, rt (ii 110))] [] [] =
    some (rt (ii (2)), [(2, win off' c')], [PureX Try.prog 29 #[.agg ⟨[sl0, ii (g), ii (bx), ii (to), ii (nr), ii (me)]⟩] (rt (ii (110)))]) := by kernel_rfl
theorem ck_wn (st : Int) (off m cap off' m' cap' : Nat) (c c' : Array Value) (g bx to nr me e : Int) : runF Try.prog 1000 [1] 14 #[cv (slw 1 off m cap) g bx to nr me, sv st sl0] [(1, win off c)] [n, n, n, n] [] [(29, rt (ii 110), [(1, win off c)])] [] =
    some (rt (ii (2)), [(1, win off c)], [CallsV Try.prog (.func 29) #[cv (slw 1 off m cap) g bx to nr me] [(1, win off c)] (rt (ii 110)) [(1, win off c)]]) := by kernel_rfl
theorem ck_rn (st : Int) (off m cap off' m' cap' : Nat) (c c' : Array Value) (g bx to nr me e : Int) : runF Try.prog 1000 [1] 14 #[cv (slw 1 off m cap) g bx to nr me, sv st sl0] [(1, win off c)] [n, n, n, n] [(30, rt (bb false))] [(29, rt (ii 0), [(1, win off c)])] [] =
    some (rt (ii (2)), [(1, win off c)], [CallsV Try.prog (.func 29) #[cv (slw 1 off m cap) g bx to nr me] [(1, win off c)] (rt (ii 0)) [(1, win off c)], PureX Try.prog 30 #[.agg ⟨[ii (st), sl0]⟩] (rt (bb (false)))]) := by kernel_rfl
theorem ck_0 (st : Int) (off m cap off' m' cap' : Nat) (c c' : Array Value) (g bx to nr me e : Int) : runF Try.prog 1000 [1, 2] 14 #[cv (slw 1 off m cap) g bx to nr me, sv st (slw 2 off' m' cap')] [(1, win off c), (2, win off' c')] [n, n, n, n, n] [] [(29, rt (ii 0), [(1, win off c)]), (30, rt (bb true), [(2, win off' c')]), (11, rt sl0, [(2, win off' c'), (1, win off c)])] [] =
    some (rt (ii (0)), [(2, win off' c'), (1, win off c)], [CallsV Try.prog (.func 29) #[cv (slw 1 off m cap) g bx to nr me] [(1, win off c)] (rt (ii 0)) [(1, win off c)], CallsV Try.prog (.func 30) #[sv st (slw 2 off' m' cap')] [(2, win off' c')] (rt (bb true)) [(2, win off' c')], CallsV Try.prog (.func 11) #[cv (slw 1 off m cap) g bx to nr me, sv st (slw 2 off' m' cap')] [(2, win off' c'), (1, win off c)] (rt sl0) [(2, win off' c'), (1, win off c)]]) := by kernel_rfl
theorem ck_1 (st : Int) (off m cap off' m' cap' : Nat) (c c' : Array Value) (g bx to nr me e : Int) (R : List Pr) : runF Try.prog 1000 [1, 2] 14 #[cv (slw 1 off m cap) g bx to nr me, sv st (slw 2 off' m' cap')] [(1, win off c), (2, win off' c')] [n, n, n, n, t] [] [(29, rt (ii 0), [(1, win off c)]), (30, rt (bb true), [(2, win off' c')]), (11, rt (slw 9 0 R.length capU), [(9, KP.opq R), (2, win off' c'), (1, win off c)])] [] =
    some (rt (ii (130)), [(2, win off' c'), (1, win off c)], [CallsV Try.prog (.func 29) #[cv (slw 1 off m cap) g bx to nr me] [(1, win off c)] (rt (ii 0)) [(1, win off c)], CallsV Try.prog (.func 30) #[sv st (slw 2 off' m' cap')] [(2, win off' c')] (rt (bb true)) [(2, win off' c')], CallsV Try.prog (.func 11) #[cv (slw 1 off m cap) g bx to nr me, sv st (slw 2 off' m' cap')] [(2, win off' c'), (1, win off c)] (rt (slw 9 0 R.length capU)) [(9, KP.opq R), (2, win off' c'), (1, win off c)], (decide (0 < (R.length : Int))) = true]) := by kernel_rfl
theorem ck_ww (st : Int) (off m cap off' m' cap' : Nat) (c c' : Array Value) (g bx to nr me e : Int) : runF Try.prog 1000 [1, 2] 14 #[cv (slw 1 off m cap) g bx to nr me, sv st (slw 2 off' m' cap')] [(1, win off c), (2, win off' c')] [n, n, n, n] [] [(29, rt (ii 110), [(1, win off c)])] [] =
    some (rt (ii (2)), [(1, win off c), (2, win off' c')], [CallsV Try.prog (.func 29) #[cv (slw 1 off m cap) g bx to nr me] [(1, win off c)] (rt (ii 110)) [(1, win off c)]]) := by kernel_rfl
theorem ck_rw (st : Int) (off m cap off' m' cap' : Nat) (c c' : Array Value) (g bx to nr me e : Int) : runF Try.prog 1000 [1, 2] 14 #[cv (slw 1 off m cap) g bx to nr me, sv st (slw 2 off' m' cap')] [(1, win off c), (2, win off' c')] [n, n, n, n] [] [(29, rt (ii 0), [(1, win off c)]), (30, rt (bb false), [(2, win off' c')])] [] =
    some (rt (ii (2)), [(2, win off' c'), (1, win off c)], [CallsV Try.prog (.func 29) #[cv (slw 1 off m cap) g bx to nr me] [(1, win off c)] (rt (ii 0)) [(1, win off c)], CallsV Try.prog (.func 30) #[sv st (slw 2 off' m' cap')] [(2, win off' c')] (rt (bb false)) [(2, win off' c')]]) := by kernel_rfl
theorem mov_1_0 (st : Int) (cap : Nat) (a : Bd) (r x y z w : P3) : runF Try.prog 2000 [1] 31 #[sv st (slw 1 0 1 cap), vv r] [(1, wob [a])] [n, n] [(51, rt (tp [vv (0, 0, 0), ii 20]))] [] [] =
    some (rt (tp [sv 0 sl0, bb false]), [(1, wob [a])], [PureX Try.prog 51 #[vv a.1, vv r] (rt (tp [vc (0) (0) (0), ii (20)]))]) := by kernel_rfl
theorem mov_1_1 (st : Int) (cap : Nat) (a : Bd) (r x y z w : P3) : runF Try.prog 2000 [2005, 1] 31 #[sv st (slw 1 0 1 cap), vv r] [(1, wob [a])] [n, n, n] [(51, rt (tp [vv x, ii 0]))] [] [] =
    some (rt (tp [sv st (slw 2005 0 1 capU), bb true]), [(2005, KB.own [(x, a.2)]), (1, wob [a])], [PureX Try.prog 51 #[vv a.1, vv r] (rt (tp [vc (x.1) (x.2.1) (x.2.2), ii (0)]))]) := by kernel_rfl
theorem mov_2_0 (st : Int) (cap : Nat) (a b : Bd) (r x y z w : P3) : runF Try.prog 2000 [1] 31 #[sv st (slw 1 0 2 cap), vv r] [(1, wob [a, b])] [n, n] [(51, rt (tp [vv (0, 0, 0), ii 20]))] [] [] =
    some (rt (tp [sv 0 sl0, bb false]), [(1, wob [a, b])], [PureX Try.prog 51 #[vv a.1, vv r] (rt (tp [vc (0) (0) (0), ii (20)]))]) := by kernel_rfl
theorem mov_2_1 (st : Int) (cap : Nat) (a b : Bd) (r x y z w : P3) : runF Try.prog 2000 [1] 31 #[sv st (slw 1 0 2 cap), vv r] [(1, wob [a, b])] [n, n, n, n] [(51, rt (tp [vv x, ii 0])), (51, rt (tp [vv (0, 0, 0), ii 20]))] [] [] =
    some (rt (tp [sv 0 sl0, bb false]), [(1, wob [a, b])], [PureX Try.prog 51 #[vv a.1, vv r] (rt (tp [vc (x.1) (x.2.1) (x.2.2), ii (0)])), PureX Try.prog 51 #[vv b.1, vv r] (rt (tp [vc (0) (0) (0), ii (20)]))]) := by kernel_rfl
theorem mov_2_2 (st : Int) (cap : Nat) (a b : Bd) (r x y z w : P3) : runF Try.prog 2000 [2005, 1] 31 #[sv st (slw 1 0 2 cap), vv r] [(1, wob [a, b])] [n, n, n, n, n] [(51, rt (tp [vv x, ii 0])), (51, rt (tp [vv y, ii 0]))] [] [] =
    some (rt (tp [sv st (slw 2005 0 2 capU), bb true]), [(2005, KB.own [(x, a.2), (y, b.2)]), (1, wob [a, b])], [PureX Try.prog 51 #[vv a.1, vv r] (rt (tp [vc (x.1) (x.2.1) (x.2.2), ii (0)])), PureX Try.prog 51 #[vv b.1, vv r] (rt (tp [vc (y.1) (y.2.1) (y.2.2), ii (0)]))]) := by kernel_rfl
theorem mov_3_0 (st : Int) (cap : Nat) (a b d : Bd) (r x y z w : P3) : runF Try.prog 2000 [1] 31 #[sv st (slw 1 0 3 cap), vv r] [(1, wob [a, b, d])] [n, n] [(51, rt (tp [vv (0, 0, 0), ii 20]))] [] [] =
    some (rt (tp [sv 0 sl0, bb false]), [(1, wob [a, b, d])], [PureX Try.prog 51 #[vv a.1, vv r] (rt (tp [vc (0) (0) (0), ii (20)]))]) := by kernel_rfl
theorem mov_3_1 (st : Int) (cap : Nat) (a b d : Bd) (r x y z w : P3) : runF Try.prog 2000 [1] 31 #[sv st (slw 1 0 3 cap), vv r] [(1, wob [a, b, d])] [n, n, n, n] [(51, rt (tp [vv x, ii 0])), (51, rt (tp [vv (0, 0, 0), ii 20]))] [] [] =
    some (rt (tp [sv 0 sl0, bb false]), [(1, wob [a, b, d])], [PureX Try.prog 51 #[vv a.1, vv r] (rt (tp [vc (x.1) (x.2.1) (x.2.2), ii (0)])), PureX Try.prog 51 #[vv b.1, vv r] (rt (tp [vc (0) (0) (0), ii (20)]))]) := by kernel_rfl
theorem mov_3_2 (st : Int) (cap : Nat) (a b d : Bd) (r x y z w : P3) : runF Try.prog 2000 [1] 31 #[sv st (slw 1 0 3 cap), vv r] [(1, wob [a, b, d])] [n, n, n, n, n, n] [(51, rt (tp [vv x, ii 0])), (51, rt (tp [vv y, ii 0])), (51, rt (tp [vv (0, 0, 0), ii 20]))] [] [] =
    some (rt (tp [sv 0 sl0, bb false]), [(1, wob [a, b, d])], [PureX Try.prog 51 #[vv a.1, vv r] (rt (tp [vc (x.1) (x.2.1) (x.2.2), ii (0)])), PureX Try.prog 51 #[vv b.1, vv r] (rt (tp [vc (y.1) (y.2.1) (y.2.2), ii (0)])), PureX Try.prog 51 #[vv d.1, vv r] (rt (tp [vc (0) (0) (0), ii (20)]))]) := by kernel_rfl
theorem mov_3_3 (st : Int) (cap : Nat) (a b d : Bd) (r x y z w : P3) : runF Try.prog 2000 [2005, 1] 31 #[sv st (slw 1 0 3 cap), vv r] [(1, wob [a, b, d])] [n, n, n, n, n, n, n] [(51, rt (tp [vv x, ii 0])), (51, rt (tp [vv y, ii 0])), (51, rt (tp [vv z, ii 0]))] [] [] =
    some (rt (tp [sv st (slw 2005 0 3 capU), bb true]), [(2005, KB.own [(x, a.2), (y, b.2), (z, d.2)]), (1, wob [a, b, d])], [PureX Try.prog 51 #[vv a.1, vv r] (rt (tp [vc (x.1) (x.2.1) (x.2.2), ii (0)])), PureX Try.prog 51 #[vv b.1, vv r] (rt (tp [vc (y.1) (y.2.1) (y.2.2), ii (0)])), PureX Try.prog 51 #[vv d.1, vv r] (rt (tp [vc (z.1) (z.2.1) (z.2.2), ii (0)]))]) := by kernel_rfl
theorem mov_4_0 (st : Int) (cap : Nat) (a b d e : Bd) (r x y z w : P3) : runF Try.prog 2000 [1] 31 #[sv st (slw 1 0 4 cap), vv r] [(1, wob [a, b, d, e])] [n, n] [(51, rt (tp [vv (0, 0, 0), ii 20]))] [] [] =
    some (rt (tp [sv 0 sl0, bb false]), [(1, wob [a, b, d, e])], [PureX Try.prog 51 #[vv a.1, vv r] (rt (tp [vc (0) (0) (0), ii (20)]))]) := by kernel_rfl
theorem mov_4_1 (st : Int) (cap : Nat) (a b d e : Bd) (r x y z w : P3) : runF Try.prog 2000 [1] 31 #[sv st (slw 1 0 4 cap), vv r] [(1, wob [a, b, d, e])] [n, n, n, n] [(51, rt (tp [vv x, ii 0])), (51, rt (tp [vv (0, 0, 0), ii 20]))] [] [] =
    some (rt (tp [sv 0 sl0, bb false]), [(1, wob [a, b, d, e])], [PureX Try.prog 51 #[vv a.1, vv r] (rt (tp [vc (x.1) (x.2.1) (x.2.2), ii (0)])), PureX Try.prog 51 #[vv b.1, vv r] (rt (tp [vc (0) (0) (0), ii (20)]))]) := by kernel_rfl
theorem mov_4_2 (st : Int) (cap : Nat) (a b d e : Bd) (r x y z w : P3) : runF Try.prog 2000 [1] 31 #[sv st (slw 1 0 4 cap), vv r] [(1, wob [a, b, d, e])] [n, n, n, n, n, n] [(51, rt (tp [vv x, ii 0])), (51, rt (tp [vv y, ii 0])), (51, rt (tp [vv (0, 0, 0), ii 20]))] [] [] =
    some (rt (tp [sv 0 sl0, bb false]), [(1, wob [a, b, d, e])], [PureX Try.prog 51 #[vv a.1, vv r] (rt (tp [vc (x.1) (x.2.1) (x.2.2), ii (0)])), PureX Try.prog 51 #[vv b.1, vv r] (rt (tp [vc (y.1) (y.2.1) (y.2.2), ii (0)])), PureX Try.prog 51 #[vv d.1, vv r] (rt (tp [vc (0) (0) (0), ii (20)]))]) := by kernel_rfl
theorem mov_4_3 (st : Int) (cap : Nat) (a b d e : Bd) (r x y z w : P3) : runF Try.prog 2000 [1] 31 #[sv st (slw 1 0 4 cap), vv r] [(1, wob [a, b, d, e])] [n, n, n, n, n, n, n, n] [(51, rt (tp [vv x, ii 0])), (51, rt (tp [vv y, ii 0])), (51, rt (tp [vv z, ii 0])), (51, rt (tp [vv (0, 0, 0), ii 20]))] [] [] =
    some (rt (tp [sv 0 sl0, bb false]), [(1, wob [a, b, d, e])], [PureX Try.prog 51 #[vv a.1, vv r] (rt (tp [vc (x.1) (x.2.1) (x.2.2), ii (0)])), PureX Try.prog 51 #[vv b.1, vv r] (rt (tp [vc (y.1) (y.2.1) (y.2.2), ii (0)])), PureX Try.prog 51 #[vv d.1, vv r] (rt (tp [vc (z.1) (z.2.1) (z.2.2), ii (0)])), PureX Try.prog 51 #[vv e.1, vv r] (rt (tp [vc (0) (0) (0), ii (20)]))]) := by kernel_rfl
theorem mov_4_4 (st : Int) (cap : Nat) (a b d e : Bd) (r x y z w : P3) : runF Try.prog 2000 [2005, 1] 31 #[sv st (slw 1 0 4 cap), vv r] [(1, wob [a, b, d, e])] [n, n, n, n, n, n, n, n, n] [(51, rt (tp [vv x, ii 0])), (51, rt (tp [vv y, ii 0])), (51, rt (tp [vv z, ii 0])), (51, rt (tp [vv w, ii 0]))] [] [] =
    some (rt (tp [sv st (slw 2005 0 4 capU), bb true]), [(2005, KB.own [(x, a.2), (y, b.2), (z, d.2), (w, e.2)]), (1, wob [a, b, d, e])], [PureX Try.prog 51 #[vv a.1, vv r] (rt (tp [vc (x.1) (x.2.1) (x.2.2), ii (0)])), PureX Try.prog 51 #[vv b.1, vv r] (rt (tp [vc (y.1) (y.2.1) (y.2.2), ii (0)])), PureX Try.prog 51 #[vv d.1, vv r] (rt (tp [vc (z.1) (z.2.1) (z.2.2), ii (0)])), PureX Try.prog 51 #[vv e.1, vv r] (rt (tp [vc (w.1) (w.2.1) (w.2.2), ii (0)]))]) := by kernel_rfl
theorem mvd_no (st : Int) (off m cap k : Nat) (c : Array Value) (r : P3) (L L2 : List Bd) : runF Try.prog 1000 [1, 8] 15 #[sv st (slw 1 off m cap), vv r] [(1, win off c)] [n, n, n, n, n, n, n] [] [(31, rt (tp [sv 0 sl0, bb false]), [(1, win off c)]), (32, rt (sv st (slw 8 0 L.length capU)), [(8, KB.opq L), (1, win off c)])] [] =
    some (rt (tp [sv st (slw 8 0 L.length capU), ii 2]), [(8, KB.opq L), (1, win off c)], [CallsV Try.prog (.func 31) #[sv st (slw 1 off m cap), vv r] [(1, win off c)] (rt (tp [sv 0 sl0, bb false])) [(1, win off c)], CallsV Try.prog (.func 32) #[sv st (slw 1 off m cap)] [(1, win off c)] (rt (sv st (slw 8 0 L.length capU))) [(8, KB.opq L), (1, win off c)]]) := by kernel_rfl
theorem mvd_x (st : Int) (off m cap k : Nat) (c : Array Value) (r : P3) (L L2 : List Bd) : runF Try.prog 1000 [1, 8] 15 #[sv st (slw 1 off m cap), vv r] [(1, win off c)] [n, n, n, n, n, n, n] [] [(31, rt (tp [sv st (slw 7 0 L2.length capU), bb true]), [(7, KB.opq L2), (1, win off c)]), (30, rt (bb true), [(1, win off c)]), (30, rt (bb false), [(7, KB.opq L2)]), (32, rt (sv st (slw 8 0 L.length capU)), [(8, KB.opq L), (1, win off c)])] [] =
    some (rt (tp [sv st (slw 8 0 L.length capU), ii 2]), [(8, KB.opq L), (1, win off c)], [CallsV Try.prog (.func 31) #[sv st (slw 1 off m cap), vv r] [(1, win off c)] (rt (tp [sv st (slw 7 0 L2.length capU), bb true])) [(7, KB.opq L2), (1, win off c)], CallsV Try.prog (.func 30) #[sv st (slw 1 off m cap)] [(1, win off c)] (rt (bb true)) [(1, win off c)], CallsV Try.prog (.func 30) #[sv st (slw 7 0 L2.length capU)] [(7, KB.opq L2)] (rt (bb false)) [(7, KB.opq L2)], CallsV Try.prog (.func 32) #[sv st (slw 1 off m cap)] [(1, win off c)] (rt (sv st (slw 8 0 L.length capU))) [(8, KB.opq L), (1, win off c)]]) := by kernel_rfl
theorem mvd_r (st : Int) (off m cap k : Nat) (c : Array Value) (r : P3) (L L2 : List Bd) : runF Try.prog 1000 [1, 8] 15 #[sv st (slw 1 off m cap), vv r] [(1, win off c)] [n, n, n, n, n, n, n] [] [(31, rt (tp [sv st (slw 7 0 L2.length capU), bb true]), [(7, KB.opq L2), (1, win off c)]), (30, rt (bb false), [(1, win off c)]), (32, rt (sv st (slw 8 0 L.length capU)), [(8, KB.opq L), (1, win off c)])] [] =
    some (rt (tp [sv st (slw 8 0 L.length capU), ii 2]), [(8, KB.opq L), (1, win off c)], [CallsV Try.prog (.func 31) #[sv st (slw 1 off m cap), vv r] [(1, win off c)] (rt (tp [sv st (slw 7 0 L2.length capU), bb true])) [(7, KB.opq L2), (1, win off c)], CallsV Try.prog (.func 30) #[sv st (slw 1 off m cap)] [(1, win off c)] (rt (bb false)) [(1, win off c)], CallsV Try.prog (.func 32) #[sv st (slw 1 off m cap)] [(1, win off c)] (rt (sv st (slw 8 0 L.length capU))) [(8, KB.opq L), (1, win off c)]]) := by kernel_rfl
theorem mvd_ok (st : Int) (off m cap k : Nat) (c : Array Value) (r : P3) (L L2 : List Bd) : runF Try.prog 1000 [1, 7] 15 #[sv st (slw 1 off m cap), vv r] [(1, win off c)] [n, n, n, n, n, n, n] [] [(31, rt (tp [sv st (slw 7 0 L2.length capU), bb true]), [(7, KB.opq L2), (1, win off c)]), (30, rt (bb true), [(1, win off c)]), (30, rt (bb true), [(7, KB.opq L2)])] [] =
    some (rt (tp [sv st (slw 7 0 L2.length capU), ii 0]), [(7, KB.opq L2), (1, win off c)], [CallsV Try.prog (.func 31) #[sv st (slw 1 off m cap), vv r] [(1, win off c)] (rt (tp [sv st (slw 7 0 L2.length capU), bb true])) [(7, KB.opq L2), (1, win off c)], CallsV Try.prog (.func 30) #[sv st (slw 1 off m cap)] [(1, win off c)] (rt (bb true)) [(1, win off c)], CallsV Try.prog (.func 30) #[sv st (slw 7 0 L2.length capU)] [(7, KB.opq L2)] (rt (bb true)) [(7, KB.opq L2)]]) := by kernel_rfl

end Go.Proofs.Ytpllklojcjhjaaa

/- Which pairs are near, Check and Moved: what each call answers. -/
namespace Go.Proofs.Ytpllklojcjhjaaa
open Go Go.RowKit
set_option linter.unusedSimpArgs false
set_option linter.unusedVariables false
set_option maxRecDepth 100000

theorem lk_cells {α : Type} {K : Kd α} {A : Nat → Prop} {w0 : World} {β : Num} {H : Hp} {w : World} {L : List α} {k cap : Nat} {T : TypeId} (hR : Rel A w0 β H w) (hk : look H k = some (.cells ⟨L.flatMap K.fl⟩ T (0, 0))) (hl : L.length ≤ cap) (hc : cap ≤ maxLen) : LieK K w (ren β (slw k 0 L.length cap)) L := by
  obtain ⟨h1, h2⟩ := (hR.lies k _ hk).1 rfl
  rw [renA_plain _ (show wfA noB ⟨L.flatMap K.fl⟩ = true from K.plain L)] at h2
  refine .inr ⟨(β k).1, 0, cap, by simp only [ren, renP, shf0 h1, Nat.add_zero, capR_ne (x := β k) (cap_ne hc)], hl, hc, _, _, _, h2, fun j v hj hv => ?_⟩
  rw [cwx_at hj, Nat.sub_zero] at hv
  simpa using hv
/-- Which pairs of a state that may be are near, in a configuration that may be. -/
theorem near_ok {st g bx to nr me : Int} {M : List Int} {L : List Bd} (hM : M ≠ []) (hc : chk (whyL M g bx to nr me) = 0) (h : rightV st L = true) :
    LstB KI KB Try.prog 11 (fun s s' => #[cv s g bx to nr me, sv st s']) M L KP (nearL (wi (nr * nr)) (prsL L)) := by
  obtain ⟨-, ⟨h1, h4⟩, hb⟩ := rightV_iff.1 h
  rcases shapes h1 h4 with ⟨a, rfl⟩ | ⟨a, b, rfl⟩ | ⟨a, b, d, rfl⟩ | ⟨a, b, d, e, rfl⟩
  · exact near_w1 st g bx to nr me a hM hc h
  · exact near_w2 st g bx to nr me a b (sqd a.1 b.1) hM hc h (far_c (hb a (by simp)) (hb b (by simp)))
  · exact near_w3 st g bx to nr me a b d (sqd a.1 b.1) (sqd a.1 d.1) (sqd b.1 d.1) hM hc h (far_c (hb a (by simp)) (hb b (by simp))) (far_c (hb a (by simp)) (hb d (by simp))) (far_c (hb b (by simp)) (hb d (by simp)))
  · exact near_w4 st g bx to nr me a b d e (sqd a.1 b.1) (sqd a.1 d.1) (sqd a.1 e.1) (sqd b.1 d.1) (sqd b.1 e.1) (sqd d.1 e.1) hM hc h (far_c (hb a (by simp)) (hb b (by simp))) (far_c (hb a (by simp)) (hb d (by simp))) (far_c (hb a (by simp)) (hb e (by simp))) (far_c (hb b (by simp)) (hb d (by simp))) (far_c (hb b (by simp)) (hb e (by simp))) (far_c (hb d (by simp)) (hb e (by simp)))
theorem nil_not_ok {g bx to nr me : Int} : chk (whyL [] g bx to nr me) ≠ 0 := by
  have : whyL [] g bx to nr me = nBodies := rfl
  rw [this]
  decide
/-- Whether some pair is near. -/
def chkV (M : List Int) (g bx to nr me st : Int) (L : List Bd) : Int :=
  if chk (whyL M g bx to nr me) ≠ 0 then 2 else if rightV st L = false then 2 else if nearL (wi (nr * nr)) (prsL L) = [] then 0 else 130
theorem chk_01 (x : List UInt8) : chk x = 0 ∨ chk x = 110 := by
  unfold chk
  by_cases h : x = []
  · rw [if_pos h]; exact .inl rfl
  · rw [if_neg h]; exact .inr rfl
theorem check_s (st g bx to nr me : Int) (M : List Int) (L : List Bd) : SemB KI KB Try.prog 14 (fun s s' => #[cv s g bx to nr me, sv st s']) M L (ii (chkV M g bx to nr me st L)) := by
  have hcs := fun (off cap : Nat) (hl : M.length ≤ cap) (hc' : cap ≤ maxLen) (p : Int) (hp : chk (whyL M g bx to nr me) = p) => sem1_calls (chk_p g bx to nr me p M hp) (ren_cv g bx to nr me) rfl (H := [(1, win off (cwx fl1 off M))]) (s := slw 1 off M.length cap) (fun β w hR => ll_win hR rfl hl hc')
  unfold chkV
  rcases chk_01 (whyL M g bx to nr me) with h0 | h0
  · rw [if_neg (by rw [h0]; decide)]
    have hM : M ≠ [] := fun e => nil_not_ok (e ▸ h0)
    cases h : rightV st L
    · rw [if_pos rfl]
      refine semB_mk false false (ren_cs st g bx to nr me) rfl (fun e => absurd e hM) (fun e => absurd e hM) (fun e off cap hl hc => ?_) (fun off cap off' cap' hl hc hl' hc' => ?_)
      · exact runF_calls mix (ck_rn st off M.length cap 0 0 0 (cwx fl1 off M) #[] g bx to nr me 0) ⟨hcs off cap hl hc 0 h0, right_nil st, trivial⟩ rfl rfl
      · exact callsV_perm (runF_calls mix (ck_rw st off M.length cap off' L.length cap' (cwx fl1 off M) (cwx KB.fl off' L) g bx to nr me 0) ⟨hcs off cap hl hc 0 h0, right_c h (H := [(2, KB.win off' L)]) (s := slw 2 off' L.length cap') (fun β w hR => lk_win (K := KB) hR rfl hl' hc'), trivial⟩ rfl rfl) look_sw
    · rw [if_neg (by decide)]
      have hL : L ≠ [] := fun e => by rw [e, right_0] at h; cases h
      have hn := near_ok hM h0 h
      generalize nearL (wi (nr * nr)) (prsL L) = R at hn
      refine semB_ww false false hM hL (ren_cs st g bx to nr me) rfl (fun off cap off' cap' hl hc hl' hc' => ?_)
      have hs : ∀ β w, Rel (rng β [(2, win off' (cwx KB.fl off' L)), (1, win off (cwx fl1 off M))]) w β [(2, win off' (cwx KB.fl off' L)), (1, win off (cwx fl1 off M))] w → LieK KI w (ren β (slw 1 off M.length cap)) M ∧ LieK KB w (ren β (slw 2 off' L.length cap')) L := fun β w hR => ⟨lk_win (K := KI) hR rfl hl hc, lk_win (K := KB) hR rfl hl' hc'⟩
      have hr := right_c h (H := [(2, KB.win off' L)]) (s := slw 2 off' L.length cap') (fun β w hR => lk_win (K := KB) hR rfl hl' hc')
      by_cases hR : R = []
      · rw [if_pos hR]
        exact callsV_perm (runF_calls mix (ck_0 st off M.length cap off' L.length cap' (cwx fl1 off M) (cwx KB.fl off' L) g bx to nr me 0) ⟨hcs off cap hl hc 0 h0, hr, semB_calls (hn.1 hR) (ren_cs st g bx to nr me) rfl hs, trivial⟩ rfl rfl) look_sw
      · rw [if_neg hR]
        have hp : (0 : Int) < (R.length : Int) := by have := List.length_pos_iff.2 hR; omega
        exact callsV_perm (runF_calls mix (ck_1 st off M.length cap off' L.length cap' (cwx fl1 off M) (cwx KB.fl off' L) g bx to nr me 0 R) ⟨hcs off cap hl hc 0 h0, hr, newB_calls (hn.2 hR) false (ren_cs st g bx to nr me) (fun _ _ => rfl) (k := 9) rfl hs, decide_eq_true hp, trivial⟩ rfl rfl) look_sw
  · rw [if_pos (by rw [h0]; decide)]
    refine semB_mk false false (ren_cs st g bx to nr me) rfl (fun e e' => ?_) (fun e off cap hl hc => ?_) (fun e off cap hl hc => ?_) (fun off cap off' cap' hl hc hl' hc' => ?_)
    · exact runF_pure mix (ck_nn st g bx to nr me) ⟨chk_nil15 g bx to nr me, trivial⟩ rfl rfl
    · exact runF_calls mix (ck_nw st 0 0 0 off L.length cap #[] (cwx KB.fl off L) g bx to nr me 0) ⟨chk_nil15 g bx to nr me, trivial⟩ rfl rfl
    · exact runF_calls mix (ck_wn st off M.length cap 0 0 0 (cwx fl1 off M) #[] g bx to nr me 0) ⟨hcs off cap hl hc 110 h0, trivial⟩ rfl rfl
    · exact runF_calls mix (ck_ww st off M.length cap off' L.length cap' (cwx fl1 off M) (cwx KB.fl off' L) g bx to nr me 0) ⟨hcs off cap hl hc 110 h0, trivial⟩ rfl rfl
/-- A body that has gone on. -/
def movB (r : P3) (b : Bd) : Bd := (plP b.1 r, b.2)
def addOk (r : P3) (b : Bd) : Bool := finP b.1 && finP r && finP (plP b.1 r)
theorem add_y {r : P3} {b : Bd} (h : addOk r b = true) : PureX Try.prog 51 #[vv b.1, vv r] (rt (tp [vv (movB r b).1, ii 0])) := by
  have := add_v b.1 r
  unfold addP okP at this
  unfold addOk at h
  rw [if_pos h] at this
  exact this
theorem add_n {r : P3} {b : Bd} (h : addOk r b = false) : PureX Try.prog 51 #[vv b.1, vv r] (rt (tp [vv (0, 0, 0), ii 20])) := by
  have := add_v b.1 r
  unfold addP okP at this
  rw [if_neg (by unfold addOk at h; rw [h]; decide)] at this
  exact this
theorem ren_mv (st : Int) (r : P3) : ∀ (β : Num) (s : Value), renA β #[sv st s, vv r] = #[sv st (ren β s), vv r] := fun _ _ => rfl
/-- What comes of bodies that go on, if each can; and if one can't. -/
def MovP (st : Int) (r : P3) (L : List Bd) : Prop :=
  (L.all (addOk r) = true → NewA KB Try.prog 31 (fun s => #[sv st s, vv r]) L KB (fun s => tp [sv st s, bb true]) (L.map (movB r))) ∧
  (L.all (addOk r) = false → SemA KB Try.prog 31 (fun s => #[sv st s, vv r]) L (tp [sv 0 sl0, bb false]))
theorem mov_w1 (st : Int) (r : P3) (a : Bd) : MovP st r [a] := by
  refine ⟨fun h => ?_, fun h => ?_⟩
  · simp only [List.all_cons, List.all_nil, Bool.and_eq_true, Bool.and_true] at h
    refine newA_of true (k := 2005) (ren_mv st r) (fun _ _ => rfl) (by simp) (.inl ⟨rfl, rfl⟩) (by decide) (fun off cap hl hc => ?_)
    exact runF_calls mix (mov_1_1 st cap a r ((movB r a).1) (0, 0, 0) (0, 0, 0) (0, 0, 0)) ⟨add_y h, trivial⟩ rfl rfl
  · refine semA_mk true (ren_mv st r) rfl (fun e => (by cases e)) (fun off cap hl hc => ?_)
    cases h0 : addOk r a
    · exact runF_calls mix (mov_1_0 st cap a r (0, 0, 0) (0, 0, 0) (0, 0, 0) (0, 0, 0)) ⟨add_n h0, trivial⟩ rfl rfl
    exact absurd h (by simp [h0])
theorem mov_w2 (st : Int) (r : P3) (a b : Bd) : MovP st r [a, b] := by
  refine ⟨fun h => ?_, fun h => ?_⟩
  · simp only [List.all_cons, List.all_nil, Bool.and_eq_true, Bool.and_true] at h
    refine newA_of true (k := 2005) (ren_mv st r) (fun _ _ => rfl) (by simp) (.inl ⟨rfl, rfl⟩) (by decide) (fun off cap hl hc => ?_)
    exact runF_calls mix (mov_2_2 st cap a b r ((movB r a).1) ((movB r b).1) (0, 0, 0) (0, 0, 0)) ⟨add_y h.1, add_y h.2, trivial⟩ rfl rfl
  · refine semA_mk true (ren_mv st r) rfl (fun e => (by cases e)) (fun off cap hl hc => ?_)
    cases h0 : addOk r a
    · exact runF_calls mix (mov_2_0 st cap a b r (0, 0, 0) (0, 0, 0) (0, 0, 0) (0, 0, 0)) ⟨add_n h0, trivial⟩ rfl rfl
    cases h1 : addOk r b
    · exact runF_calls mix (mov_2_1 st cap a b r ((movB r a).1) (0, 0, 0) (0, 0, 0) (0, 0, 0)) ⟨add_y h0, add_n h1, trivial⟩ rfl rfl
    exact absurd h (by simp [h0, h1])
theorem mov_w3 (st : Int) (r : P3) (a b d : Bd) : MovP st r [a, b, d] := by
  refine ⟨fun h => ?_, fun h => ?_⟩
  · simp only [List.all_cons, List.all_nil, Bool.and_eq_true, Bool.and_true] at h
    refine newA_of true (k := 2005) (ren_mv st r) (fun _ _ => rfl) (by simp) (.inl ⟨rfl, rfl⟩) (by decide) (fun off cap hl hc => ?_)
    exact runF_calls mix (mov_3_3 st cap a b d r ((movB r a).1) ((movB r b).1) ((movB r d).1) (0, 0, 0)) ⟨add_y h.1, add_y h.2.1, add_y h.2.2, trivial⟩ rfl rfl
  · refine semA_mk true (ren_mv st r) rfl (fun e => (by cases e)) (fun off cap hl hc => ?_)
    cases h0 : addOk r a
    · exact runF_calls mix (mov_3_0 st cap a b d r (0, 0, 0) (0, 0, 0) (0, 0, 0) (0, 0, 0)) ⟨add_n h0, trivial⟩ rfl rfl
    cases h1 : addOk r b
    · exact runF_calls mix (mov_3_1 st cap a b d r ((movB r a).1) (0, 0, 0) (0, 0, 0) (0, 0, 0)) ⟨add_y h0, add_n h1, trivial⟩ rfl rfl
    cases h2 : addOk r d
    · exact runF_calls mix (mov_3_2 st cap a b d r ((movB r a).1) ((movB r b).1) (0, 0, 0) (0, 0, 0)) ⟨add_y h0, add_y h1, add_n h2, trivial⟩ rfl rfl
    exact absurd h (by simp [h0, h1, h2])
theorem mov_w4 (st : Int) (r : P3) (a b d e : Bd) : MovP st r [a, b, d, e] := by
  refine ⟨fun h => ?_, fun h => ?_⟩
  · simp only [List.all_cons, List.all_nil, Bool.and_eq_true, Bool.and_true] at h
    refine newA_of true (k := 2005) (ren_mv st r) (fun _ _ => rfl) (by simp) (.inl ⟨rfl, rfl⟩) (by decide) (fun off cap hl hc => ?_)
    exact runF_calls mix (mov_4_4 st cap a b d e r ((movB r a).1) ((movB r b).1) ((movB r d).1) ((movB r e).1)) ⟨add_y h.1, add_y h.2.1, add_y h.2.2.1, add_y h.2.2.2, trivial⟩ rfl rfl
  · refine semA_mk true (ren_mv st r) rfl (fun e => (by cases e)) (fun off cap hl hc => ?_)
    cases h0 : addOk r a
    · exact runF_calls mix (mov_4_0 st cap a b d e r (0, 0, 0) (0, 0, 0) (0, 0, 0) (0, 0, 0)) ⟨add_n h0, trivial⟩ rfl rfl
    cases h1 : addOk r b
    · exact runF_calls mix (mov_4_1 st cap a b d e r ((movB r a).1) (0, 0, 0) (0, 0, 0) (0, 0, 0)) ⟨add_y h0, add_n h1, trivial⟩ rfl rfl
    cases h2 : addOk r d
    · exact runF_calls mix (mov_4_2 st cap a b d e r ((movB r a).1) ((movB r b).1) (0, 0, 0) (0, 0, 0)) ⟨add_y h0, add_y h1, add_n h2, trivial⟩ rfl rfl
    cases h3 : addOk r e
    · exact runF_calls mix (mov_4_3 st cap a b d e r ((movB r a).1) ((movB r b).1) ((movB r d).1) (0, 0, 0)) ⟨add_y h0, add_y h1, add_y h2, add_n h3, trivial⟩ rfl rfl
    exact absurd h (by simp [h0, h1, h2, h3])
theorem mov_s {st : Int} (r : P3) {L : List Bd} (h1 : 1 ≤ L.length) (h4 : L.length ≤ 4) : MovP st r L := by
  rcases shapes h1 h4 with ⟨a, rfl⟩ | ⟨a, b, rfl⟩ | ⟨a, b, d, rfl⟩ | ⟨a, b, d, e, rfl⟩
  · exact mov_w1 st r a
  · exact mov_w2 st r a b
  · exact mov_w3 st r a b d
  · exact mov_w4 st r a b d e
/-- Can a state go on? -/
def movOk (st : Int) (r : P3) (L : List Bd) : Bool := L.all (addOk r) && rightV st (L.map (movB r))
section
variable {st : Int} {r : P3} {L : List Bd}
theorem moved_ok (hm : MovP st r L) (h : rightV st L = true) (h6 : L.length ≤ 60) (hk : movOk st r L = true) : NewA KB Try.prog 15 (fun s => #[sv st s, vv r]) L KB (fun s => tp [sv st s, ii 0]) (L.map (movB r)) := by
  unfold movOk at hk
  rw [Bool.and_eq_true] at hk
  have hL : L ≠ [] := fun e => by rw [e, right_0] at h; cases h
  refine newA_of false (k := 7) (ren_mv st r) (fun _ _ => rfl) hL (.inr (.inl ⟨rfl, rfl⟩)) (by decide) (fun off cap hl hc => ?_)
  have hs : ∀ β w, Rel (rng β [(1, KB.win off L)]) w β [(1, KB.win off L)] w → LieK KB w (ren β (slw 1 off L.length cap)) L := fun β w hR => lk_win (K := KB) hR rfl hl hc
  have w := newA_calls (hm.1 hk.1) false (ren_mv st r) (fun _ _ => rfl) (H := [(1, KB.win off L)]) (k := 7) rfl hs
  have w2 := right_c hk.2 (H := [(7, KB.opq (L.map (movB r)))]) (s := slw 7 0 (L.map (movB r)).length capU) (fun β w hR => lk_opq (K := KB) hR rfl)
  exact runF_calls mix (mvd_ok st off L.length cap 0 (cwx KB.fl off L) r L (L.map (movB r))) ⟨w, right_c h hs, w2, trivial⟩ rfl rfl
theorem moved_no (hm : MovP st r L) (hL : L ≠ []) (h6 : L.length ≤ 60) (hk : (rightV st L && movOk st r L) = false) : NewA KB Try.prog 15 (fun s => #[sv st s, vv r]) L KB (fun s => tp [sv st s, ii 2]) L := by
  unfold movOk at hk
  refine newA_of false (k := 8) (ren_mv st r) (fun _ _ => rfl) hL (.inr (.inl ⟨rfl, rfl⟩)) (by decide) (fun off cap hl hc => ?_)
  have hs : ∀ β w, Rel (rng β [(1, KB.win off L)]) w β [(1, KB.win off L)] w → LieK KB w (ren β (slw 1 off L.length cap)) L := fun β w hR => lk_win (K := KB) hR rfl hl hc
  have wo := newA_calls (own_new st hL h6) false (ren_sv st) (fun _ _ => rfl) (H := [(1, KB.win off L)]) (k := 8) rfl hs
  cases ha : L.all (addOk r)
  · have w := semA_calls (hm.2 ha) (ren_mv st r) rfl hs
    exact runF_calls mix (mvd_no st off L.length cap 0 (cwx KB.fl off L) r L L) ⟨w, wo, trivial⟩ rfl rfl
  · have w := newA_calls (hm.1 ha) false (ren_mv st r) (fun _ _ => rfl) (H := [(1, KB.win off L)]) (k := 7) rfl hs
    cases h : rightV st L
    · exact runF_calls mix (mvd_r st off L.length cap 0 (cwx KB.fl off L) r L (L.map (movB r))) ⟨w, right_c h hs, wo, trivial⟩ rfl rfl
    · rw [h, ha, Bool.true_and, Bool.true_and] at hk
      have w2 := right_c hk (H := [(7, KB.opq (L.map (movB r)))]) (s := slw 7 0 (L.map (movB r)).length capU) (fun β w hR => lk_opq (K := KB) hR rfl)
      exact runF_calls mix (mvd_x st off L.length cap 0 (cwx KB.fl off L) r L (L.map (movB r))) ⟨w, right_c h hs, w2, wo, trivial⟩ rfl rfl
end

end Go.Proofs.Ytpllklojcjhjaaa

/- What every law of the layer asks at its end. -/
namespace Go.Proofs.Ytpllklojcjhjaaa
open Go Go.RowKit
set_option linter.unusedSimpArgs false
set_option linter.unusedVariables false
set_option maxRecDepth 100000

def twoL : List Bd := [((0, 0, 0), (0, 0, 0)), ((3, 0, 4), (0, 0, 0))]
def twoM : List Bd := [((1, 0, 0), (0, 0, 0)), ((4, 0, 4), (0, 0, 0))]
def obT : Obj := .cells ⟨twoL.flatMap KB.fl⟩ 42 (0, 0)
def mas : Obj := .cells ⟨[1, 1].flatMap fl1⟩ 3 (0, 0)
theorem wakes_raw : runF Try.prog 1000 [] 9 #[] [] [] [(40, rt (tp [ii 25, ii 0])), (40, rt (tp [ii 25, ii 0])), (40, rt (tp [ii 25, ii 0])), (28, rt (tp [ii 5, ii 0])), (28, rt (tp [ii 5, ii 0])), (51, rt (tp [vv (1, 0, 0), ii 0])), (51, rt (tp [vv (4, 0, 4), ii 0])), (40, rt (tp [ii 25, ii 0])), (40, rt (tp [ii 25, ii 0])), (29, rt (ii 110))] [(30, rt (bb true), [(1003, obT)]), (29, rt (ii 0), [(1000, mas)]), (30, rt (bb true), [(1015, obT)]), (29, rt (ii 0), [(1000, mas)]), (30, rt (bb true), [(1015, obT)]), (30, rt (bb true), [(1032, obT)]), (30, rt (bb true), [(1053, obT)]), (30, rt (bb true), [(1062, (KB.own twoM))]), (29, rt (ii 0), [(1000, mas)]), (30, rt (bb true), [(1071, obT)]), (29, rt (ii 0), [(1000, mas)]), (30, rt (bb true), [(1071, obT)]), (29, rt (ii 0), [(1000, mas)]), (30, rt (bb true), [(1090, obT)])] [] =
    some (rt (bb true), [], [CallsV Try.prog (.func 30) #[sv 0 (slw 1003 0 2 2)] [(1003, obT)] (rt (bb true)) [(1003, obT)], PureX Try.prog 40 #[vc 0 0 0, vc 3 0 4] (rt (tp [ii 25, ii 0])), CallsV Try.prog (.func 29) #[cv (slw 1000 0 2 2) 1 9 9 5 0] [(1000, mas)] (rt (ii 0)) [(1000, mas)], CallsV Try.prog (.func 30) #[sv 0 (slw 1015 0 2 2)] [(1015, obT)] (rt (bb true)) [(1015, obT)], CallsV Try.prog (.func 29) #[cv (slw 1000 0 2 2) 1 9 9 5 0] [(1000, mas)] (rt (ii 0)) [(1000, mas)], CallsV Try.prog (.func 30) #[sv 0 (slw 1015 0 2 2)] [(1015, obT)] (rt (bb true)) [(1015, obT)], PureX Try.prog 40 #[vc 0 0 0, vc 3 0 4] (rt (tp [ii 25, ii 0])), CallsV Try.prog (.func 30) #[sv 0 (slw 1032 0 2 2)] [(1032, obT)] (rt (bb true)) [(1032, obT)], PureX Try.prog 40 #[vc 0 0 0, vc 3 0 4] (rt (tp [ii 25, ii 0])), PureX Try.prog 28 #[ii 25] (rt (tp [ii 5, ii 0])), PureX Try.prog 28 #[ii 26] (rt (tp [ii 5, ii 0])), PureX Try.prog 51 #[vc 0 0 0, vc 1 0 0] (rt (tp [vc 1 0 0, ii 0])), PureX Try.prog 51 #[vc 3 0 4, vc 1 0 0] (rt (tp [vc 4 0 4, ii 0])), CallsV Try.prog (.func 30) #[sv 0 (slw 1053 0 2 2)] [(1053, obT)] (rt (bb true)) [(1053, obT)], CallsV Try.prog (.func 30) #[sv 0 (slw 1062 0 2 capU)] [(1062, (KB.own twoM))] (rt (bb true)) [(1062, (KB.own twoM))], CallsV Try.prog (.func 29) #[cv (slw 1000 0 2 2) 1 9 9 6 0] [(1000, mas)] (rt (ii 0)) [(1000, mas)], CallsV Try.prog (.func 30) #[sv 0 (slw 1071 0 2 2)] [(1071, obT)] (rt (bb true)) [(1071, obT)], CallsV Try.prog (.func 29) #[cv (slw 1000 0 2 2) 1 9 9 6 0] [(1000, mas)] (rt (ii 0)) [(1000, mas)], CallsV Try.prog (.func 30) #[sv 0 (slw 1071 0 2 2)] [(1071, obT)] (rt (bb true)) [(1071, obT)], PureX Try.prog 40 #[vc 0 0 0, vc 3 0 4] (rt (tp [ii 25, ii 0])), CallsV Try.prog (.func 29) #[cv (slw 1000 0 2 2) 1 9 9 6 0] [(1000, mas)] (rt (ii 0)) [(1000, mas)], CallsV Try.prog (.func 30) #[sv 0 (slw 1090 0 2 2)] [(1090, obT)] (rt (bb true)) [(1090, obT)], PureX Try.prog 40 #[vc 0 0 0, vc 3 0 4] (rt (tp [ii 25, ii 0])), PureX Try.prog 29 #[cv sl0 0 0 0 0 0] (rt (ii 110))]) := by kernel_rfl
theorem add_1 : addP (0, 0, 0) (1, 0, 0) = ((1, 0, 0), 0) := by decide
theorem add_2 : addP (3, 0, 4) (1, 0, 0) = ((4, 0, 4), 0) := by decide
theorem far_1 : farN (0, 0, 0) (3, 0, 4) = (25, 0) := by decide
theorem isq_25 : isq 25 = 5 := isq_is (by decide) (by decide) (by decide)
theorem isq_26 : isq 26 = 5 := isq_is (by decide) (by decide) (by decide)
theorem wk_far : PureX Try.prog 40 #[vc 0 0 0, vc 3 0 4] (rt (tp [ii 25, ii 0])) := by
  have := far_v (0, 0, 0) (3, 0, 4)
  rw [far_1] at this
  exact this
theorem wk_a1 : PureX Try.prog 51 #[vc 0 0 0, vc 1 0 0] (rt (tp [vc 1 0 0, ii 0])) := by
  have := add_v (0, 0, 0) (1, 0, 0)
  rw [add_1] at this
  exact this
theorem wk_a2 : PureX Try.prog 51 #[vc 3 0 4, vc 1 0 0] (rt (tp [vc 4 0 4, ii 0])) := by
  have := add_v (3, 0, 4) (1, 0, 0)
  rw [add_2] at this
  exact this
theorem wk_25 : PureX Try.prog 28 #[ii 25] (rt (tp [ii 5, ii 0])) := by
  have := rint_ok (k := 25) (by decide)
  rw [isq_25] at this
  exact this
theorem wk_26 : PureX Try.prog 28 #[ii 26] (rt (tp [ii 5, ii 0])) := by
  have := rint_ok (k := 26) (by decide)
  rw [isq_26] at this
  exact this

theorem wk_r (k : Nat) : CallsV Try.prog (.func 30) #[sv 0 (slw k 0 2 2)] [(k, obT)] (rt (bb true)) [(k, obT)] :=
  right_c (L := twoL) (by decide) (H := [(k, obT)]) (s := slw k 0 2 2) (fun β w hR => lk_cells (K := KB) (L := twoL) (k := k) (T := 42) hR (show look [(k, obT)] k = some obT from if_pos rfl) (by decide) (by decide))
theorem wk_m : CallsV Try.prog (.func 30) #[sv 0 (slw 1062 0 2 capU)] [(1062, KB.own twoM)] (rt (bb true)) [(1062, KB.own twoM)] :=
  right_c (L := twoM) (by decide) (H := [(1062, KB.own twoM)]) (s := slw 1062 0 2 capU) (fun β w hR => lk_own (K := KB) (L := twoM) (k := 1062) hR rfl)
theorem wk_c5 : CallsV Try.prog (.func 29) #[cv (slw 1000 0 2 2) 1 9 9 5 0] [(1000, mas)] (rt (ii 0)) [(1000, mas)] :=
  sem1_calls (chk_p 1 9 9 5 0 0 [1, 1] (by decide)) (ren_cv 1 9 9 5 0) rfl (H := [(1000, mas)]) (s := slw 1000 0 2 2) (fun β w hR => ll_cells (L := [1, 1]) (M := [1, 1]) (k := 1000) hR rfl rfl (by decide) (by decide))
theorem wk_c6 : CallsV Try.prog (.func 29) #[cv (slw 1000 0 2 2) 1 9 9 6 0] [(1000, mas)] (rt (ii 0)) [(1000, mas)] :=
  sem1_calls (chk_p 1 9 9 6 0 0 [1, 1] (by decide)) (ren_cv 1 9 9 6 0) rfl (H := [(1000, mas)]) (s := slw 1000 0 2 2) (fun β w hR => ll_cells (L := [1, 1]) (M := [1, 1]) (k := 1000) hR rfl rfl (by decide) (by decide))
theorem wakes_c : PureX Try.prog 9 #[] (rt (bb true)) :=
  runF_pure mix wakes_raw ⟨wk_r 1003, wk_far, wk_c5, wk_r 1015, wk_c5, wk_r 1015, wk_far, wk_r 1032, wk_far, wk_25, wk_26, wk_a1, wk_a2, wk_r 1053, wk_m, wk_c6, wk_r 1071, wk_c6, wk_r 1071, wk_far, wk_c6, wk_r 1090, wk_far, chk_nil15 0 0 0 0 0, trivial⟩ rfl rfl

end Go.Proofs.Ytpllklojcjhjaaa
