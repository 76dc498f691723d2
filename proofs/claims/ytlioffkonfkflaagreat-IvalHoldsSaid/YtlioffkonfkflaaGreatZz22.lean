/- Texts of the seat, joined. -/
import Derived.Test.YtlioffkonfkflaaGreatZz21
/- The law of what intervals hold: its forms. -/
namespace Go.Proofs.YtlioffkonfkflaaGreat
open Go Go.RowKit
set_option linter.unusedSimpArgs false
set_option linter.unusedVariables false
set_option maxRecDepth 100000

def ivb (b : Bool) (u v : Int) : Value := match b with
  | true => iv 0 0 true
  | false => iv u v false
def tsB (b : Bool) (e lo hi : Int) : List Prop := match b with
  | true => []
  | false => [decide (e < lo) = false, decide (hi < e) = false]
def hdA (b : Bool) : List (Nat × Res) := match b with
  | true => []
  | false => [(39, rt (bb true))]
def hdB (b : Bool) (u v x n d : Int) : List Prop := match b with
  | true => []
  | false => [PureX Tryz.prog 39 #[iv u v false, ii x, ii n, ii d] (rt (bb true))]
def orH (b1 b2 dd : Bool) : List (Option Bool) := match b1, b2, dd with
  | false, false, false => [n, n, n, n, n, n, n, n, f, n, n, n, n, n, n, f, n, n, n, n, n, n, n, n, n, n, f, n, n, n, n, n, n, n, f, n, n, n, n, n, n, n, n, n, f, n, n, n, n, n, n, n, n, n, n, n, n, n, n, f]
  | false, false, true => [n, n, n, n, n, n, n, n, f, n, n, n, n, n, n, f, n, n, n, n, n, n, n, n, n, n, f, n, n, n, n, n, n, n, f, n, n, n, n, n, n, n, n, n, f, n, n, n, n, n, n, n, n, n, n, n, n, n, n, t]
  | false, true, false => [n, n, n, n, n, n, n, n, f, n, n, n, n, n, n, f, n, n, n, n, n, n, n, n, n, n, n, n, n, n, n, n, n, n, n, n, n, n, f, n, n, n, n, n, n, n, n, n, n, n, n, n, n, f]
  | false, true, true => [n, n, n, n, n, n, n, n, f, n, n, n, n, n, n, f, n, n, n, n, n, n, n, n, n, n, n, n, n, n, n, n, n, n, n, n, n, n, f, n, n, n, n, n, n, n, n, n, n, n, n, n, n, t]
  | true, false, false => [n, n, n, n, n, n, n, n, n, n, n, n, n, n, n, n, n, n, n, n, f, n, n, n, n, n, n, n, f, n, n, n, n, n, n, n, n, n, f, n, n, n, n, n, n, n, n, n, n, n, n, n, n, f]
  | true, false, true => [n, n, n, n, n, n, n, n, n, n, n, n, n, n, n, n, n, n, n, n, f, n, n, n, n, n, n, n, f, n, n, n, n, n, n, n, n, n, f, n, n, n, n, n, n, n, n, n, n, n, n, n, n, t]
  | true, true, false => [n, n, n, n, n, n, n, n, n, n, n, n, n, n, n, n, n, n, n, n, n, n, n, n, n, n, n, n, n, n, n, n, f, n, n, n, n, n, n, n, n, n, n, n, n, n, n, f]
  | true, true, true => [n, n, n, n, n, n, n, n, n, n, n, n, n, n, n, n, n, n, n, n, n, n, n, n, n, n, n, n, n, n, n, n, f, n, n, n, n, n, n, n, n, n, n, n, n, n, n, t]

end Go.Proofs.YtlioffkonfkflaaGreat

/- The law of what intervals hold: its ways. -/
namespace Go.Proofs.YtlioffkonfkflaaGreat
open Go Go.RowKit
set_option linter.unusedSimpArgs false
set_option linter.unusedVariables false
set_option maxRecDepth 100000
section
variable (l h : Int) (p : Bool) (m k : Int) (q : Bool) (x y n1 d x1 y1 s1 s2 t1 t2 m1 m2 p1 p2 g1 g2 : Int)
theorem iw_fffft : runB Tryz.prog 4 #[iv l h p, iv m k q, ii x, ii y, ii n1, ii d] [] (orH false false true)
      ([(38, rt (ii x1)), (38, rt (ii y1)), (24, rt (ivb false s1 s2)), (26, rt (ivb false t1 t2)), (30, rt (ivb false m1 m2)), (32, rt (ivb false p1 p2)), (28, rt (iv g1 g2 false))] ++ (hdA false ++ (hdA false ++ [(11, rt (bb true))]))) [(13, rt (bb true), J2 1002 l h p m k q)] =
    some (rt (bb true), [], [CallsV Tryz.prog (.func 13) #[sl 1002 2] (J2 1002 l h p m k q) (rt (bb true)) (J2 1002 l h p m k q), PureX Tryz.prog 38 #[iv l h p, ii x] (rt (ii x1)), PureX Tryz.prog 38 #[iv m k q, ii y] (rt (ii y1)), PureX Tryz.prog 24 #[iv l h p, iv m k q] (rt (ivb false s1 s2)), PureX Tryz.prog 26 #[iv l h p, iv m k q] (rt (ivb false t1 t2)), PureX Tryz.prog 30 #[iv l h p, iv m k q] (rt (ivb false m1 m2)), PureX Tryz.prog 32 #[iv l h p, ii n1, ii d] (rt (ivb false p1 p2))] ++
      (tsB false (IntKind.i64.wrap (x1 + y1)) s1 s2 ++ (tsB false (IntKind.i64.wrap (x1 - y1)) t1 t2 ++ ([PureX Tryz.prog 28 #[iv l h p] (rt (iv g1 g2 false)), (!((g1 == IntKind.i64.wrap (0 - h)) && ((g2 == IntKind.i64.wrap (0 - l)) && ((true) && (true))))) = false] ++ (hdB false m1 m2 x1 y1 1073741824 ++ (hdB false p1 p2 x1 n1 d ++ [(d != 0) = true, PureX Tryz.prog 11 #[] (rt (bb true))])))))) := by kernel_rfl
theorem iw_ffftf : runB Tryz.prog 4 #[iv l h p, iv m k q, ii x, ii y, ii n1, ii d] [] (orH false false false)
      ([(38, rt (ii x1)), (38, rt (ii y1)), (24, rt (ivb false s1 s2)), (26, rt (ivb false t1 t2)), (30, rt (ivb false m1 m2)), (32, rt (ivb true p1 p2)), (28, rt (iv g1 g2 false))] ++ (hdA false ++ (hdA true ++ [(11, rt (bb true))]))) [(13, rt (bb true), J2 1002 l h p m k q)] =
    some (rt (bb true), [], [CallsV Tryz.prog (.func 13) #[sl 1002 2] (J2 1002 l h p m k q) (rt (bb true)) (J2 1002 l h p m k q), PureX Tryz.prog 38 #[iv l h p, ii x] (rt (ii x1)), PureX Tryz.prog 38 #[iv m k q, ii y] (rt (ii y1)), PureX Tryz.prog 24 #[iv l h p, iv m k q] (rt (ivb false s1 s2)), PureX Tryz.prog 26 #[iv l h p, iv m k q] (rt (ivb false t1 t2)), PureX Tryz.prog 30 #[iv l h p, iv m k q] (rt (ivb false m1 m2)), PureX Tryz.prog 32 #[iv l h p, ii n1, ii d] (rt (ivb true p1 p2))] ++
      (tsB false (IntKind.i64.wrap (x1 + y1)) s1 s2 ++ (tsB false (IntKind.i64.wrap (x1 - y1)) t1 t2 ++ ([PureX Tryz.prog 28 #[iv l h p] (rt (iv g1 g2 false)), (!((g1 == IntKind.i64.wrap (0 - h)) && ((g2 == IntKind.i64.wrap (0 - l)) && ((true) && (true))))) = false] ++ (hdB false m1 m2 x1 y1 1073741824 ++ (hdB true p1 p2 x1 n1 d ++ [(d != 0) = false, PureX Tryz.prog 11 #[] (rt (bb true))])))))) := by kernel_rfl
theorem iw_ffftt : runB Tryz.prog 4 #[iv l h p, iv m k q, ii x, ii y, ii n1, ii d] [] (orH false false true)
      ([(38, rt (ii x1)), (38, rt (ii y1)), (24, rt (ivb false s1 s2)), (26, rt (ivb false t1 t2)), (30, rt (ivb false m1 m2)), (32, rt (ivb true p1 p2)), (28, rt (iv g1 g2 false))] ++ (hdA false ++ (hdA true ++ [(11, rt (bb true))]))) [(13, rt (bb true), J2 1002 l h p m k q)] =
    some (rt (bb true), [], [CallsV Tryz.prog (.func 13) #[sl 1002 2] (J2 1002 l h p m k q) (rt (bb true)) (J2 1002 l h p m k q), PureX Tryz.prog 38 #[iv l h p, ii x] (rt (ii x1)), PureX Tryz.prog 38 #[iv m k q, ii y] (rt (ii y1)), PureX Tryz.prog 24 #[iv l h p, iv m k q] (rt (ivb false s1 s2)), PureX Tryz.prog 26 #[iv l h p, iv m k q] (rt (ivb false t1 t2)), PureX Tryz.prog 30 #[iv l h p, iv m k q] (rt (ivb false m1 m2)), PureX Tryz.prog 32 #[iv l h p, ii n1, ii d] (rt (ivb true p1 p2))] ++
      (tsB false (IntKind.i64.wrap (x1 + y1)) s1 s2 ++ (tsB false (IntKind.i64.wrap (x1 - y1)) t1 t2 ++ ([PureX Tryz.prog 28 #[iv l h p] (rt (iv g1 g2 false)), (!((g1 == IntKind.i64.wrap (0 - h)) && ((g2 == IntKind.i64.wrap (0 - l)) && ((true) && (true))))) = false] ++ (hdB false m1 m2 x1 y1 1073741824 ++ (hdB true p1 p2 x1 n1 d ++ [(d != 0) = true, PureX Tryz.prog 11 #[] (rt (bb true))])))))) := by kernel_rfl
theorem iw_fftft : runB Tryz.prog 4 #[iv l h p, iv m k q, ii x, ii y, ii n1, ii d] [] (orH false false true)
      ([(38, rt (ii x1)), (38, rt (ii y1)), (24, rt (ivb false s1 s2)), (26, rt (ivb false t1 t2)), (30, rt (ivb true m1 m2)), (32, rt (ivb false p1 p2)), (28, rt (iv g1 g2 false))] ++ (hdA true ++ (hdA false ++ [(11, rt (bb true))]))) [(13, rt (bb true), J2 1002 l h p m k q)] =
    some (rt (bb true), [], [CallsV Tryz.prog (.func 13) #[sl 1002 2] (J2 1002 l h p m k q) (rt (bb true)) (J2 1002 l h p m k q), PureX Tryz.prog 38 #[iv l h p, ii x] (rt (ii x1)), PureX Tryz.prog 38 #[iv m k q, ii y] (rt (ii y1)), PureX Tryz.prog 24 #[iv l h p, iv m k q] (rt (ivb false s1 s2)), PureX Tryz.prog 26 #[iv l h p, iv m k q] (rt (ivb false t1 t2)), PureX Tryz.prog 30 #[iv l h p, iv m k q] (rt (ivb true m1 m2)), PureX Tryz.prog 32 #[iv l h p, ii n1, ii d] (rt (ivb false p1 p2))] ++
      (tsB false (IntKind.i64.wrap (x1 + y1)) s1 s2 ++ (tsB false (IntKind.i64.wrap (x1 - y1)) t1 t2 ++ ([PureX Tryz.prog 28 #[iv l h p] (rt (iv g1 g2 false)), (!((g1 == IntKind.i64.wrap (0 - h)) && ((g2 == IntKind.i64.wrap (0 - l)) && ((true) && (true))))) = false] ++ (hdB true m1 m2 x1 y1 1073741824 ++ (hdB false p1 p2 x1 n1 d ++ [(d != 0) = true, PureX Tryz.prog 11 #[] (rt (bb true))])))))) := by kernel_rfl
theorem iw_ffttf : runB Tryz.prog 4 #[iv l h p, iv m k q, ii x, ii y, ii n1, ii d] [] (orH false false false)
      ([(38, rt (ii x1)), (38, rt (ii y1)), (24, rt (ivb false s1 s2)), (26, rt (ivb false t1 t2)), (30, rt (ivb true m1 m2)), (32, rt (ivb true p1 p2)), (28, rt (iv g1 g2 false))] ++ (hdA true ++ (hdA true ++ [(11, rt (bb true))]))) [(13, rt (bb true), J2 1002 l h p m k q)] =
    some (rt (bb true), [], [CallsV Tryz.prog (.func 13) #[sl 1002 2] (J2 1002 l h p m k q) (rt (bb true)) (J2 1002 l h p m k q), PureX Tryz.prog 38 #[iv l h p, ii x] (rt (ii x1)), PureX Tryz.prog 38 #[iv m k q, ii y] (rt (ii y1)), PureX Tryz.prog 24 #[iv l h p, iv m k q] (rt (ivb false s1 s2)), PureX Tryz.prog 26 #[iv l h p, iv m k q] (rt (ivb false t1 t2)), PureX Tryz.prog 30 #[iv l h p, iv m k q] (rt (ivb true m1 m2)), PureX Tryz.prog 32 #[iv l h p, ii n1, ii d] (rt (ivb true p1 p2))] ++
      (tsB false (IntKind.i64.wrap (x1 + y1)) s1 s2 ++ (tsB false (IntKind.i64.wrap (x1 - y1)) t1 t2 ++ ([PureX Tryz.prog 28 #[iv l h p] (rt (iv g1 g2 false)), (!((g1 == IntKind.i64.wrap (0 - h)) && ((g2 == IntKind.i64.wrap (0 - l)) && ((true) && (true))))) = false] ++ (hdB true m1 m2 x1 y1 1073741824 ++ (hdB true p1 p2 x1 n1 d ++ [(d != 0) = false, PureX Tryz.prog 11 #[] (rt (bb true))])))))) := by kernel_rfl
theorem iw_ffttt : runB Tryz.prog 4 #[iv l h p, iv m k q, ii x, ii y, ii n1, ii d] [] (orH false false true)
      ([(38, rt (ii x1)), (38, rt (ii y1)), (24, rt (ivb false s1 s2)), (26, rt (ivb false t1 t2)), (30, rt (ivb true m1 m2)), (32, rt (ivb true p1 p2)), (28, rt (iv g1 g2 false))] ++ (hdA true ++ (hdA true ++ [(11, rt (bb true))]))) [(13, rt (bb true), J2 1002 l h p m k q)] =
    some (rt (bb true), [], [CallsV Tryz.prog (.func 13) #[sl 1002 2] (J2 1002 l h p m k q) (rt (bb true)) (J2 1002 l h p m k q), PureX Tryz.prog 38 #[iv l h p, ii x] (rt (ii x1)), PureX Tryz.prog 38 #[iv m k q, ii y] (rt (ii y1)), PureX Tryz.prog 24 #[iv l h p, iv m k q] (rt (ivb false s1 s2)), PureX Tryz.prog 26 #[iv l h p, iv m k q] (rt (ivb false t1 t2)), PureX Tryz.prog 30 #[iv l h p, iv m k q] (rt (ivb true m1 m2)), PureX Tryz.prog 32 #[iv l h p, ii n1, ii d] (rt (ivb true p1 p2))] ++
      (tsB false (IntKind.i64.wrap (x1 + y1)) s1 s2 ++ (tsB false (IntKind.i64.wrap (x1 - y1)) t1 t2 ++ ([PureX Tryz.prog 28 #[iv l h p] (rt (iv g1 g2 false)), (!((g1 == IntKind.i64.wrap (0 - h)) && ((g2 == IntKind.i64.wrap (0 - l)) && ((true) && (true))))) = false] ++ (hdB true m1 m2 x1 y1 1073741824 ++ (hdB true p1 p2 x1 n1 d ++ [(d != 0) = true, PureX Tryz.prog 11 #[] (rt (bb true))])))))) := by kernel_rfl
theorem iw_ftfft : runB Tryz.prog 4 #[iv l h p, iv m k q, ii x, ii y, ii n1, ii d] [] (orH false true true)
      ([(38, rt (ii x1)), (38, rt (ii y1)), (24, rt (ivb false s1 s2)), (26, rt (ivb true t1 t2)), (30, rt (ivb false m1 m2)), (32, rt (ivb false p1 p2)), (28, rt (iv g1 g2 false))] ++ (hdA false ++ (hdA false ++ [(11, rt (bb true))]))) [(13, rt (bb true), J2 1002 l h p m k q)] =
    some (rt (bb true), [], [CallsV Tryz.prog (.func 13) #[sl 1002 2] (J2 1002 l h p m k q) (rt (bb true)) (J2 1002 l h p m k q), PureX Tryz.prog 38 #[iv l h p, ii x] (rt (ii x1)), PureX Tryz.prog 38 #[iv m k q, ii y] (rt (ii y1)), PureX Tryz.prog 24 #[iv l h p, iv m k q] (rt (ivb false s1 s2)), PureX Tryz.prog 26 #[iv l h p, iv m k q] (rt (ivb true t1 t2)), PureX Tryz.prog 30 #[iv l h p, iv m k q] (rt (ivb false m1 m2)), PureX Tryz.prog 32 #[iv l h p, ii n1, ii d] (rt (ivb false p1 p2))] ++
      (tsB false (IntKind.i64.wrap (x1 + y1)) s1 s2 ++ (tsB true (IntKind.i64.wrap (x1 - y1)) t1 t2 ++ ([PureX Tryz.prog 28 #[iv l h p] (rt (iv g1 g2 false)), (!((g1 == IntKind.i64.wrap (0 - h)) && ((g2 == IntKind.i64.wrap (0 - l)) && ((true) && (true))))) = false] ++ (hdB false m1 m2 x1 y1 1073741824 ++ (hdB false p1 p2 x1 n1 d ++ [(d != 0) = true, PureX Tryz.prog 11 #[] (rt (bb true))])))))) := by kernel_rfl
theorem iw_ftftf : runB Tryz.prog 4 #[iv l h p, iv m k q, ii x, ii y, ii n1, ii d] [] (orH false true false)
      ([(38, rt (ii x1)), (38, rt (ii y1)), (24, rt (ivb false s1 s2)), (26, rt (ivb true t1 t2)), (30, rt (ivb false m1 m2)), (32, rt (ivb true p1 p2)), (28, rt (iv g1 g2 false))] ++ (hdA false ++ (hdA true ++ [(11, rt (bb true))]))) [(13, rt (bb true), J2 1002 l h p m k q)] =
    some (rt (bb true), [], [CallsV Tryz.prog (.func 13) #[sl 1002 2] (J2 1002 l h p m k q) (rt (bb true)) (J2 1002 l h p m k q), PureX Tryz.prog 38 #[iv l h p, ii x] (rt (ii x1)), PureX Tryz.prog 38 #[iv m k q, ii y] (rt (ii y1)), PureX Tryz.prog 24 #[iv l h p, iv m k q] (rt (ivb false s1 s2)), PureX Tryz.prog 26 #[iv l h p, iv m k q] (rt (ivb true t1 t2)), PureX Tryz.prog 30 #[iv l h p, iv m k q] (rt (ivb false m1 m2)), PureX Tryz.prog 32 #[iv l h p, ii n1, ii d] (rt (ivb true p1 p2))] ++
      (tsB false (IntKind.i64.wrap (x1 + y1)) s1 s2 ++ (tsB true (IntKind.i64.wrap (x1 - y1)) t1 t2 ++ ([PureX Tryz.prog 28 #[iv l h p] (rt (iv g1 g2 false)), (!((g1 == IntKind.i64.wrap (0 - h)) && ((g2 == IntKind.i64.wrap (0 - l)) && ((true) && (true))))) = false] ++ (hdB false m1 m2 x1 y1 1073741824 ++ (hdB true p1 p2 x1 n1 d ++ [(d != 0) = false, PureX Tryz.prog 11 #[] (rt (bb true))])))))) := by kernel_rfl
end

end Go.Proofs.YtlioffkonfkflaaGreat
