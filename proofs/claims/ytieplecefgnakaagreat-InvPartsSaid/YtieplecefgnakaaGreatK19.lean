/- Texts of the seat, joined. -/
import Derived.Test.YtieplecefgnakaaGreatK18
/- Parts of intervals: what comes of a part is held; the law of parts. -/
namespace Go.Proofs.YtieplecefgnakaaGreat
open Go Go.RowKit
set_option linter.unusedSimpArgs false
set_option linter.unusedVariables false
set_option maxRecDepth 100000
theorem rholds_raw (l h : Int) (p : Bool) (m k : Int) (q : Bool) : runB Tryz.prog 36 #[iv l h p, iv m k q] [] [n, n, n, n, n, t] [] [(12, rt (bb true), J2 1002 l h p m k q)] =
    some (rt (bb (decide (k ≤ h))), [], [CallsV Tryz.prog (.func 12) #[sl 1002 2] (J2 1002 l h p m k q) (rt (bb true)) (J2 1002 l h p m k q), decide (l ≤ m) = true]) := by kernel_rfl
theorem rholds_v {x y : IV} (h : holdsV x y = true) : PureX Tryz.prog 36 #[ivv x, ivv y] (rt (bb true)) := by
  obtain ⟨h1, h2, h3, h4⟩ := holdsV_iff.1 h
  have hf := rfine_v2 1002 x y
  rw [h1, h2] at hf
  have r := runB_pure mix (rholds_raw x.1 x.2.1 x.2.2 y.1 y.2.1 y.2.2) ⟨hf, decide_eq_true h3, trivial⟩ rfl rfl
  rw [decide_eq_true h4] at r
  exact r
section
variable (l h : Int) (p : Bool) (m k : Int) (q : Bool) (i j x y : Int)
variable (a1 a2 a3 a4 b1 b2 b3 b4 c1 c2 c3 c4 d1 d2 d3 d4 e1 e2 e3 e4 : Int)
theorem pt_ok (N : Int) : ∀ (s1 s2 s3 s4 s5 : Bool), runB Tryz.prog 9 #[iv l h p, iv m k q, ii i, ii j] [] [n, n, n, n, n, n, n, n, n, n, n, n, n, n, n, n, n, n, n, n, n, n, n, n, n, n, n, n, n, n, n, n, n, n, n, n, n, n, n, t]
      ([(52, rt (ii x)), (52, rt (ii y))] ++ (sga 41 s1 a1 a2 a3 a4 ++ (sga 41 s2 b1 b2 b3 b4 ++ (sga 45 s3 c1 c2 c3 c4 ++ (sga 47 s4 d1 d2 d3 d4 ++ (sga 49 s5 e1 e2 e3 e4 ++ [(39, rt (tp [ii N, bb true])), (39, rt (tp [ii N, bb true])), (51, rt (bb true))])))))) [(12, rt (bb true), J2 1002 l h p m k q)] =
    some (rt (bb true), [], [CallsV Tryz.prog (.func 12) #[sl 1002 2] (J2 1002 l h p m k q) (rt (bb true)) (J2 1002 l h p m k q), PureX Tryz.prog 52 #[iv l h p, ii i] (rt (ii x)), PureX Tryz.prog 52 #[iv l h p, ii j] (rt (ii y))] ++
      (sgo 41 #[iv l h p, iv m k q] #[pV x y, iv m k q] s1 a1 a2 a3 a4 ++ (sgo 41 #[iv m k q, iv l h p] #[iv m k q, pV x y] s2 b1 b2 b3 b4 ++ (sgo 45 #[iv l h p] #[pV x y] s3 c1 c2 c3 c4 ++ (sgo 47 #[iv l h p] #[pV x y] s4 d1 d2 d3 d4 ++ (sgo 49 #[iv l h p] #[pV x y] s5 e1 e2 e3 e4 ++
        [PureX Tryz.prog 39 #[iv l h p] (rt (tp [ii N, bb true])), PureX Tryz.prog 39 #[pV x y] (rt (tp [ii N, bb true])), (N == N) = true, PureX Tryz.prog 51 #[] (rt (bb true))])))))) := by
  intro s1 s2 s3 s4 s5
  cases s1 <;> cases s2 <;> cases s3 <;> cases s4 <;> cases s5
  · exact pt_ok_fffff l h p m k q i j x y a1 a2 a3 a4 b1 b2 b3 b4 c1 c2 c3 c4 d1 d2 d3 d4 e1 e2 e3 e4 N
  · exact pt_ok_fffft l h p m k q i j x y a1 a2 a3 a4 b1 b2 b3 b4 c1 c2 c3 c4 d1 d2 d3 d4 e1 e2 e3 e4 N
  · exact pt_ok_ffftf l h p m k q i j x y a1 a2 a3 a4 b1 b2 b3 b4 c1 c2 c3 c4 d1 d2 d3 d4 e1 e2 e3 e4 N
  · exact pt_ok_ffftt l h p m k q i j x y a1 a2 a3 a4 b1 b2 b3 b4 c1 c2 c3 c4 d1 d2 d3 d4 e1 e2 e3 e4 N
  · exact pt_ok_fftff l h p m k q i j x y a1 a2 a3 a4 b1 b2 b3 b4 c1 c2 c3 c4 d1 d2 d3 d4 e1 e2 e3 e4 N
  · exact pt_ok_fftft l h p m k q i j x y a1 a2 a3 a4 b1 b2 b3 b4 c1 c2 c3 c4 d1 d2 d3 d4 e1 e2 e3 e4 N
  · exact pt_ok_ffttf l h p m k q i j x y a1 a2 a3 a4 b1 b2 b3 b4 c1 c2 c3 c4 d1 d2 d3 d4 e1 e2 e3 e4 N
  · exact pt_ok_ffttt l h p m k q i j x y a1 a2 a3 a4 b1 b2 b3 b4 c1 c2 c3 c4 d1 d2 d3 d4 e1 e2 e3 e4 N
  · exact pt_ok_ftfff l h p m k q i j x y a1 a2 a3 a4 b1 b2 b3 b4 c1 c2 c3 c4 d1 d2 d3 d4 e1 e2 e3 e4 N
  · exact pt_ok_ftfft l h p m k q i j x y a1 a2 a3 a4 b1 b2 b3 b4 c1 c2 c3 c4 d1 d2 d3 d4 e1 e2 e3 e4 N
  · exact pt_ok_ftftf l h p m k q i j x y a1 a2 a3 a4 b1 b2 b3 b4 c1 c2 c3 c4 d1 d2 d3 d4 e1 e2 e3 e4 N
  · exact pt_ok_ftftt l h p m k q i j x y a1 a2 a3 a4 b1 b2 b3 b4 c1 c2 c3 c4 d1 d2 d3 d4 e1 e2 e3 e4 N
  · exact pt_ok_fttff l h p m k q i j x y a1 a2 a3 a4 b1 b2 b3 b4 c1 c2 c3 c4 d1 d2 d3 d4 e1 e2 e3 e4 N
  · exact pt_ok_fttft l h p m k q i j x y a1 a2 a3 a4 b1 b2 b3 b4 c1 c2 c3 c4 d1 d2 d3 d4 e1 e2 e3 e4 N
  · exact pt_ok_ftttf l h p m k q i j x y a1 a2 a3 a4 b1 b2 b3 b4 c1 c2 c3 c4 d1 d2 d3 d4 e1 e2 e3 e4 N
  · exact pt_ok_ftttt l h p m k q i j x y a1 a2 a3 a4 b1 b2 b3 b4 c1 c2 c3 c4 d1 d2 d3 d4 e1 e2 e3 e4 N
  · exact pt_ok_tffff l h p m k q i j x y a1 a2 a3 a4 b1 b2 b3 b4 c1 c2 c3 c4 d1 d2 d3 d4 e1 e2 e3 e4 N
  · exact pt_ok_tffft l h p m k q i j x y a1 a2 a3 a4 b1 b2 b3 b4 c1 c2 c3 c4 d1 d2 d3 d4 e1 e2 e3 e4 N
  · exact pt_ok_tfftf l h p m k q i j x y a1 a2 a3 a4 b1 b2 b3 b4 c1 c2 c3 c4 d1 d2 d3 d4 e1 e2 e3 e4 N
  · exact pt_ok_tfftt l h p m k q i j x y a1 a2 a3 a4 b1 b2 b3 b4 c1 c2 c3 c4 d1 d2 d3 d4 e1 e2 e3 e4 N
  · exact pt_ok_tftff l h p m k q i j x y a1 a2 a3 a4 b1 b2 b3 b4 c1 c2 c3 c4 d1 d2 d3 d4 e1 e2 e3 e4 N
  · exact pt_ok_tftft l h p m k q i j x y a1 a2 a3 a4 b1 b2 b3 b4 c1 c2 c3 c4 d1 d2 d3 d4 e1 e2 e3 e4 N
  · exact pt_ok_tfttf l h p m k q i j x y a1 a2 a3 a4 b1 b2 b3 b4 c1 c2 c3 c4 d1 d2 d3 d4 e1 e2 e3 e4 N
  · exact pt_ok_tfttt l h p m k q i j x y a1 a2 a3 a4 b1 b2 b3 b4 c1 c2 c3 c4 d1 d2 d3 d4 e1 e2 e3 e4 N
  · exact pt_ok_ttfff l h p m k q i j x y a1 a2 a3 a4 b1 b2 b3 b4 c1 c2 c3 c4 d1 d2 d3 d4 e1 e2 e3 e4 N
  · exact pt_ok_ttfft l h p m k q i j x y a1 a2 a3 a4 b1 b2 b3 b4 c1 c2 c3 c4 d1 d2 d3 d4 e1 e2 e3 e4 N
  · exact pt_ok_ttftf l h p m k q i j x y a1 a2 a3 a4 b1 b2 b3 b4 c1 c2 c3 c4 d1 d2 d3 d4 e1 e2 e3 e4 N
  · exact pt_ok_ttftt l h p m k q i j x y a1 a2 a3 a4 b1 b2 b3 b4 c1 c2 c3 c4 d1 d2 d3 d4 e1 e2 e3 e4 N
  · exact pt_ok_tttff l h p m k q i j x y a1 a2 a3 a4 b1 b2 b3 b4 c1 c2 c3 c4 d1 d2 d3 d4 e1 e2 e3 e4 N
  · exact pt_ok_tttft l h p m k q i j x y a1 a2 a3 a4 b1 b2 b3 b4 c1 c2 c3 c4 d1 d2 d3 d4 e1 e2 e3 e4 N
  · exact pt_ok_ttttf l h p m k q i j x y a1 a2 a3 a4 b1 b2 b3 b4 c1 c2 c3 c4 d1 d2 d3 d4 e1 e2 e3 e4 N
  · exact pt_ok_ttttt l h p m k q i j x y a1 a2 a3 a4 b1 b2 b3 b4 c1 c2 c3 c4 d1 d2 d3 d4 e1 e2 e3 e4 N
theorem pt_nk (N M : Int) (also : Bool) : ∀ (s1 s2 s3 s4 s5 : Bool), runB Tryz.prog 9 #[iv l h p, iv m k q, ii i, ii j] [] []
      ([(52, rt (ii x)), (52, rt (ii y))] ++ (sga 41 s1 a1 a2 a3 a4 ++ (sga 41 s2 b1 b2 b3 b4 ++ (sga 45 s3 c1 c2 c3 c4 ++ (sga 47 s4 d1 d2 d3 d4 ++ (sga 49 s5 e1 e2 e3 e4 ++ [(39, rt (tp [ii N, bb false])), (39, rt (tp [ii M, bb also])), (51, rt (bb true))])))))) [(12, rt (bb true), J2 1002 l h p m k q)] =
    some (rt (bb true), [], [CallsV Tryz.prog (.func 12) #[sl 1002 2] (J2 1002 l h p m k q) (rt (bb true)) (J2 1002 l h p m k q), PureX Tryz.prog 52 #[iv l h p, ii i] (rt (ii x)), PureX Tryz.prog 52 #[iv l h p, ii j] (rt (ii y))] ++
      (sgo 41 #[iv l h p, iv m k q] #[pV x y, iv m k q] s1 a1 a2 a3 a4 ++ (sgo 41 #[iv m k q, iv l h p] #[iv m k q, pV x y] s2 b1 b2 b3 b4 ++ (sgo 45 #[iv l h p] #[pV x y] s3 c1 c2 c3 c4 ++ (sgo 47 #[iv l h p] #[pV x y] s4 d1 d2 d3 d4 ++ (sgo 49 #[iv l h p] #[pV x y] s5 e1 e2 e3 e4 ++
        [PureX Tryz.prog 39 #[iv l h p] (rt (tp [ii N, bb false])), PureX Tryz.prog 39 #[pV x y] (rt (tp [ii M, bb also])), PureX Tryz.prog 51 #[] (rt (bb true))])))))) := by
  intro s1 s2 s3 s4 s5
  cases s1 <;> cases s2 <;> cases s3 <;> cases s4 <;> cases s5
  · exact pt_nk_fffff l h p m k q i j x y a1 a2 a3 a4 b1 b2 b3 b4 c1 c2 c3 c4 d1 d2 d3 d4 e1 e2 e3 e4 N M also
  · exact pt_nk_fffft l h p m k q i j x y a1 a2 a3 a4 b1 b2 b3 b4 c1 c2 c3 c4 d1 d2 d3 d4 e1 e2 e3 e4 N M also
  · exact pt_nk_ffftf l h p m k q i j x y a1 a2 a3 a4 b1 b2 b3 b4 c1 c2 c3 c4 d1 d2 d3 d4 e1 e2 e3 e4 N M also
  · exact pt_nk_ffftt l h p m k q i j x y a1 a2 a3 a4 b1 b2 b3 b4 c1 c2 c3 c4 d1 d2 d3 d4 e1 e2 e3 e4 N M also
  · exact pt_nk_fftff l h p m k q i j x y a1 a2 a3 a4 b1 b2 b3 b4 c1 c2 c3 c4 d1 d2 d3 d4 e1 e2 e3 e4 N M also
  · exact pt_nk_fftft l h p m k q i j x y a1 a2 a3 a4 b1 b2 b3 b4 c1 c2 c3 c4 d1 d2 d3 d4 e1 e2 e3 e4 N M also
  · exact pt_nk_ffttf l h p m k q i j x y a1 a2 a3 a4 b1 b2 b3 b4 c1 c2 c3 c4 d1 d2 d3 d4 e1 e2 e3 e4 N M also
  · exact pt_nk_ffttt l h p m k q i j x y a1 a2 a3 a4 b1 b2 b3 b4 c1 c2 c3 c4 d1 d2 d3 d4 e1 e2 e3 e4 N M also
  · exact pt_nk_ftfff l h p m k q i j x y a1 a2 a3 a4 b1 b2 b3 b4 c1 c2 c3 c4 d1 d2 d3 d4 e1 e2 e3 e4 N M also
  · exact pt_nk_ftfft l h p m k q i j x y a1 a2 a3 a4 b1 b2 b3 b4 c1 c2 c3 c4 d1 d2 d3 d4 e1 e2 e3 e4 N M also
  · exact pt_nk_ftftf l h p m k q i j x y a1 a2 a3 a4 b1 b2 b3 b4 c1 c2 c3 c4 d1 d2 d3 d4 e1 e2 e3 e4 N M also
  · exact pt_nk_ftftt l h p m k q i j x y a1 a2 a3 a4 b1 b2 b3 b4 c1 c2 c3 c4 d1 d2 d3 d4 e1 e2 e3 e4 N M also
  · exact pt_nk_fttff l h p m k q i j x y a1 a2 a3 a4 b1 b2 b3 b4 c1 c2 c3 c4 d1 d2 d3 d4 e1 e2 e3 e4 N M also
  · exact pt_nk_fttft l h p m k q i j x y a1 a2 a3 a4 b1 b2 b3 b4 c1 c2 c3 c4 d1 d2 d3 d4 e1 e2 e3 e4 N M also
  · exact pt_nk_ftttf l h p m k q i j x y a1 a2 a3 a4 b1 b2 b3 b4 c1 c2 c3 c4 d1 d2 d3 d4 e1 e2 e3 e4 N M also
  · exact pt_nk_ftttt l h p m k q i j x y a1 a2 a3 a4 b1 b2 b3 b4 c1 c2 c3 c4 d1 d2 d3 d4 e1 e2 e3 e4 N M also
  · exact pt_nk_tffff l h p m k q i j x y a1 a2 a3 a4 b1 b2 b3 b4 c1 c2 c3 c4 d1 d2 d3 d4 e1 e2 e3 e4 N M also
  · exact pt_nk_tffft l h p m k q i j x y a1 a2 a3 a4 b1 b2 b3 b4 c1 c2 c3 c4 d1 d2 d3 d4 e1 e2 e3 e4 N M also
  · exact pt_nk_tfftf l h p m k q i j x y a1 a2 a3 a4 b1 b2 b3 b4 c1 c2 c3 c4 d1 d2 d3 d4 e1 e2 e3 e4 N M also
  · exact pt_nk_tfftt l h p m k q i j x y a1 a2 a3 a4 b1 b2 b3 b4 c1 c2 c3 c4 d1 d2 d3 d4 e1 e2 e3 e4 N M also
  · exact pt_nk_tftff l h p m k q i j x y a1 a2 a3 a4 b1 b2 b3 b4 c1 c2 c3 c4 d1 d2 d3 d4 e1 e2 e3 e4 N M also
  · exact pt_nk_tftft l h p m k q i j x y a1 a2 a3 a4 b1 b2 b3 b4 c1 c2 c3 c4 d1 d2 d3 d4 e1 e2 e3 e4 N M also
  · exact pt_nk_tfttf l h p m k q i j x y a1 a2 a3 a4 b1 b2 b3 b4 c1 c2 c3 c4 d1 d2 d3 d4 e1 e2 e3 e4 N M also
  · exact pt_nk_tfttt l h p m k q i j x y a1 a2 a3 a4 b1 b2 b3 b4 c1 c2 c3 c4 d1 d2 d3 d4 e1 e2 e3 e4 N M also
  · exact pt_nk_ttfff l h p m k q i j x y a1 a2 a3 a4 b1 b2 b3 b4 c1 c2 c3 c4 d1 d2 d3 d4 e1 e2 e3 e4 N M also
  · exact pt_nk_ttfft l h p m k q i j x y a1 a2 a3 a4 b1 b2 b3 b4 c1 c2 c3 c4 d1 d2 d3 d4 e1 e2 e3 e4 N M also
  · exact pt_nk_ttftf l h p m k q i j x y a1 a2 a3 a4 b1 b2 b3 b4 c1 c2 c3 c4 d1 d2 d3 d4 e1 e2 e3 e4 N M also
  · exact pt_nk_ttftt l h p m k q i j x y a1 a2 a3 a4 b1 b2 b3 b4 c1 c2 c3 c4 d1 d2 d3 d4 e1 e2 e3 e4 N M also
  · exact pt_nk_tttff l h p m k q i j x y a1 a2 a3 a4 b1 b2 b3 b4 c1 c2 c3 c4 d1 d2 d3 d4 e1 e2 e3 e4 N M also
  · exact pt_nk_tttft l h p m k q i j x y a1 a2 a3 a4 b1 b2 b3 b4 c1 c2 c3 c4 d1 d2 d3 d4 e1 e2 e3 e4 N M also
  · exact pt_nk_ttttf l h p m k q i j x y a1 a2 a3 a4 b1 b2 b3 b4 c1 c2 c3 c4 d1 d2 d3 d4 e1 e2 e3 e4 N M also
  · exact pt_nk_ttttt l h p m k q i j x y a1 a2 a3 a4 b1 b2 b3 b4 c1 c2 c3 c4 d1 d2 d3 d4 e1 e2 e3 e4 N M also
end
/-- A call, and its part's: the one may not be, or holds the other. -/
theorem sgo_ok {f : Nat} {s r : Array Value} {u v : IV} (h1 : PureX Tryz.prog f s (rt (ivv u))) (h2 : PureX Tryz.prog f r (rt (ivv v))) (hb : u.2.2 = true → u = bdV) (hh : u.2.2 = false → holdsV u v = true) : AllP (sgo f s r u.2.2 u.1 u.2.1 v.1 v.2.1) := by
  cases hu : u.2.2
  · have k := hh hu
    have w := rholds_v k
    have kv := (okV_iff.1 (holdsV_iff.1 k).2.1).1
    rw [ivv_eq (ext3 rfl rfl hu)] at h1 w
    rw [ivv_eq (ext3 rfl rfl kv)] at h2 w
    exact ⟨h1, h2, w, trivial⟩
  · rw [hb hu] at h1
    exact ⟨h1, trivial⟩
theorem square_bd {x : IV} (hb : (squareV x).2.2 = true) : squareV x = bdV := by
  cases hx : okV x
  · unfold squareV; rw [hx]; rfl
  · rw [square_ends hx] at hb ⊢
    exact mk_bd hb
theorem root_bd {x : IV} (hb : (rootV x).2.2 = true) : rootV x = bdV := by
  by_cases h : okV x = true ∧ 0 ≤ x.1
  · rw [(root_ends h.1 h.2).1] at hb
    simp at hb
  · exact root_bad h
theorem square_part {x p : IV} (hp : okV p = true) (hx : okV x = true) (h1 : x.1 ≤ p.1) (h2 : p.2.1 ≤ x.2.1) (hb : (squareV x).2.2 = false) : holdsV (squareV x) (squareV p) = true := by
  have k := okV_iff.1 hp
  rw [square_ends hx] at hb
  rw [square_ends hx, square_ends hp]
  obtain ⟨a1, a2, a3, a4⟩ := mkV_bad hb
  have n1 := near_far hp (Int.le_refl _) k.2.2.1
  have n2 := near_far hx (Int.le_refl _) (okV_iff.1 hx).2.2.1
  have n3 : nearI x ≤ nearI p := by unfold nearI mxI; split <;> split <;> split <;> split <;> omega
  have n4 : farI p ≤ farI x := by unfold farI mxI; split <;> split <;> omega
  have m1 : nearI x * nearI x ≤ nearI p * nearI p := Int.mul_le_mul n3 n3 (by omega) (by omega)
  have m2 : farI p * farI p ≤ farI x * farI x := Int.mul_le_mul n4 n4 (by omega) (by omega)
  have m3 : nearI p * nearI p ≤ farI p * farI p := Int.mul_le_mul n1.2.2.2.1 n1.2.2.2.1 (by omega) (by omega)
  have q1 := fl_mono (y := 1073741824) (by decide) m1
  have q2 := ce_mono (y := 1073741824) (by decide) m2
  have q3 := fl_ce (y := 1073741824) (by decide) m3
  rw [a4, mkV_ok (by omega) q3 (by omega)]
  exact holdsV_iff.2 ⟨okV_mk a1 a2 a3, okV_mk (by omega) q3 (by omega), q1, q2⟩
theorem upq_mono {x y : Nat} (h : x ≤ y) (hy : y < 57896044618658097711785492504343953926634992332820282019728792003956564819968) : upq x ≤ upq y := by
  have a := isq_ok (x := x) (by omega)
  have b := upq_ok (x := y) hy
  refine Nat.le_of_not_lt (fun hc => ?_)
  have e : x ≤ upq y * upq y := by omega
  have d : upq x ≤ isq x + 1 := by unfold upq; split <;> omega
  have f : upq y ≤ isq x := by omega
  have g := Nat.mul_le_mul f f
  have s : isq x * isq x = x := by omega
  have u : upq x = isq x := by unfold upq; rw [if_pos s]
  have v : isq x * isq x ≤ upq y * upq y := by omega
  have w := sqr_le v
  omega
theorem root_part {x p : IV} (hp : okV p = true) (h1 : x.1 ≤ p.1) (h2 : p.2.1 ≤ x.2.1) (hb : (rootV x).2.2 = false) : holdsV (rootV x) (rootV p) = true := by
  by_cases h : okV x = true ∧ 0 ≤ x.1
  · have k := okV_iff.1 hp
    have kx := okV_iff.1 h.1
    obtain ⟨e, e1, e2, e3⟩ := root_ends h.1 h.2
    obtain ⟨f, f1, f2, f3⟩ := root_ends hp (by omega)
    have m1 := isq_mono (x := (x.1 * 1073741824).toNat) (y := (p.1 * 1073741824).toNat) (by omega) (by omega)
    have m2 := upq_mono (x := (p.2.1 * 1073741824).toNat) (y := (x.2.1 * 1073741824).toNat) (by omega) (by omega)
    rw [e, f]
    exact holdsV_iff.2 ⟨okV_mk (by omega) (by omega) (by omega), okV_mk (by omega) (by omega) (by omega), by simp only; omega, by simp only; omega⟩
  · rw [root_bad h] at hb
    simp [bdV] at hb
theorem mul_no {x y : IV} (h : ¬ (okV x = true ∧ okV y = true)) : mulV x y = bdV := by
  unfold mulV
  rw [if_neg (by simpa using h)]
theorem cube_bd {x : IV} (hb : (cubeV x).2.2 = true) : cubeV x = bdV := quot_bd hb
theorem cube_part {x p : IV} (hp : okV p = true) (h1 : x.1 ≤ p.1) (h2 : p.2.1 ≤ x.2.1) (hb : (cubeV x).2.2 = false) : holdsV (cubeV x) (cubeV p) = true := by
  obtain ⟨_, hm, _⟩ := quot_ends hb
  have hmb := (okV_iff.1 hm).1
  have hxr : okV x = true ∧ okV (rootV x) = true := by
    refine Classical.byContradiction fun hc => ?_
    rw [mul_no hc] at hmb
    simp [bdV] at hmb
  have rp := root_part hp h1 h2 (okV_iff.1 hxr.2).1
  obtain ⟨_, r2, r3, r4⟩ := holdsV_iff.1 rp
  have s1 := mul_part hxr.1 hp hxr.2 h1 h2 hmb
  obtain ⟨_, s2, s3, s4⟩ := holdsV_iff.1 s1
  have sb := (okV_iff.1 s2).1
  rw [mulV_comm] at sb
  have t1 := mul_part hxr.2 r2 hp r3 r4 sb
  rw [mulV_comm (rootV x) p, mulV_comm (rootV p) p] at t1
  obtain ⟨_, t2, t3, t4⟩ := holdsV_iff.1 t1
  exact quot_part (by decide) t2 (Int.le_refl _) (Int.le_refl _) (by omega) (by omega) hb
theorem sign_part {x p : IV} (hp : okV p = true) (hx : okV x = true) (h1 : x.1 ≤ p.1) (h2 : p.2.1 ≤ x.2.1) (hs : (signV x).2 = true) : signV p = signV x := by
  have k := okV_iff.1 hp
  unfold signV at hs ⊢
  rw [if_pos hx] at hs ⊢
  rw [if_pos hp]
  by_cases c1 : 0 < x.1
  · rw [if_pos c1, if_pos (show 0 < p.1 by omega)]
  · rw [if_neg c1] at hs ⊢
    by_cases c2 : x.2.1 < 0
    · rw [if_pos c2, if_neg (show ¬ 0 < p.1 by omega), if_pos (show p.2.1 < 0 by omega)]
    · rw [if_neg c2] at hs ⊢
      have e : x.1 = x.2.1 := by simpa using hs
      rw [if_neg (show ¬ 0 < p.1 by omega), if_neg (show ¬ p.2.1 < 0 by omega)]
      congr 1
      rw [show p.1 = x.1 by omega, show p.2.1 = x.2.1 by omega]
theorem parts_walk (x y : IV) (i j : Int) (hi : isI i) (hj : isI j) : PureX Tryz.prog 9 #[ivv x, ivv y, ii i, ii j] (rt (bb true)) := by
  have hf := rfine_v2 1002 x y
  cases hk : okV x && okV y
  · rw [hk] at hf
    exact runB_pure mix (pt_no _ _ _ _ _ _ _ _) ⟨hf, wakes6_c, trivial⟩ rfl rfl
  rw [hk] at hf
  simp only [Bool.and_eq_true] at hk
  obtain ⟨hx, hy⟩ := hk
  have kx := okV_iff.1 hx
  have ky := okV_iff.1 hy
  have ix := in_v hx hi
  have iy := in_v hx hj
  obtain ⟨x1, x2⟩ := inZ_in hx i
  obtain ⟨y1, y2⟩ := inZ_in hx j
  generalize inZ x i = s at ix x1 x2
  generalize inZ x j = t at iy y1 y2
  have p1 : x.1 ≤ mnI s t := le_mnI x1 y1
  have p2 : mxI s t ≤ x.2.1 := mxI_le x2 y2
  have p3 : mnI s t ≤ mxI s t := mn_mx
  have hp : okV (mnI s t, mxI s t, false) = true := okV_mk (by omega) p3 (by omega)
  have A1 := sgo_ok (quot_v x y) (quot_v (mnI s t, mxI s t, false) y) quot_bd (fun hb => quot_part hp hy p1 p2 (Int.le_refl _) (Int.le_refl _) hb)
  have A2 := sgo_ok (quot_v y x) (quot_v y (mnI s t, mxI s t, false)) quot_bd (fun hb => quot_part hy hp (Int.le_refl _) (Int.le_refl _) p1 p2 hb)
  have A3 := sgo_ok (square_v x) (square_v (mnI s t, mxI s t, false)) square_bd (fun hb => square_part hp hx p1 p2 hb)
  have A4 := sgo_ok (root_v x) (root_v (mnI s t, mxI s t, false)) root_bd (fun hb => root_part hp p1 p2 hb)
  have A5 := sgo_ok (cube_v x) (cube_v (mnI s t, mxI s t, false)) cube_bd (fun hb => cube_part hp p1 p2 hb)
  have g1 := isign_v x
  have g2 := isign_v (mnI s t, mxI s t, false)
  cases hs : (signV x).2
  · rw [hs] at g1
    exact runB_pure mix (pt_nk _ _ _ _ _ _ _ _ _ _ _ _ _ _ _ _ _ _ _ _ _ _ _ _ _ _ _ _ _ _ _ _ _ _ _ _ _ _)
      ((allP_append _ _).2 ⟨⟨hf, ix, iy, trivial⟩, (allP_append _ _).2 ⟨A1, (allP_append _ _).2 ⟨A2, (allP_append _ _).2 ⟨A3, (allP_append _ _).2 ⟨A4, (allP_append _ _).2 ⟨A5, g1, g2, wakes6_c, trivial⟩⟩⟩⟩⟩⟩) rfl rfl
  · have e := sign_part hp hx p1 p2 hs
    rw [e] at g2
    rw [hs] at g1 g2
    exact runB_pure mix (pt_ok _ _ _ _ _ _ _ _ _ _ _ _ _ _ _ _ _ _ _ _ _ _ _ _ _ _ _ _ _ _ _ _ _ _ _ _)
      ((allP_append _ _).2 ⟨⟨hf, ix, iy, trivial⟩, (allP_append _ _).2 ⟨A1, (allP_append _ _).2 ⟨A2, (allP_append _ _).2 ⟨A3, (allP_append _ _).2 ⟨A4, (allP_append _ _).2 ⟨A5, g1, g2, beq_self_eq_true _, wakes6_c, trivial⟩⟩⟩⟩⟩⟩) rfl rfl

end Go.Proofs.YtieplecefgnakaaGreat
