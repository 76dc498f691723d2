/- Texts of the seat, joined. -/
import Derived.Test.YtcmfgabhgodlaaaGreatDoorZz39
/- PullTells: the whole walk. -/
namespace Go.Proofs.YtcmfgabhgodlaaaGreatDoor
open Go Go.RowKit
set_option linter.unusedSimpArgs false
set_option linter.unusedVariables false
set_option maxRecDepth 100000

instance (n d g m x y z : Int) : Decidable (okP n d g m x y z) := by unfold okP; infer_instance
/-- The examples. -/
theorem wakes_c : PureX Tryz.prog 12 #[] (rt (bb true)) := by
  have a := pull_ok (n := 1) (d := 1) (g := 100) (m := 1) (x := 10) (y := 0) (z := 0) (by decide)
  have b := pull_ok (n := 1) (d := 1) (g := 149) (m := 1) (x := 10) (y := 0) (z := 0) (by decide)
  have c := pull_ok (n := -1) (d := 1) (g := 150) (m := 1) (x := 10) (y := 0) (z := 0) (by decide)
  have p := pull_no (n := 1) (d := 1) (g := 1) (m := 1) (x := 0) (y := 0) (z := 0) (by decide)
  have q := pull_no (n := 1) (d := 0) (g := 1) (m := 1) (x := 1) (y := 2) (z := 3) (by decide)
  have s := square_v 1 (-2) 3
  have u := beyond_v 1 1 1 1 4
  have v := beyond_v 1 1 1 1 2
  rw [show plK 1 1 100 1 10 (sqI 10 0 0) = 1 by kernel_rfl, show plK 1 1 100 1 0 (sqI 10 0 0) = 0 by kernel_rfl] at a
  rw [show plK 1 1 149 1 10 (sqI 10 0 0) = 1 by kernel_rfl, show plK 1 1 149 1 0 (sqI 10 0 0) = 0 by kernel_rfl] at b
  rw [show plK (-1) 1 150 1 10 (sqI 10 0 0) = -2 by kernel_rfl, show plK (-1) 1 150 1 0 (sqI 10 0 0) = 0 by kernel_rfl] at c
  rw [show puE 1 1 1 1 0 0 0 = 30 by kernel_rfl] at p
  rw [show puE 1 0 1 1 1 2 3 = 2 by kernel_rfl] at q
  rw [show (if okW 1 (-2) 3 then sqI 1 (-2) 3 else 0) = 14 by kernel_rfl, show (if okW 1 (-2) 3 then (0 : Int) else 2) = 0 by kernel_rfl] at s
  rw [show (decide (alE 1 1 1 1 0 4 = 0) && bySq 1 1 1 1 4) = true by kernel_rfl] at u
  rw [show (decide (alE 1 1 1 1 0 2 = 0) && bySq 1 1 1 1 2) = false by kernel_rfl] at v
  exact runF_pure mix wak_raw ⟨a, b, c, p, q, s, u, v, trivial⟩ rfl rfl


theorem self_t (a : Int) : (a == a) = true := by simp
theorem selfs_t (a b c : Int) : ((a == a) && ((b == b) && ((c == c) && (true)))) = true := by simp
/-- All of it told twice alike. -/
theorem tells_of {n d g m v s x y z : Int} {a e i f u1 u2 u3 h : Int} {b : Bool} (h1 : PureX Tryz.prog 4 #[vc x y z] (rt (tp [ii a, ii e]))) (h2 : PureX Tryz.prog 5 #[vc x y z] (rt (tp [ii a, ii e])))
    (h3 : PureX Tryz.prog 6 #[ii n, ii d, ii g, ii m, ii v, ii s] (rt (tp [ii i, ii f]))) (h4 : PureX Tryz.prog 7 #[ii n, ii d, ii g, ii m, ii v, ii s] (rt (tp [ii i, ii f])))
    (h5 : PureX Tryz.prog 8 #[ii n, ii d, ii g, ii m, vc x y z] (rt (tp [vc u1 u2 u3, ii h]))) (h6 : PureX Tryz.prog 9 #[ii n, ii d, ii g, ii m, vc x y z] (rt (tp [vc u1 u2 u3, ii h])))
    (h7 : PureX Tryz.prog 10 #[ii n, ii d, ii g, ii m, ii s] (rt (bb b))) (h8 : PureX Tryz.prog 11 #[ii n, ii d, ii g, ii m, ii s] (rt (bb b))) :
    PureX Tryz.prog 3 #[ii n, ii d, ii g, ii m, ii v, ii s, vc x y z] (rt (bb true)) := by
  cases b with
  | true => exact runF_pure mix (tel_t n d g m v s x y z a e i f u1 u2 u3 h) ⟨h1, h2, h3, h4, h5, h6, self_t a, self_t e, self_t i, self_t f, selfs_t u1 u2 u3, self_t h, h7, h8, wakes_c, trivial⟩ rfl rfl
  | false => exact runF_pure mix (tel_f n d g m v s x y z a e i f u1 u2 u3 h) ⟨h1, h2, h3, h4, h5, h6, self_t a, self_t e, self_t i, self_t f, selfs_t u1 u2 u3, self_t h, h7, h8, wakes_c, trivial⟩ rfl rfl
theorem done_both (n d g m x s : Int) : PureX Tryz.prog 7 #[ii n, ii d, ii g, ii m, ii x, ii s] (rt (tp [ii (if alE n d g m x s = 0 then plK n d g m x s else 0), ii (alE n d g m x s)])) := by
  rcases al_split n d g m x s with ⟨h, h1, h2, h3⟩ | h
  · rw [if_pos h, h]
    exact done_v h1 h2 h3
  · rw [if_neg h]
    exact done_n h
theorem tells_walk (n d g m v s x y z : Int) : PureX Tryz.prog 3 #[ii n, ii d, ii g, ii m, ii v, ii s, vc x y z] (rt (bb true)) := by
  by_cases h : puE n d g m x y z = 0
  · have k := puE_ok h
    exact tells_of (square_v x y z) (dsq_v x y z) (one_v n d g m v s) (done_both n d g m v s) (pull_ok k) (dpull_ok k) (beyond_v n d g m s) (dbey_v n d g m s)
  · exact tells_of (square_v x y z) (dsq_v x y z) (one_v n d g m v s) (done_both n d g m v s) (pull_no h) (dpull_n h) (beyond_v n d g m s) (dbey_v n d g m s)

end Go.Proofs.YtcmfgabhgodlaaaGreatDoor
