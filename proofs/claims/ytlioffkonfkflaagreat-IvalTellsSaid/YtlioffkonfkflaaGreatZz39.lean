/- Texts of the seat, joined. -/
import Derived.Test.YtlioffkonfkflaaGreatZz38
import Derived.Test.YtlioffkonfkflaaGreatZz27
import Derived.Test.YtlioffkonfkflaaGreatZz25
import Derived.Test.YtlioffkonfkflaaGreatZz14
/- The law IvalTells: what is left of both sides, and its walk. -/
namespace Go.Proofs.YtlioffkonfkflaaGreat
open Go Go.RowKit
set_option linter.unusedSimpArgs false
set_option linter.unusedVariables false
set_option maxRecDepth 100000

/- The document's Of. -/
theorem dof_ok (x a b : Int) (c : Bool) : runB Tryz.prog 15 #[ii x] [] [f, n, f] [(17, rt (iv a b c))] [] =
    some (rt (iv a b c), [], [decide (1073741824 < x) = false, decide (x < Int.neg 1073741824) = false, PureX Tryz.prog 17 #[ii (IntKind.i64.wrap (x * 1073741824))] (rt (iv a b c))]) := by kernel_rfl
theorem dof_hi (x a b : Int) (c : Bool) : runB Tryz.prog 15 #[ii x] [] [t, n, n] [(67, rt (iv a b c))] [] =
    some (rt (iv a b c), [], [decide (1073741824 < x) = true, PureX Tryz.prog 67 #[] (rt (iv a b c))]) := by kernel_rfl
theorem dof_lo (x a b : Int) (c : Bool) : runB Tryz.prog 15 #[ii x] [] [f, n, t] [(67, rt (iv a b c))] [] =
    some (rt (iv a b c), [], [decide (1073741824 < x) = false, decide (x < Int.neg 1073741824) = true, PureX Tryz.prog 67 #[] (rt (iv a b c))]) := by kernel_rfl
theorem fl_1 (x : Int) : flI x 1 = x := by have := flI_b (x := x) (y := 1) (by decide); omega
theorem ce_1 (x : Int) : ceI x 1 = x := by have := ceI_b (x := x) (y := 1) (by decide); omega
theorem of_eq (x : Int) : partV (mkV x x) 1073741824 1 = if -1073741824 ≤ x ∧ x ≤ 1073741824 then (x * 1073741824, x * 1073741824, false) else bdV := by
  by_cases hx : okV (mkV x x) = true
  · have e : mkV x x = (x, x, false) := by
      unfold mkV at hx ⊢
      split
      · rfl
      · rename_i h; rw [if_neg h] at hx; cases hx
    rw [e] at hx ⊢
    have k := okV_iff.1 hx
    rw [part_eq hx (by decide)]
    simp only
    have e1 : mnI (x * 1073741824) (x * 1073741824) = x * 1073741824 := by unfold mnI; split <;> rfl
    have e2 : mxI (x * 1073741824) (x * 1073741824) = x * 1073741824 := by unfold mxI; split <;> rfl
    rw [Bool.and_self, fl_1, ce_1, e1, e2]
    unfold inM
    rw [fl_1, ce_1]
    by_cases h : -1073741824 ≤ x ∧ x ≤ 1073741824
    · rw [if_pos h, if_pos (by rw [Bool.and_eq_true]; exact ⟨decide_eq_true (by omega), decide_eq_true (by omega)⟩)]
      unfold mkV
      rw [if_pos (okI_iff.2 ⟨rfl, by omega, by omega, by omega⟩)]
    · rw [if_neg h, if_neg (fun hh => by
        rw [Bool.and_eq_true, decide_eq_true_eq, decide_eq_true_eq] at hh
        omega)]
  · have h2 : ¬ (-1073741824 ≤ x ∧ x ≤ 1073741824) := fun h => by
      refine hx ?_
      unfold mkV
      rw [if_pos (okI_iff.2 ⟨rfl, by omega, by omega, by omega⟩)]
      exact okV_iff.2 ⟨rfl, by show _ ≤ x; omega, by show x ≤ x; omega, by show x ≤ _; omega⟩
    rw [if_neg h2]
    unfold partV partP
    rw [if_neg (by decide), if_neg (by decide), if_neg hx]
theorem dof_v (x : Int) : PureX Tryz.prog 15 #[ii x] (rt (ivv (partV (mkV x x) 1073741824 1))) := by
  rw [of_eq]
  by_cases h1 : 1073741824 < x
  · rw [if_neg (by omega)]
    exact runB_pure mix (dof_hi x _ _ _) ⟨decide_eq_true h1, dbd_v, trivial⟩ rfl rfl
  by_cases h2 : x < -1073741824
  · rw [if_neg (by omega)]
    exact runB_pure mix (dof_lo x _ _ _) ⟨decide_eq_false h1, decide_eq_true h2, dbd_v, trivial⟩ rfl rfl
  rw [if_pos (by omega)]
  have hp := rpoint_v (IntKind.i64.wrap (x * 1073741824))
  rw [wrapI (by omega)] at hp
  have e : mkV (x * 1073741824) (x * 1073741824) = (x * 1073741824, x * 1073741824, false) := by
    unfold mkV
    rw [if_pos (okI_iff.2 ⟨rfl, by omega, by omega, by omega⟩)]
  rw [e] at hp
  refine runB_pure mix (dof_ok x _ _ _) ⟨decide_eq_false h1, decide_eq_false h2, ?_, trivial⟩ rfl rfl
  rw [wrapI (by omega)]
  exact hp
/- The document's Holds. -/
theorem dho_f (x y : IV) : runB Tryz.prog 37 #[ivv x, ivv y] [] [] [] [(13, rt (bb false), [(1002, oiv [x, y])])] =
    some (rt (bb false), [], [CallsV Tryz.prog (.func 13) #[sl 1002 2] [(1002, oiv [x, y])] (rt (bb false)) [(1002, oiv [x, y])]]) := by kernel_rfl
theorem dho_tt (x y : IV) : runB Tryz.prog 37 #[ivv x, ivv y] [] [n, n, n, n, n, t, n, n, n, n] [] [(13, rt (bb true), [(1002, oiv [x, y])])] =
    some (rt (bb (decide (y.2.1 ≤ x.2.1))), [], [CallsV Tryz.prog (.func 13) #[sl 1002 2] [(1002, oiv [x, y])] (rt (bb true)) [(1002, oiv [x, y])], decide (x.1 ≤ y.1) = true]) := by kernel_rfl
theorem dho_tf (x y : IV) : runB Tryz.prog 37 #[ivv x, ivv y] [] [n, n, n, n, n, f, n, n, n, n] [] [(13, rt (bb true), [(1002, oiv [x, y])])] =
    some (rt (bb false), [], [CallsV Tryz.prog (.func 13) #[sl 1002 2] [(1002, oiv [x, y])] (rt (bb true)) [(1002, oiv [x, y])], decide (x.1 ≤ y.1) = false]) := by kernel_rfl
theorem drholds_v (x y : IV) : PureX Tryz.prog 37 #[ivv x, ivv y] (rt (bb (holdsV x y))) := by
  have hf := rfine_v2 1002 x y
  unfold holdsV
  cases hk : okV x && okV y
  · rw [hk] at hf
    exact runB_pure mix (dho_f _ _) ⟨hf, trivial⟩ rfl rfl
  · rw [hk] at hf
    by_cases hc : x.1 ≤ y.1
    · rw [decide_eq_true hc]
      exact runB_pure mix (dho_tt _ _) ⟨hf, decide_eq_true hc, trivial⟩ rfl rfl
    · rw [decide_eq_false hc]
      exact runB_pure mix (dho_tf _ _) ⟨hf, decide_eq_false hc, trivial⟩ rfl rfl
/- Of no list at all. -/
theorem rfine0 : PureX Tryz.prog 13 #[sl0] (rt (bb true)) := runB_pure mix (show runB Tryz.prog 13 #[sl0] [] [] [] [] = some (rt (bb true), [], []) by kernel_rfl) trivial rfl rfl
theorem rhull0 : PureX Tryz.prog 23 #[sl0] (rt (iv 0 0 true)) := runB_pure mix (show runB Tryz.prog 23 #[sl0] [] [] [] [] = some (rt (iv 0 0 true), [], []) by kernel_rfl) trivial rfl rfl

end Go.Proofs.YtlioffkonfkflaaGreat

/- The law IvalTells, walked. -/
namespace Go.Proofs.YtlioffkonfkflaaGreat
open Go Go.RowKit
set_option linter.unusedSimpArgs false
set_option linter.unusedVariables false
set_option maxRecDepth 100000

theorem l3_w (a b r0 r1 r2 r3 r4 r5 r6 r7 r8 r9 : IV) (n1 d w : Int) (p o : Bool) (off n' cap : Nat) (c : Array Value) : runB Tryz.prog 3 #[ivv a, ivv b, ii n1, ii d, slw 1 off n' cap] (HW off c) [f, f, n, n, n, n, f, n, n, n, n, f, n, n, n, n, n, n, f, n, n, n, n, f, n, n, n, n, f, f, n, n, n, n, n, n, f, n, n, n, n, f, n, n, n, n, n, n, f, n, n, n, n, n, n, n, n, f, t, n, n, n, n, n, n, t] [(14, rt (ivv r0)), (15, rt (ivv r0)), (16, rt (ivv r1)), (17, rt (ivv r1)), (18, rt (ivv r2)), (19, rt (ivv r2)), (20, rt (ii w)), (21, rt (ii w)), (24, rt (ivv r4)), (25, rt (ivv r4)), (26, rt (ivv r5)), (27, rt (ivv r5)), (28, rt (ivv r6)), (29, rt (ivv r6)), (30, rt (ivv r7)), (31, rt (ivv r7)), (32, rt (ivv r8)), (33, rt (ivv r8)), (34, rt (ivv r9)), (35, rt (ivv r9)), (36, rt (bb o)), (37, rt (bb o)), (11, rt (bb true))] [(12, rt (bb p), HW off c), (13, rt (bb p), HW off c), (22, rt (ivv r3), HW off c), (23, rt (ivv r3), HW off c)] =
    some (rt (bb true), HW off c, [decide (20 < (n' : Int)) = false,
      CallsV Tryz.prog (.func 12) #[slw 1 off n' cap] (HW off c) (rt (bb p)) (HW off c),
      CallsV Tryz.prog (.func 13) #[slw 1 off n' cap] (HW off c) (rt (bb p)) (HW off c),
      (!(p == p)) = false,
      PureX Tryz.prog 14 #[ii n1] (rt (ivv r0)),
      PureX Tryz.prog 15 #[ii n1] (rt (ivv r0)),
      (!((r0.1 == r0.1) && ((r0.2.1 == r0.2.1) && ((r0.2.2 == r0.2.2) && true)))) = false,
      PureX Tryz.prog 16 #[ii n1] (rt (ivv r1)),
      PureX Tryz.prog 17 #[ii n1] (rt (ivv r1)),
      (!((r1.1 == r1.1) && ((r1.2.1 == r1.2.1) && ((r1.2.2 == r1.2.2) && true)))) = false,
      PureX Tryz.prog 18 #[ii n1, ii d] (rt (ivv r2)),
      PureX Tryz.prog 19 #[ii n1, ii d] (rt (ivv r2)),
      (!((r2.1 == r2.1) && ((r2.2.1 == r2.2.1) && ((r2.2.2 == r2.2.2) && true)))) = false,
      PureX Tryz.prog 20 #[ivv a] (rt (ii w)),
      PureX Tryz.prog 21 #[ivv a] (rt (ii w)),
      (w != w) = false,
      CallsV Tryz.prog (.func 22) #[slw 1 off n' cap] (HW off c) (rt (ivv r3)) (HW off c),
      CallsV Tryz.prog (.func 23) #[slw 1 off n' cap] (HW off c) (rt (ivv r3)) (HW off c),
      (!((r3.1 == r3.1) && ((r3.2.1 == r3.2.1) && ((r3.2.2 == r3.2.2) && true)))) = false,
      PureX Tryz.prog 24 #[ivv a, ivv b] (rt (ivv r4)),
      PureX Tryz.prog 25 #[ivv a, ivv b] (rt (ivv r4)),
      (!((r4.1 == r4.1) && ((r4.2.1 == r4.2.1) && ((r4.2.2 == r4.2.2) && true)))) = false,
      PureX Tryz.prog 26 #[ivv a, ivv b] (rt (ivv r5)),
      PureX Tryz.prog 27 #[ivv a, ivv b] (rt (ivv r5)),
      (!((r5.1 == r5.1) && ((r5.2.1 == r5.2.1) && ((r5.2.2 == r5.2.2) && true)))) = false,
      PureX Tryz.prog 28 #[ivv a] (rt (ivv r6)),
      PureX Tryz.prog 29 #[ivv a] (rt (ivv r6)),
      (!((r6.1 == r6.1) && ((r6.2.1 == r6.2.1) && ((r6.2.2 == r6.2.2) && true)))) = false,
      PureX Tryz.prog 30 #[ivv a, ivv b] (rt (ivv r7)),
      PureX Tryz.prog 31 #[ivv a, ivv b] (rt (ivv r7)),
      (!((r7.1 == r7.1) && ((r7.2.1 == r7.2.1) && ((r7.2.2 == r7.2.2) && true)))) = false,
      PureX Tryz.prog 32 #[ivv a, ii n1, ii d] (rt (ivv r8)),
      PureX Tryz.prog 33 #[ivv a, ii n1, ii d] (rt (ivv r8)),
      (!((r8.1 == r8.1) && ((r8.2.1 == r8.2.1) && ((r8.2.2 == r8.2.2) && true)))) = false,
      PureX Tryz.prog 34 #[ivv a, ivv b] (rt (ivv r9)),
      PureX Tryz.prog 35 #[ivv a, ivv b] (rt (ivv r9)),
      ((r9.1 == r9.1) && ((r9.2.1 == r9.2.1) && ((r9.2.2 == r9.2.2) && true))) = true,
      PureX Tryz.prog 36 #[ivv a, ivv b] (rt (bb o)),
      PureX Tryz.prog 37 #[ivv a, ivv b] (rt (bb o)),
      (o == o) = true,
      PureX Tryz.prog 11 #[] (rt (bb true))]) := by kernel_rfl
theorem l3_big (a b : IV) (n1 d : Int) (off n' cap : Nat) (c : Array Value) : runB Tryz.prog 3 #[ivv a, ivv b, ii n1, ii d, slw 1 off n' cap] (HW off c) [t] [(11, rt (bb true))] [] =
    some (rt (bb true), HW off c, [decide (20 < (n' : Int)) = true, PureX Tryz.prog 11 #[] (rt (bb true))]) := by kernel_rfl
theorem l3_nil (a b r0 r1 r2 r3 r4 r5 r6 r7 r8 r9 : IV) (n1 d w : Int) (p o : Bool) : runB Tryz.prog 3 #[ivv a, ivv b, ii n1, ii d, sl0] [] [n, f, n, n, n, n, f, n, n, n, n, f, n, n, n, n, n, n, f, n, n, n, n, f, n, n, n, n, f, f, n, n, n, n, n, n, f, n, n, n, n, f, n, n, n, n, n, n, f, n, n, n, n, n, n, n, n, f, t, n, n, n, n, n, n, t] [(12, rt (bb p)), (13, rt (bb p)), (14, rt (ivv r0)), (15, rt (ivv r0)), (16, rt (ivv r1)), (17, rt (ivv r1)), (18, rt (ivv r2)), (19, rt (ivv r2)), (20, rt (ii w)), (21, rt (ii w)), (22, rt (ivv r3)), (23, rt (ivv r3)), (24, rt (ivv r4)), (25, rt (ivv r4)), (26, rt (ivv r5)), (27, rt (ivv r5)), (28, rt (ivv r6)), (29, rt (ivv r6)), (30, rt (ivv r7)), (31, rt (ivv r7)), (32, rt (ivv r8)), (33, rt (ivv r8)), (34, rt (ivv r9)), (35, rt (ivv r9)), (36, rt (bb o)), (37, rt (bb o)), (11, rt (bb true))] [] =
    some (rt (bb true), [], [PureX Tryz.prog 12 #[sl0] (rt (bb p)),
      PureX Tryz.prog 13 #[sl0] (rt (bb p)),
      (!(p == p)) = false,
      PureX Tryz.prog 14 #[ii n1] (rt (ivv r0)),
      PureX Tryz.prog 15 #[ii n1] (rt (ivv r0)),
      (!((r0.1 == r0.1) && ((r0.2.1 == r0.2.1) && ((r0.2.2 == r0.2.2) && true)))) = false,
      PureX Tryz.prog 16 #[ii n1] (rt (ivv r1)),
      PureX Tryz.prog 17 #[ii n1] (rt (ivv r1)),
      (!((r1.1 == r1.1) && ((r1.2.1 == r1.2.1) && ((r1.2.2 == r1.2.2) && true)))) = false,
      PureX Tryz.prog 18 #[ii n1, ii d] (rt (ivv r2)),
      PureX Tryz.prog 19 #[ii n1, ii d] (rt (ivv r2)),
      (!((r2.1 == r2.1) && ((r2.2.1 == r2.2.1) && ((r2.2.2 == r2.2.2) && true)))) = false,
      PureX Tryz.prog 20 #[ivv a] (rt (ii w)),
      PureX Tryz.prog 21 #[ivv a] (rt (ii w)),
      (w != w) = false,
      PureX Tryz.prog 22 #[sl0] (rt (ivv r3)),
      PureX Tryz.prog 23 #[sl0] (rt (ivv r3)),
      (!((r3.1 == r3.1) && ((r3.2.1 == r3.2.1) && ((r3.2.2 == r3.2.2) && true)))) = false,
      PureX Tryz.prog 24 #[ivv a, ivv b] (rt (ivv r4)),
      PureX Tryz.prog 25 #[ivv a, ivv b] (rt (ivv r4)),
      (!((r4.1 == r4.1) && ((r4.2.1 == r4.2.1) && ((r4.2.2 == r4.2.2) && true)))) = false,
      PureX Tryz.prog 26 #[ivv a, ivv b] (rt (ivv r5)),
      PureX Tryz.prog 27 #[ivv a, ivv b] (rt (ivv r5)),
      (!((r5.1 == r5.1) && ((r5.2.1 == r5.2.1) && ((r5.2.2 == r5.2.2) && true)))) = false,
      PureX Tryz.prog 28 #[ivv a] (rt (ivv r6)),
      PureX Tryz.prog 29 #[ivv a] (rt (ivv r6)),
      (!((r6.1 == r6.1) && ((r6.2.1 == r6.2.1) && ((r6.2.2 == r6.2.2) && true)))) = false,
      PureX Tryz.prog 30 #[ivv a, ivv b] (rt (ivv r7)),
      PureX Tryz.prog 31 #[ivv a, ivv b] (rt (ivv r7)),
      (!((r7.1 == r7.1) && ((r7.2.1 == r7.2.1) && ((r7.2.2 == r7.2.2) && true)))) = false,
      PureX Tryz.prog 32 #[ivv a, ii n1, ii d] (rt (ivv r8)),
      PureX Tryz.prog 33 #[ivv a, ii n1, ii d] (rt (ivv r8)),
      (!((r8.1 == r8.1) && ((r8.2.1 == r8.2.1) && ((r8.2.2 == r8.2.2) && true)))) = false,
      PureX Tryz.prog 34 #[ivv a, ivv b] (rt (ivv r9)),
      PureX Tryz.prog 35 #[ivv a, ivv b] (rt (ivv r9)),
      ((r9.1 == r9.1) && ((r9.2.1 == r9.2.1) && ((r9.2.2 == r9.2.2) && true))) = true,
      PureX Tryz.prog 36 #[ivv a, ivv b] (rt (bb o)),
      PureX Tryz.prog 37 #[ivv a, ivv b] (rt (bb o)),
      (o == o) = true,
      PureX Tryz.prog 11 #[] (rt (bb true))]) := by kernel_rfl
theorem eqo (x : IV) : ((x.1 == x.1) && ((x.2.1 == x.2.1) && ((x.2.2 == x.2.2) && true))) = true := by simp
theorem neqv (x : IV) : (!((x.1 == x.1) && ((x.2.1 == x.2.1) && ((x.2.2 == x.2.2) && true)))) = false := by rw [eqo]; rfl
theorem neqb (x : Bool) : (!(x == x)) = false := by cases x <;> rfl
theorem neqi (x : Int) : (x != x) = false := by simp
theorem tells5_w (a b : IV) {n1 d : Int} (hn : isI n1) (hd : isI d) (off cap : Nat) (L : List IV) (hL : L.length ≤ cap) (hcap : cap ≤ maxLen) :
    CallsV Tryz.prog (.func 3) #[ivv a, ivv b, ii n1, ii d, slw 1 off L.length cap] (HW off (cw off L)) (rt (bb true)) (HW off (cw off L)) := by
  by_cases hk : L.length ≤ 20
  · have hf := fine_w off cap L (by omega)
    exact runB_calls mix (l3_w a b _ _ _ (hullL L) _ _ _ _ _ _ n1 d _ (L.all okV) (holdsV a b) off L.length cap (cw off L))
      ⟨decide_eq_false (by omega), hf, rfine_w off cap L hk, neqb _, iof_v n1, dof_v n1, neqv _, point_v n1, rpoint_v n1, neqv _, make_v n1 d, rmake_v n1 d, neqv _, width_v a, rwidth_v a, neqi _,
       hull_w off cap L hL hcap hf, rhull_w off cap L hk, neqv _, add_v a b, radd_v a b, neqv _, isub_v a b, rsub_v a b, neqv _, ineg_v a, rneg_v a, neqv _, imul_v a b, dmul_v plain_ok a b, neqv _,
       part_v a hn hd, dpart_v plain_ok a hn hd, neqv _, meet_v a b, rmeet_v a b, eqo _, holds_v a b, drholds_v a b, beq_self_eq_true _, wakes5_c, trivial⟩ (by kernel_rfl) (by kernel_rfl) rfl
  · exact runB_calls mix (l3_big a b n1 d off L.length cap (cw off L)) ⟨decide_eq_true (by omega), wakes5_c, trivial⟩ (by kernel_rfl) (by kernel_rfl) rfl
theorem tells5_nil (a b : IV) {n1 d : Int} (hn : isI n1) (hd : isI d) : PureX Tryz.prog 3 #[ivv a, ivv b, ii n1, ii d, sl0] (rt (bb true)) :=
  runB_pure mix (l3_nil a b _ _ _ bdV _ _ _ _ _ _ n1 d _ true (holdsV a b))
    ⟨fine0, rfine0, neqb _, iof_v n1, dof_v n1, neqv _, point_v n1, rpoint_v n1, neqv _, make_v n1 d, rmake_v n1 d, neqv _, width_v a, rwidth_v a, neqi _,
     hull0, rhull0, neqv _, add_v a b, radd_v a b, neqv _, isub_v a b, rsub_v a b, neqv _, ineg_v a, rneg_v a, neqv _, imul_v a b, dmul_v plain_ok a b, neqv _,
     part_v a hn hd, dpart_v plain_ok a hn hd, neqv _, meet_v a b, rmeet_v a b, eqo _, holds_v a b, drholds_v a b, beq_self_eq_true _, wakes5_c, trivial⟩ rfl rfl
/-- .. wherever the list lies. -/
theorem tells5_at (a b : IV) {n1 d : Int} (hn : isI n1) (hd : isI d) (B off cap : Nat) (L : List IV) (hL : L.length ≤ cap) (hcap : cap ≤ maxLen) (w : World) (hw : WinAt off (cw off L) w.heap[B]?) :
    Calls Tryz.prog 3 #[ivv a, ivv b, ii n1, ii d, slw B off L.length cap] w fun e w' => e = .returned (.bool true) ∧ Below w.heap.size w w' := by
  let β : Num := fun _ => (B, cap)
  have hlt : B < w.heap.size := by
    obtain ⟨c, T, fr, h, _⟩ := hw
    exact (Array.getElem?_eq_some_iff.1 h).1
  have only : ∀ i, liveB (HW off (cw off L)) i = true → i = 1 := fun i hi => by
    unfold liveB at hi
    simp only [look] at hi
    split at hi
    · rename_i o ho
      split at ho
      · rename_i e; exact e.symm
      · cases ho
    · cases hi
  have hR : Rel (rng β (HW off (cw off L))) w β (HW off (cw off L)) w := by
    refine ⟨fun i o ho => ?_, fun i j hi hj _ => (only i hi).trans (only j hj).symm, fun i hi => .inl (rng_own.2 ⟨i, hi, rfl⟩), fun i hi => ⟨fun hw' => ⟨hlt, rng_win.2 ⟨i, hi, hw', rfl⟩⟩, fun _ => by rw [only i hi]; rfl⟩, fun i o ho => ?_, Kp.refl _ _⟩
    · simp only [look] at ho
      split at ho
      · cases ho
        exact ⟨fun h => (by cases h), fun _ => hw, cw_plain off L⟩
      · cases ho
    · simp only [look] at ho
      split at ho
      · cases ho; rfl
      · cases ho
  have h := tells5_w a b hn hd off cap L hL hcap β w hR
  have he : renA β #[ivv a, ivv b, ii n1, ii d, slw 1 off L.length cap] = #[ivv a, ivv b, ii n1, ii d, slw B off L.length cap] := by
    have : renA β #[ivv a, ivv b, ii n1, ii d, slw 1 off L.length cap] = #[ivv a, ivv b, ii n1, ii d, .slice (some ⟨B, off, none⟩) L.length (capR (B, cap) cap)] := by kernel_rfl
    rw [this]
    have : capR (B, cap) cap = cap := by unfold capR; split <;> rfl
    rw [this]
  simp only [he] at h
  refine h.mono ?_
  rintro e w' ⟨β', _, rfl, hR'⟩
  refine ⟨rfl, hR'.kp.below (Nat.le_refl _) (fun k h1 h2 => ?_)⟩
  obtain ⟨i, hi, e⟩ := rng_own.1 h1
  exact absurd (rng_win.2 ⟨i, hi, by rw [only i hi]; rfl, e⟩) h2

end Go.Proofs.YtlioffkonfkflaaGreat
