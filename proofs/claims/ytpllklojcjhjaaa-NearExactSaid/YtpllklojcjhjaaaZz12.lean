/- Texts of the seat, joined. -/
import Derived.Test.YtpllklojcjhjaaaZz5
import Derived.Test.YtpllklojcjhjaaaZz11
import Derived.Test.YtpllklojcjhjaaaZz6
import Derived.Test.YtpllklojcjhjaaaZz7
/- Ways, what every law of the layer asks at its end, and NearWay's walk. -/
namespace Go.Proofs.Ytpllklojcjhjaaa
open Go Go.RowKit
set_option linter.unusedSimpArgs false
set_option linter.unusedVariables false
set_option maxRecDepth 100000

/-- A pair: two places, the square of the way. -/
abbrev Pr := Int × Int × Int
def fl3 (p : Pr) : List Value := [ii p.1, ii p.2.1, ii p.2.2]
def pv (p : Pr) : Value := .agg ⟨fl3 p⟩
def KB : Kd Bd := ⟨fl6, 6, 42, by decide, fun _ => rfl, fun _ => rfl⟩
def KP : Kd Pr := ⟨fl3, 3, 36, by decide, fun _ => rfl, fun _ => rfl⟩
/-- A way's root, and what is no less than it. -/
def lowW (q : Int) : Int := if q < 0 then 0 else (isq q.toNat : Int)
def highW (q : Int) : Int := if q < 0 then 0 else if lowW q * lowW q = q then lowW q else lowW q + 1
theorem low_spec {q : Int} (h : 0 ≤ q) (h2 : q < 9223372036854775808) : 0 ≤ lowW q ∧ lowW q * lowW q ≤ q ∧ q < (lowW q + 1) * (lowW q + 1) ∧ lowW q ≤ 4294967295 := by
  obtain ⟨k, rfl⟩ := Int.eq_ofNat_of_zero_le h
  unfold lowW
  rw [if_neg (by omega)]
  simp only [Int.toNat_natCast]
  have hk : k < 57896044618658097711785492504343953926634992332820282019728792003956564819968 := by omega
  obtain ⟨h3, h4⟩ := isq_ok hk
  generalize isq k = r at h3 h4
  refine ⟨by omega, by exact_mod_cast h3, by exact_mod_cast h4, ?_⟩
  by_cases hr : r ≤ 4294967295
  · omega
  · exfalso
    have : 4294967296 * 4294967296 ≤ r * r := Nat.mul_le_mul (by omega) (by omega)
    omega
theorem lowW_neg {q : Int} (h : q < 0) : lowW q = 0 := if_pos h
theorem highW_neg {q : Int} (h : q < 0) : highW q = 0 := if_pos h
theorem high_spec {q : Int} (h : 0 ≤ q) : highW q = if lowW q * lowW q = q then lowW q else lowW q + 1 := if_neg (by omega)
theorem way_n (i j q m : Int) : runF Try.prog 1000 [] 12 #[.agg ⟨[ii i, ii j, ii q]⟩] [] [n] [(28, rt (tp [ii m, ii 2]))] [] [] =
    some (rt (tp [ii 0, ii 0]), [], [PureX Try.prog 28 #[ii q] (rt (tp [ii m, ii 2]))]) := by kernel_rfl
theorem way_t (i j q m : Int) : runF Try.prog 1000 [] 12 #[.agg ⟨[ii i, ii j, ii q]⟩] [] [n, t] [(28, rt (tp [ii m, ii 0]))] [] [] =
    some (rt (tp [ii m, ii m]), [], [PureX Try.prog 28 #[ii q] (rt (tp [ii m, ii 0])), (wi (m * m) == q) = true]) := by kernel_rfl
theorem way_f (i j q m : Int) : runF Try.prog 1000 [] 12 #[.agg ⟨[ii i, ii j, ii q]⟩] [] [n, f] [(28, rt (tp [ii m, ii 0]))] [] [] =
    some (rt (tp [ii m, ii (wi (m + 1))]), [], [PureX Try.prog 28 #[ii q] (rt (tp [ii m, ii 0])), (wi (m * m) == q) = false]) := by kernel_rfl
theorem rint_neg {k : Int} (h0 : -9223372036854775808 ≤ k) (h : k < 0) : PureX Try.prog 28 #[ii k] (rt (tp [ii 0, ii 2])) :=
  runA_pure mix (ri_pan k 2 (nz k)) ⟨of_z (x := k) ⟨h0, by omega⟩, extr_pan (isI_in ⟨h0, by omega⟩) h, trivial⟩ rfl rfl
theorem rint_pos {q : Int} (h : 0 ≤ q) (h2 : q < 9223372036854775808) : PureX Try.prog 28 #[ii q] (rt (tp [ii (lowW q), ii 0])) := by
  obtain ⟨k, rfl⟩ := Int.eq_ofNat_of_zero_le h
  have := rint_ok (k := k) (by omega)
  have e : lowW (k : Int) = (isq k : Int) := by
    unfold lowW
    rw [if_neg (by omega), Int.toNat_natCast]
  rw [e]
  exact this
theorem way_v (i j : Int) {q : Int} (h : isJ q) : PureX Try.prog 12 #[.agg ⟨[ii i, ii j, ii q]⟩] (rt (tp [ii (lowW q), ii (highW q)])) := by
  unfold isJ at h
  by_cases h0 : q < 0
  · rw [lowW_neg h0, highW_neg h0]
    exact runF_pure mix (way_n i j q 0) ⟨rint_neg h.1 h0, trivial⟩ rfl rfl
  · have hr := rint_pos (q := q) (by omega) (by omega)
    obtain ⟨h1, h2, h3, h4⟩ := low_spec (q := q) (by omega) (by omega)
    rw [high_spec (by omega)]
    generalize lowW q = m at *
    have h0m : 0 ≤ m * m := Int.mul_nonneg h1 h1
    have e : wi (m * m) = m * m := wrapI ⟨by omega, by omega⟩
    by_cases hm : m * m = q
    · rw [if_pos hm]
      exact runF_pure mix (way_t i j q m) ⟨hr, by rw [e]; exact beq_iff_eq.2 hm, trivial⟩ rfl rfl
    · rw [if_neg hm]
      have e2 : wi (m + 1) = m + 1 := wrapI ⟨by omega, by omega⟩
      have := runF_pure mix (way_f i j q m) ⟨hr, by rw [e]; exact beq_eq_false_iff_ne.2 hm, trivial⟩ rfl rfl
      rw [e2] at this
      exact this
end Go.Proofs.Ytpllklojcjhjaaa

/- Pairs of a state: what each call answers, wherever the bodies lie. -/
namespace Go.Proofs.Ytpllklojcjhjaaa
open Go Go.RowKit
set_option linter.unusedSimpArgs false
set_option linter.unusedVariables false
set_option maxRecDepth 100000

/-- The square of the way between two points. -/
def sqd (a b : P3) : Int := (a.1 - b.1) * (a.1 - b.1) + (a.2.1 - b.2.1) * (a.2.1 - b.2.1) + (a.2.2 - b.2.2) * (a.2.2 - b.2.2)
theorem sqx_le {d : Int} (h : -2097152 ≤ d) (h2 : d ≤ 2097152) : 0 ≤ d * d ∧ d * d ≤ 4398046511104 := by
  have h0 : 0 ≤ d * d := by
    by_cases hd : 0 ≤ d
    · exact Int.mul_nonneg hd hd
    · have := Int.mul_nonneg (show 0 ≤ -d by omega) (show 0 ≤ -d by omega)
      rwa [Int.neg_mul_neg] at this
  have h1 := Int.mul_nonneg (show 0 ≤ 2097152 - d by omega) (show 0 ≤ 2097152 + d by omega)
  have e : (2097152 - d) * (2097152 + d) = 4398046511104 - d * d := by grind
  omega
theorem sqd_in {a b : P3} (ha : wth a 1048576 = true) (hb : wth b 1048576 = true) : 0 ≤ sqd a b ∧ sqd a b ≤ 13194139533312 := by
  rw [wth_iff] at ha hb
  have h1 := sqx_le (d := a.1 - b.1) (by omega) (by omega)
  have h2 := sqx_le (d := a.2.1 - b.2.1) (by omega) (by omega)
  have h3 := sqx_le (d := a.2.2 - b.2.2) (by omega) (by omega)
  unfold sqd
  omega
theorem far_q {a b : P3} (ha : wth a 1048576 = true) (hb : wth b 1048576 = true) : farN a b = (sqd a b, 0) := by
  have fa : finP a = true := by rw [wth_iff] at ha; rw [fin_iff]; omega
  have fb : finP b = true := by rw [wth_iff] at hb; rw [fin_iff]; omega
  rw [wth_iff] at ha hb
  have e1 : wi (a.1 - b.1) = a.1 - b.1 := wrapI ⟨by omega, by omega⟩
  have e2 : wi (a.2.1 - b.2.1) = a.2.1 - b.2.1 := wrapI ⟨by omega, by omega⟩
  have e3 : wi (a.2.2 - b.2.2) = a.2.2 - b.2.2 := wrapI ⟨by omega, by omega⟩
  have em : miP a b = (a.1 - b.1, a.2.1 - b.2.1, a.2.2 - b.2.2) := by unfold miP; rw [e1, e2, e3]
  have fm : finP (miP a b) = true := by rw [em, fin_iff]; simp only; omega
  have hs : subP a b = (miP a b, 0) := by unfold subP; rw [fa, fb, fm]; rfl
  have h1 := sqx_le (d := a.1 - b.1) (by omega) (by omega)
  have h2 := sqx_le (d := a.2.1 - b.2.1) (by omega) (by omega)
  have h3 := sqx_le (d := a.2.2 - b.2.2) (by omega) (by omega)
  unfold farN
  rw [hs]
  simp only [if_true]
  unfold dotN
  rw [fm]
  unfold okN
  rw [Bool.and_self, if_pos rfl, em]
  unfold dtI sqd
  simp only
  generalize (a.1 - b.1) * (a.1 - b.1) = x at *
  generalize (a.2.1 - b.2.1) * (a.2.1 - b.2.1) = y at *
  generalize (a.2.2 - b.2.2) * (a.2.2 - b.2.2) = z at *
  have w1 : wi x = x := wrapI ⟨by omega, by omega⟩
  have w2 : wi y = y := wrapI ⟨by omega, by omega⟩
  have w3 : wi z = z := wrapI ⟨by omega, by omega⟩
  rw [w1, w2, w3, Int.zero_add, w1, show wi (x + y) = x + y from wrapI ⟨by omega, by omega⟩, show wi (x + y + z) = x + y + z from wrapI ⟨by omega, by omega⟩]
theorem far_c {a b : Bd} (ha : bwth 1048576 65536 a = true) (hb : bwth 1048576 65536 b = true) : PureX Try.prog 40 #[vv a.1, vv b.1] (rt (tp [ii (sqd a.1 b.1), ii 0])) := by
  unfold bwth at ha hb
  rw [Bool.and_eq_true] at ha hb
  have := far_v a.1 b.1
  rw [far_q ha.1 hb.1] at this
  exact this
/-- A state's pairs. -/
def prsL : List Bd → List Pr
  | [a, b] => [(0, 1, sqd a.1 b.1)]
  | [a, b, d] => [(0, 1, sqd a.1 b.1), (0, 2, sqd a.1 d.1), (1, 2, sqd b.1 d.1)]
  | [a, b, d, e] => [(0, 1, sqd a.1 b.1), (0, 2, sqd a.1 d.1), (0, 3, sqd a.1 e.1), (1, 2, sqd b.1 d.1), (1, 3, sqd b.1 e.1), (2, 3, sqd d.1 e.1)]
  | _ => []
theorem right_0 (st : Int) : rightV st [] = false := by unfold rightV; simp
theorem right_nil (st : Int) : PureX Try.prog 30 #[sv st sl0] (rt (bb false)) := by
  by_cases h1 : -1073741824 ≤ st
  · by_cases h2 : st ≤ 1073741824
    · exact runF_pure mix (r15n st _) ⟨decide_eq_true h1, decide_eq_true h2, may_v 0, rfl, trivial⟩ rfl rfl
    · exact runF_pure mix (r15n_b st) ⟨decide_eq_true h1, decide_eq_false h2, trivial⟩ rfl rfl
  · exact runF_pure mix (r15n_a st) ⟨decide_eq_false h1, trivial⟩ rfl rfl
theorem rright_nil (st : Int) : PureX Try.prog 8 #[sv st sl0] (rt (bb false)) := by
  by_cases h1 : -1073741824 ≤ st
  · by_cases h2 : st ≤ 1073741824
    · exact runF_pure mix (r9n_c st) ⟨decide_eq_true h1, decide_eq_true h2, trivial⟩ rfl rfl
    · exact runF_pure mix (r9n_b st) ⟨decide_eq_true h1, decide_eq_false h2, trivial⟩ rfl rfl
  · exact runF_pure mix (r9n_a st) ⟨decide_eq_false h1, trivial⟩ rfl rfl

theorem right_s (st : Int) (L : List Bd) : SemA KB Try.prog 30 (fun s => #[sv st s]) L (bb (rightV st L)) := by
  refine semA_mk false (ren_sv st) rfl (fun h => by subst h; rw [right_0]; exact right_nil st) (fun off cap hl hc => ?_)
  have hm := may_v (L.length : Int)
  have hw := sw_w st (b1 := 1048576) (b2 := 65536) ⟨by decide, by decide⟩ ⟨by decide, by decide⟩ off cap L (Nat.le_trans hl hc)
  unfold rightV
  by_cases h1 : -1073741824 ≤ st
  · by_cases h2 : st ≤ 1073741824
    · rw [decide_eq_true h1, decide_eq_true h2, Bool.true_and, Bool.true_and]
      generalize hp : (decide (1 ≤ (L.length : Int)) && decide ((L.length : Int) ≤ 4)) = p at *
      cases p
      · exact runF_calls mix (r15_c st _ off L.length cap _) ⟨decide_eq_true h1, decide_eq_true h2, hm, rfl, trivial⟩ rfl rfl
      · rw [Bool.true_and]
        exact runF_calls mix (r15_d st _ _ off L.length cap _) ⟨decide_eq_true h1, decide_eq_true h2, hm, rfl, hw, trivial⟩ rfl rfl
    · rw [decide_eq_false h2, Bool.false_and, Bool.and_false]
      exact runF_calls mix (r15_b st off L.length cap _) ⟨decide_eq_true h1, decide_eq_false h2, trivial⟩ rfl rfl
  · rw [decide_eq_false h1, Bool.false_and]
    exact runF_calls mix (r15_a st off L.length cap _) ⟨decide_eq_false h1, trivial⟩ rfl rfl
theorem rright_s (st : Int) (L : List Bd) : SemA KB Try.prog 8 (fun s => #[sv st s]) L (bb (rightV st L)) := by
  refine semA_mk false (ren_sv st) rfl (fun h => by subst h; rw [right_0]; exact rright_nil st) (fun off cap hl hc => ?_)
  have hw := rw_w st off cap L (Nat.le_trans hl hc)
  unfold rightV
  by_cases h1 : -1073741824 ≤ st
  · by_cases h2 : st ≤ 1073741824
    · rw [decide_eq_true h1, decide_eq_true h2, Bool.true_and, Bool.true_and]
      by_cases h3 : 1 ≤ (L.length : Int)
      · by_cases h4 : (L.length : Int) ≤ 4
        · rw [decide_eq_true h3, decide_eq_true h4, Bool.true_and, Bool.true_and]
          exact runF_calls mix (r9_e st _ off L.length cap _) ⟨decide_eq_true h1, decide_eq_true h2, decide_eq_true h3, decide_eq_true h4, hw, trivial⟩ rfl rfl
        · rw [decide_eq_true h3, decide_eq_false h4, Bool.and_false, Bool.false_and]
          exact runF_calls mix (r9_d st off L.length cap _) ⟨decide_eq_true h1, decide_eq_true h2, decide_eq_true h3, decide_eq_false h4, trivial⟩ rfl rfl
      · rw [decide_eq_false h3, Bool.false_and, Bool.false_and]
        exact runF_calls mix (r9_c st off L.length cap _) ⟨decide_eq_true h1, decide_eq_true h2, decide_eq_false h3, trivial⟩ rfl rfl
    · rw [decide_eq_false h2, Bool.false_and, Bool.and_false]
      exact runF_calls mix (r9_b st off L.length cap _) ⟨decide_eq_true h1, decide_eq_false h2, trivial⟩ rfl rfl
  · rw [decide_eq_false h1, Bool.false_and]
    exact runF_calls mix (r9_a st off L.length cap _) ⟨decide_eq_false h1, trivial⟩ rfl rfl

theorem right_c {st : Int} {L : List Bd} {v : Bool} (h : rightV st L = v) {H : Hp} {s : Value} (hs : ∀ β w, Rel (rng β H) w β H w → LieK KB w (ren β s) L) : CallsV Try.prog (.func 30) #[sv st s] H (rt (bb v)) H :=
  semA_calls (h ▸ right_s st L) (ren_sv st) rfl hs
theorem rright_c {st : Int} {L : List Bd} {v : Bool} (h : rightV st L = v) {H : Hp} {s : Value} (hs : ∀ β w, Rel (rng β H) w β H w → LieK KB w (ren β s) L) : CallsV Try.prog (.func 8) #[sv st s] H (rt (bb v)) H :=
  semA_calls (h ▸ rright_s st L) (ren_sv st) rfl hs
theorem own_raw (st : Int) (off m cap : Nat) (c : Array Value) (vs : List Value) : runF Try.prog 2000 [1, 2002] 32 #[sv st (slw 1 off m cap)] [(1, win off c)] [] [] [] [.nilFunc :: vs] =
    some (rt (sv st (slw 2002 0 m capU)), [(2002, opq 6 ⟨vs⟩ 42), (1, win off c)], [off ≤ off, (0 < m ∧ m ≤ maxLen ∧ m * 48 ≤ 140737488355328 ∧ vs.length = m * 6) ∧ wfL noB vs = true ∧ (c.toList.drop off).take vs.length = vs]) := by kernel_rfl
theorem own_nil (st : Int) : runF Try.prog 2000 [] 32 #[sv st sl0] [] [] [] [] [] = some (rt (sv st sl0), [], []) := by kernel_rfl
theorem down_raw (st : Int) (off m cap : Nat) (c : Array Value) (vs : List Value) : runF Try.prog 2000 [1, 2003] 18 #[sv st (slw 1 off m cap)] [(1, win off c)] [] [] [] [.nilFunc :: vs] =
    some (rt (sv st (slw 2003 0 m capU)), [(2003, opq 6 ⟨vs⟩ 42), (1, win off c)], [off ≤ off, (0 < m ∧ m ≤ maxLen ∧ m * 48 ≤ 140737488355328 ∧ vs.length = m * 6) ∧ wfL noB vs = true ∧ (c.toList.drop off).take vs.length = vs]) := by kernel_rfl

theorem cwk_drop {α : Type} (K : Kd α) (off : Nat) (L : List α) : ((cwx K.fl off L).toList.drop off).take (L.flatMap K.fl).length = L.flatMap K.fl := by
  show ((List.replicate off ud ++ L.flatMap K.fl).drop off).take _ = _
  rw [List.drop_append, List.length_replicate, List.drop_eq_nil_of_le (by simp), List.nil_append, Nat.sub_self, List.drop_zero, List.take_length]
/-- A state in memory of its own. -/
theorem own_new (st : Int) {L : List Bd} (h : L ≠ []) (h6 : L.length ≤ 60) : NewA KB Try.prog 32 (fun s => #[sv st s]) L KB (fun s => sv st s) L := by
  have hp : 0 < L.length := List.length_pos_iff.2 h
  refine newA_of false (k := 2002) (ren_sv st) (fun _ _ => rfl) h (.inr (.inl ⟨rfl, rfl⟩)) (by decide) (fun off cap hl hc => ?_)
  exact runF_calls mix (own_raw st off L.length cap (cwx KB.fl off L) (L.flatMap KB.fl)) ⟨Nat.le_refl _, ⟨⟨hp, Nat.le_trans h6 (by decide), by omega, KB.size L⟩, KB.plain L, cwk_drop KB off L⟩, trivial⟩ rfl rfl
theorem own_none (st : Int) : PureX Try.prog 32 #[sv st sl0] (rt (sv st sl0)) := runF_pure mix (own_nil st) trivial rfl rfl
theorem down_new (st : Int) {L : List Bd} (h : L ≠ []) (h6 : L.length ≤ 60) : NewA KB Try.prog 18 (fun s => #[sv st s]) L KB (fun s => sv st s) L := by
  have hp : 0 < L.length := List.length_pos_iff.2 h
  refine newA_of false (k := 2003) (ren_sv st) (fun _ _ => rfl) h (.inr (.inl ⟨rfl, rfl⟩)) (by decide) (fun off cap hl hc => ?_)
  exact runF_calls mix (down_raw st off L.length cap (cwx KB.fl off L) (L.flatMap KB.fl)) ⟨Nat.le_refl _, ⟨⟨hp, Nat.le_trans h6 (by decide), by omega, KB.size L⟩, KB.plain L, cwk_drop KB off L⟩, trivial⟩ rfl rfl
/-- The shapes of a list that has one to four. -/
theorem shapes {α : Type} {L : List α} (h1 : 1 ≤ L.length) (h4 : L.length ≤ 4) : (∃ a, L = [a]) ∨ (∃ a b, L = [a, b]) ∨ (∃ a b d, L = [a, b, d]) ∨ (∃ a b d e, L = [a, b, d, e]) := by
  match L, h1, h4 with
  | [a], _, _ => exact .inl ⟨a, rfl⟩
  | [a, b], _, _ => exact .inr (.inl ⟨a, b, rfl⟩)
  | [a, b, d], _, _ => exact .inr (.inr (.inl ⟨a, b, d, rfl⟩))
  | [a, b, d, e], _, _ => exact .inr (.inr (.inr ⟨a, b, d, e, rfl⟩))
  | a :: b :: d :: e :: x :: r, _, h => simp only [List.length_cons] at h; omega
theorem pairs_1 (st : Int) (cap : Nat) (a : Bd) : runF Try.prog 2000 [1] 10 #[sv st (slw 1 0 1 cap)] [(1, wob [a])] [n, n, n, n] [] [(30, rt (bb true), [(1, wob [a])])] [] =
    some (rt sl0, [(1, wob [a])], [CallsV Try.prog (.func 30) #[sv st (slw 1 0 1 cap)] [(1, wob [a])] (rt (bb true)) [(1, wob [a])]]) := by kernel_rfl
theorem pairs_2 (st : Int) (cap : Nat) (a b : Bd) (q01 : Int) : runF Try.prog 2000 [2008, 1] 10 #[sv st (slw 1 0 2 cap)] [(1, wob [a, b])] [n, n, n, n, n, n, n, n] [(40, rt (tp [ii q01, ii 0]))] [(30, rt (bb true), [(1, wob [a, b])])] [] =
    some (rt (slw 2008 0 1 capU), [(2008, KP.own [(0, 1, q01)]), (1, wob [a, b])], [CallsV Try.prog (.func 30) #[sv st (slw 1 0 2 cap)] [(1, wob [a, b])] (rt (bb true)) [(1, wob [a, b])], PureX Try.prog 40 #[vv a.1, vv b.1] (rt (tp [ii (q01), ii (0)]))]) := by kernel_rfl
theorem pairs_3 (st : Int) (cap : Nat) (a b d : Bd) (q01 q02 q12 : Int) : runF Try.prog 2000 [2015, 1] 10 #[sv st (slw 1 0 3 cap)] [(1, wob [a, b, d])] [n, n, n, n, n, n, n, n, n, n, n, n, n, n] [(40, rt (tp [ii q01, ii 0])), (40, rt (tp [ii q02, ii 0])), (40, rt (tp [ii q12, ii 0]))] [(30, rt (bb true), [(1, wob [a, b, d])])] [] =
    some (rt (slw 2015 0 3 capU), [(2015, KP.own [(0, 1, q01), (0, 2, q02), (1, 2, q12)]), (1, wob [a, b, d])], [CallsV Try.prog (.func 30) #[sv st (slw 1 0 3 cap)] [(1, wob [a, b, d])] (rt (bb true)) [(1, wob [a, b, d])], PureX Try.prog 40 #[vv a.1, vv b.1] (rt (tp [ii (q01), ii (0)])), PureX Try.prog 40 #[vv a.1, vv d.1] (rt (tp [ii (q02), ii (0)])), PureX Try.prog 40 #[vv b.1, vv d.1] (rt (tp [ii (q12), ii (0)]))]) := by kernel_rfl
theorem pairs_4 (st : Int) (cap : Nat) (a b d e : Bd) (q01 q02 q03 q12 q13 q23 : Int) : runF Try.prog 2000 [2025, 1] 10 #[sv st (slw 1 0 4 cap)] [(1, wob [a, b, d, e])] [n, n, n, n, n, n, n, n, n, n, n, n, n, n, n, n, n, n, n, n, n, n] [(40, rt (tp [ii q01, ii 0])), (40, rt (tp [ii q02, ii 0])), (40, rt (tp [ii q03, ii 0])), (40, rt (tp [ii q12, ii 0])), (40, rt (tp [ii q13, ii 0])), (40, rt (tp [ii q23, ii 0]))] [(30, rt (bb true), [(1, wob [a, b, d, e])])] [] =
    some (rt (slw 2025 0 6 capU), [(2025, KP.own [(0, 1, q01), (0, 2, q02), (0, 3, q03), (1, 2, q12), (1, 3, q13), (2, 3, q23)]), (1, wob [a, b, d, e])], [CallsV Try.prog (.func 30) #[sv st (slw 1 0 4 cap)] [(1, wob [a, b, d, e])] (rt (bb true)) [(1, wob [a, b, d, e])], PureX Try.prog 40 #[vv a.1, vv b.1] (rt (tp [ii (q01), ii (0)])), PureX Try.prog 40 #[vv a.1, vv d.1] (rt (tp [ii (q02), ii (0)])), PureX Try.prog 40 #[vv a.1, vv e.1] (rt (tp [ii (q03), ii (0)])), PureX Try.prog 40 #[vv b.1, vv d.1] (rt (tp [ii (q12), ii (0)])), PureX Try.prog 40 #[vv b.1, vv e.1] (rt (tp [ii (q13), ii (0)])), PureX Try.prog 40 #[vv d.1, vv e.1] (rt (tp [ii (q23), ii (0)]))]) := by kernel_rfl
theorem pairs_no (st : Int) (off m cap : Nat) (c : Array Value) : runF Try.prog 1000 [1] 10 #[sv st (slw 1 off m cap)] [(1, win off c)] [n] [] [(30, rt (bb false), [(1, win off c)])] [] =
    some (rt (sl0), [(1, win off c)], [CallsV Try.prog (.func 30) #[sv st (slw 1 off m cap)] [(1, win off c)] (rt (bb false)) [(1, win off c)]]) := by kernel_rfl
theorem pairs_nil (st : Int) : runF Try.prog 1000 [] 10 #[sv st sl0] [] [n] [(30, rt (bb false))] [] [] =
    some (rt (sl0), [], [PureX Try.prog 30 #[.agg ⟨[ii (st), sl0]⟩] (rt (bb (false)))]) := by kernel_rfl

/-- What a call answers that tells a list: none, or a new one. -/
def LstA {α α3 : Type} (K : Kd α) (P : Program) (f : Nat) (args : Value → Array Value) (L : List α) (K3 : Kd α3) (R : List α3) : Prop :=
  (R = [] → SemA K P f args L sl0) ∧ (R ≠ [] → NewA K P f args L K3 (fun s => s) R)
def LstB {α α2 α3 : Type} (K : Kd α) (K2 : Kd α2) (P : Program) (f : Nat) (args : Value → Value → Array Value) (L : List α) (M : List α2) (K3 : Kd α3) (R : List α3) : Prop :=
  (R = [] → SemB K K2 P f args L M sl0) ∧ (R ≠ [] → NewB K K2 P f args L M K3 (fun s => s) R)
/-- The pairs of a state that may be. -/
def prsV (st : Int) (L : List Bd) : List Pr := if rightV st L = true then prsL L else []
theorem prsV_ok {st : Int} {L : List Bd} (h : rightV st L = true) : prsV st L = prsL L := if_pos h
theorem prsV_no {st : Int} {L : List Bd} (h : rightV st L = false) : prsV st L = [] := if_neg (by rw [h]; decide)
theorem pairs_s (st : Int) (L : List Bd) : LstA KB Try.prog 10 (fun s => #[sv st s]) L KP (prsV st L) := by
  cases h : rightV st L
  case false =>
    rw [prsV_no h]
    refine ⟨fun _ => ?_, fun h => absurd rfl h⟩
    refine semA_mk false (ren_sv st) rfl (fun e => ?_) (fun off cap hl hc => ?_)
    · subst e
      exact runF_pure mix (pairs_nil st) ⟨right_nil st, trivial⟩ rfl rfl
    · exact runF_calls mix (pairs_no st off L.length cap (cwx KB.fl off L)) ⟨right_c h (H := [(1, KB.win off L)]) (s := slw 1 off L.length cap) (fun β w hR => lk_win (K := KB) hR rfl hl hc), trivial⟩ rfl rfl
  rw [prsV_ok h]
  obtain ⟨-, ⟨h1, h4⟩, hb⟩ := rightV_iff.1 h
  rcases shapes h1 h4 with ⟨a, rfl⟩ | ⟨a, b, rfl⟩ | ⟨a, b, d, rfl⟩ | ⟨a, b, d, e, rfl⟩
  · refine ⟨fun _ => ?_, fun h => absurd rfl h⟩
    refine semA_mk true (ren_sv st) rfl (fun e => (by cases e)) (fun off cap hl hc => ?_)
    exact runF_calls mix (pairs_1 st cap a) ⟨right_c h (H := [(1, KB.seen [a])]) (s := slw 1 0 1 cap) (fun β w hR => lk_seen (K := KB) hR rfl hl hc), trivial⟩ rfl rfl
  · refine ⟨fun e => (by cases e), fun _ => ?_⟩
    refine newA_of true (k := 2008) (ren_sv st) (fun _ _ => rfl) (by simp) (.inl ⟨rfl, rfl⟩) (by decide) (fun off cap hl hc => ?_)
    exact runF_calls mix (pairs_2 st cap a b (sqd a.1 b.1)) ⟨right_c h (H := [(1, KB.seen [a, b])]) (s := slw 1 0 2 cap) (fun β w hR => lk_seen (K := KB) hR rfl hl hc), far_c (hb a (by simp)) (hb b (by simp)), trivial⟩ rfl rfl
  · refine ⟨fun e => (by cases e), fun _ => ?_⟩
    refine newA_of true (k := 2015) (ren_sv st) (fun _ _ => rfl) (by simp) (.inl ⟨rfl, rfl⟩) (by decide) (fun off cap hl hc => ?_)
    exact runF_calls mix (pairs_3 st cap a b d (sqd a.1 b.1) (sqd a.1 d.1) (sqd b.1 d.1)) ⟨right_c h (H := [(1, KB.seen [a, b, d])]) (s := slw 1 0 3 cap) (fun β w hR => lk_seen (K := KB) hR rfl hl hc), far_c (hb a (by simp)) (hb b (by simp)), far_c (hb a (by simp)) (hb d (by simp)), far_c (hb b (by simp)) (hb d (by simp)), trivial⟩ rfl rfl
  · refine ⟨fun e => (by cases e), fun _ => ?_⟩
    refine newA_of true (k := 2025) (ren_sv st) (fun _ _ => rfl) (by simp) (.inl ⟨rfl, rfl⟩) (by decide) (fun off cap hl hc => ?_)
    exact runF_calls mix (pairs_4 st cap a b d e (sqd a.1 b.1) (sqd a.1 d.1) (sqd a.1 e.1) (sqd b.1 d.1) (sqd b.1 e.1) (sqd d.1 e.1)) ⟨right_c h (H := [(1, KB.seen [a, b, d, e])]) (s := slw 1 0 4 cap) (fun β w hR => lk_seen (K := KB) hR rfl hl hc), far_c (hb a (by simp)) (hb b (by simp)), far_c (hb a (by simp)) (hb d (by simp)), far_c (hb a (by simp)) (hb e (by simp)), far_c (hb b (by simp)) (hb d (by simp)), far_c (hb b (by simp)) (hb e (by simp)), far_c (hb d (by simp)) (hb e (by simp)), trivial⟩ rfl rfl

end Go.Proofs.Ytpllklojcjhjaaa
