/- Texts of the seat, joined. -/
import Derived.Test.YtmikjgflenbljaaZz25
import Derived.Test.YtmikjgflenbljaaZz24
/- The law StateLeast, walked. -/
namespace Go.Proofs.Ytmikjgflenbljaa
open Go Go.RowKit
set_option linter.unusedSimpArgs false
set_option linter.unusedVariables false
set_option maxRecDepth 100000

def sq2 (a b : P3) : Int := (a.1 - b.1) * (a.1 - b.1) + (a.2.1 - b.2.1) * (a.2.1 - b.2.1) + (a.2.2 - b.2.2) * (a.2.2 - b.2.2)
theorem sq_b {x y : Int} (hx : -1048576 ≤ x ∧ x ≤ 1048576) (hy : -1048576 ≤ y ∧ y ≤ 1048576) : 0 ≤ (x - y) * (x - y) ∧ (x - y) * (x - y) ≤ 4398046511104 := by
  have h1 : -2097152 ≤ x - y ∧ x - y ≤ 2097152 := by omega
  generalize x - y = d at *
  refine ⟨?_, ?_⟩
  · by_cases h : 0 ≤ d
    · exact Int.mul_nonneg h h
    · have := Int.mul_nonneg (show 0 ≤ -d by omega) (show 0 ≤ -d by omega)
      rw [Int.neg_mul_neg] at this
      exact this
  · have h2 : (d.natAbs : Int) * d.natAbs ≤ 4398046511104 := by
      have : d.natAbs * d.natAbs ≤ 2097152 * 2097152 := Nat.mul_le_mul (by omega) (by omega)
      omega
    rw [Int.natAbs_mul_self'] at h2
    exact h2
theorem lfar_eq {a b : P3} (ha : wth a 1048576 = true) (hb : wth b 1048576 = true) : lfar a b = sq2 a b := by
  rw [wth_iff] at ha hb
  have s1 := sq_b ha.1 hb.1
  have s2 := sq_b ha.2.1 hb.2.1
  have s3 := sq_b ha.2.2 hb.2.2
  unfold lfar sq2 wi
  rw [wrapI (z := a.1 - b.1) (by omega), wrapI (z := a.2.1 - b.2.1) (by omega), wrapI (z := a.2.2 - b.2.2) (by omega)]
  generalize (a.1 - b.1) * (a.1 - b.1) = x at *
  generalize (a.2.1 - b.2.1) * (a.2.1 - b.2.1) = y at *
  generalize (a.2.2 - b.2.2) * (a.2.2 - b.2.2) = z at *
  rw [wrapI (z := x) (by omega), wrapI (z := y) (by omega), wrapI (z := z) (by omega), wrapI (z := 0 + x) (by omega), wrapI (z := 0 + x + y) (by omega), wrapI (by omega)]
  omega
theorem sq2_comm (a b : P3) : sq2 a b = sq2 b a := by
  unfold sq2
  grind
theorem farN_eq {a b : P3} (ha : wth a 1048576 = true) (hb : wth b 1048576 = true) : (farN a b).1 = lfar b a := by
  rw [lfar_eq hb ha, sq2_comm]
  have fa : fin a = true := by rw [fin_iff]; rw [wth_iff] at ha; omega
  have fb : fin b = true := by rw [fin_iff]; rw [wth_iff] at hb; omega
  rw [wth_iff] at ha hb
  have fm : fin (miP a b) = true := by
    rw [fin_iff]
    unfold miP wi
    rw [wrapI (z := a.1 - b.1) (by omega), wrapI (z := a.2.1 - b.2.1) (by omega), wrapI (z := a.2.2 - b.2.2) (by omega)]
    simp only
    omega
  have hs : subP a b = (miP a b, 0) := by
    unfold subP okP
    rw [fa, fb, fm]
    rfl
  unfold farN
  rw [hs]
  simp only [if_true]
  unfold dotN okN
  rw [fm]
  simp only [Bool.and_self, if_true]
  have s1 := sq_b ha.1 hb.1
  have s2 := sq_b ha.2.1 hb.2.1
  have s3 := sq_b ha.2.2 hb.2.2
  unfold dtI miP sq2 wi
  simp only
  rw [wrapI (z := a.1 - b.1) (by omega), wrapI (z := a.2.1 - b.2.1) (by omega), wrapI (z := a.2.2 - b.2.2) (by omega)]
  generalize (a.1 - b.1) * (a.1 - b.1) = x at *
  generalize (a.2.1 - b.2.1) * (a.2.1 - b.2.1) = y at *
  generalize (a.2.2 - b.2.2) * (a.2.2 - b.2.2) = z at *
  rw [wrapI (z := x) (by omega), wrapI (z := y) (by omega), wrapI (z := z) (by omega), wrapI (z := 0 + x) (by omega), wrapI (z := 0 + x + y) (by omega), wrapI (by omega)]
  omega
theorem mn_1 (x y : Int) : mnI x y ≤ x := by unfold mnI; split <;> omega
theorem mn_2 (x y : Int) : mnI x y ≤ y := by unfold mnI; split <;> omega
theorem mn_or (x y : Int) : mnI x y = x ∨ mnI x y = y := by unfold mnI; split <;> simp
theorem body_in {st : Int} {L : List Bd} (h : rightV st L = true) {b : Bd} (hb : b ∈ L) : wth b.1 1048576 = true := by
  have := (rightV_iff.1 h).2.2 b hb
  unfold bwth at this
  rw [Bool.and_eq_true] at this
  exact this.1
theorem least6_2 (st : Int) (a b : Bd) (cap : Nat) (hc : 2 ≤ cap ∧ cap ≤ maxLen) (hr : rightV st [a, b] = true) : CallsV Try.prog (.func 6) #[sv st (slw 1 0 2 cap)] [(1, wob [a, b])] (rt (bb true)) [(1, wob [a, b])] := by
  have hl : CallsV Try.prog (.func 14) #[sv st (slw 1 0 2 cap)] [(1, wob [a, b])] (rt (tpL (leastV st [a, b]))) [(1, wob [a, b])] := at_seen (L := [a, b]) (least_at st [a, b]) (ren_sv st) rfl rfl hc.1 hc.2
  have h9 : CallsV Try.prog (.func 9) #[sv st (slw 1 0 2 cap)] [(1, wob [a, b])] (rt (bb (rightV st [a, b]))) [(1, wob [a, b])] := at_seen (L := [a, b]) (rright_at st [a, b]) (ren_sv st) rfl rfl hc.1 hc.2
  rw [hr] at h9
  unfold leastV at hl
  rw [if_pos hr] at hl
  have ia := body_in hr (b := a) (by simp)
  have ib := body_in hr (b := b) (by simp)
  have eqL : tpL (leastL (waysL [a, b])) = tp [ii (farN a.1 b.1).1, bb true] := rfl
  rw [eqL]  at hl
  rw [farN_eq ia ib] at hl
  have g0 : ∃ m, m = (lfar b.1 a.1) := ⟨_, rfl⟩
  by_cases c0 : lfar b.1 a.1 = (lfar b.1 a.1)
  · exact runF_calls mix (l6_20 st (lfar b.1 a.1) cap a b) ⟨hl, h9, decide_eq_false (show ¬ lfar b.1 a.1 < (lfar b.1 a.1) by omega), beq_iff_eq.2 c0, wakes_c, trivial⟩ rfl rfl
  exfalso
  omega
theorem least6_3 (st : Int) (a b d : Bd) (cap : Nat) (hc : 3 ≤ cap ∧ cap ≤ maxLen) (hr : rightV st [a, b, d] = true) : CallsV Try.prog (.func 6) #[sv st (slw 1 0 3 cap)] [(1, wob [a, b, d])] (rt (bb true)) [(1, wob [a, b, d])] := by
  have hl : CallsV Try.prog (.func 14) #[sv st (slw 1 0 3 cap)] [(1, wob [a, b, d])] (rt (tpL (leastV st [a, b, d]))) [(1, wob [a, b, d])] := at_seen (L := [a, b, d]) (least_at st [a, b, d]) (ren_sv st) rfl rfl hc.1 hc.2
  have h9 : CallsV Try.prog (.func 9) #[sv st (slw 1 0 3 cap)] [(1, wob [a, b, d])] (rt (bb (rightV st [a, b, d]))) [(1, wob [a, b, d])] := at_seen (L := [a, b, d]) (rright_at st [a, b, d]) (ren_sv st) rfl rfl hc.1 hc.2
  rw [hr] at h9
  unfold leastV at hl
  rw [if_pos hr] at hl
  have ia := body_in hr (b := a) (by simp)
  have ib := body_in hr (b := b) (by simp)
  have id := body_in hr (b := d) (by simp)
  have eqL : tpL (leastL (waysL [a, b, d])) = tp [ii (mnI (mnI (farN a.1 b.1).1 (farN a.1 d.1).1) (farN b.1 d.1).1), bb true] := rfl
  rw [eqL]  at hl
  rw [farN_eq ia ib] at hl
  rw [farN_eq ia id] at hl
  rw [farN_eq ib id] at hl
  have g0 : ∃ m, m = (lfar b.1 a.1) := ⟨_, rfl⟩
  have p0 := mn_1 (lfar b.1 a.1) (lfar d.1 a.1)
  have q0 := mn_2 (lfar b.1 a.1) (lfar d.1 a.1)
  have o0 := mn_or (lfar b.1 a.1) (lfar d.1 a.1)
  have p1 := mn_1 (mnI (lfar b.1 a.1) (lfar d.1 a.1)) (lfar d.1 b.1)
  have q1 := mn_2 (mnI (lfar b.1 a.1) (lfar d.1 a.1)) (lfar d.1 b.1)
  have o1 := mn_or (mnI (lfar b.1 a.1) (lfar d.1 a.1)) (lfar d.1 b.1)
  generalize hm0 : mnI (lfar b.1 a.1) (lfar d.1 a.1) = m0 at *
  generalize hm1 : mnI m0 (lfar d.1 b.1) = m1 at *
  by_cases c0 : lfar b.1 a.1 = m1
  · exact runF_calls mix (l6_30 st m1 cap a b d) ⟨hl, h9, decide_eq_false (show ¬ lfar b.1 a.1 < m1 by omega), decide_eq_false (show ¬ lfar d.1 a.1 < m1 by omega), beq_iff_eq.2 c0, decide_eq_false (show ¬ lfar d.1 b.1 < m1 by omega), wakes_c, trivial⟩ rfl rfl
  by_cases c1 : lfar d.1 a.1 = m1
  · exact runF_calls mix (l6_31 st m1 cap a b d) ⟨hl, h9, decide_eq_false (show ¬ lfar b.1 a.1 < m1 by omega), decide_eq_false (show ¬ lfar d.1 a.1 < m1 by omega), beq_eq_false_iff_ne.2 c0, decide_eq_false (show ¬ lfar d.1 b.1 < m1 by omega), beq_iff_eq.2 c1, wakes_c, trivial⟩ rfl rfl
  by_cases c2 : lfar d.1 b.1 = m1
  · exact runF_calls mix (l6_32 st m1 cap a b d) ⟨hl, h9, decide_eq_false (show ¬ lfar b.1 a.1 < m1 by omega), decide_eq_false (show ¬ lfar d.1 a.1 < m1 by omega), beq_eq_false_iff_ne.2 c0, decide_eq_false (show ¬ lfar d.1 b.1 < m1 by omega), beq_eq_false_iff_ne.2 c1, beq_iff_eq.2 c2, wakes_c, trivial⟩ rfl rfl
  exfalso
  omega
theorem least6_4 (st : Int) (a b d e : Bd) (cap : Nat) (hc : 4 ≤ cap ∧ cap ≤ maxLen) (hr : rightV st [a, b, d, e] = true) : CallsV Try.prog (.func 6) #[sv st (slw 1 0 4 cap)] [(1, wob [a, b, d, e])] (rt (bb true)) [(1, wob [a, b, d, e])] := by
  have hl : CallsV Try.prog (.func 14) #[sv st (slw 1 0 4 cap)] [(1, wob [a, b, d, e])] (rt (tpL (leastV st [a, b, d, e]))) [(1, wob [a, b, d, e])] := at_seen (L := [a, b, d, e]) (least_at st [a, b, d, e]) (ren_sv st) rfl rfl hc.1 hc.2
  have h9 : CallsV Try.prog (.func 9) #[sv st (slw 1 0 4 cap)] [(1, wob [a, b, d, e])] (rt (bb (rightV st [a, b, d, e]))) [(1, wob [a, b, d, e])] := at_seen (L := [a, b, d, e]) (rright_at st [a, b, d, e]) (ren_sv st) rfl rfl hc.1 hc.2
  rw [hr] at h9
  unfold leastV at hl
  rw [if_pos hr] at hl
  have ia := body_in hr (b := a) (by simp)
  have ib := body_in hr (b := b) (by simp)
  have id := body_in hr (b := d) (by simp)
  have ie := body_in hr (b := e) (by simp)
  have eqL : tpL (leastL (waysL [a, b, d, e])) = tp [ii (mnI (mnI (mnI (mnI (mnI (farN a.1 b.1).1 (farN a.1 d.1).1) (farN a.1 e.1).1) (farN b.1 d.1).1) (farN b.1 e.1).1) (farN d.1 e.1).1), bb true] := rfl
  rw [eqL]  at hl
  rw [farN_eq ia ib] at hl
  rw [farN_eq ia id] at hl
  rw [farN_eq ia ie] at hl
  rw [farN_eq ib id] at hl
  rw [farN_eq ib ie] at hl
  rw [farN_eq id ie] at hl
  have g0 : ∃ m, m = (lfar b.1 a.1) := ⟨_, rfl⟩
  have p0 := mn_1 (lfar b.1 a.1) (lfar d.1 a.1)
  have q0 := mn_2 (lfar b.1 a.1) (lfar d.1 a.1)
  have o0 := mn_or (lfar b.1 a.1) (lfar d.1 a.1)
  have p1 := mn_1 (mnI (lfar b.1 a.1) (lfar d.1 a.1)) (lfar e.1 a.1)
  have q1 := mn_2 (mnI (lfar b.1 a.1) (lfar d.1 a.1)) (lfar e.1 a.1)
  have o1 := mn_or (mnI (lfar b.1 a.1) (lfar d.1 a.1)) (lfar e.1 a.1)
  have p2 := mn_1 (mnI (mnI (lfar b.1 a.1) (lfar d.1 a.1)) (lfar e.1 a.1)) (lfar d.1 b.1)
  have q2 := mn_2 (mnI (mnI (lfar b.1 a.1) (lfar d.1 a.1)) (lfar e.1 a.1)) (lfar d.1 b.1)
  have o2 := mn_or (mnI (mnI (lfar b.1 a.1) (lfar d.1 a.1)) (lfar e.1 a.1)) (lfar d.1 b.1)
  have p3 := mn_1 (mnI (mnI (mnI (lfar b.1 a.1) (lfar d.1 a.1)) (lfar e.1 a.1)) (lfar d.1 b.1)) (lfar e.1 b.1)
  have q3 := mn_2 (mnI (mnI (mnI (lfar b.1 a.1) (lfar d.1 a.1)) (lfar e.1 a.1)) (lfar d.1 b.1)) (lfar e.1 b.1)
  have o3 := mn_or (mnI (mnI (mnI (lfar b.1 a.1) (lfar d.1 a.1)) (lfar e.1 a.1)) (lfar d.1 b.1)) (lfar e.1 b.1)
  have p4 := mn_1 (mnI (mnI (mnI (mnI (lfar b.1 a.1) (lfar d.1 a.1)) (lfar e.1 a.1)) (lfar d.1 b.1)) (lfar e.1 b.1)) (lfar e.1 d.1)
  have q4 := mn_2 (mnI (mnI (mnI (mnI (lfar b.1 a.1) (lfar d.1 a.1)) (lfar e.1 a.1)) (lfar d.1 b.1)) (lfar e.1 b.1)) (lfar e.1 d.1)
  have o4 := mn_or (mnI (mnI (mnI (mnI (lfar b.1 a.1) (lfar d.1 a.1)) (lfar e.1 a.1)) (lfar d.1 b.1)) (lfar e.1 b.1)) (lfar e.1 d.1)
  generalize hm0 : mnI (lfar b.1 a.1) (lfar d.1 a.1) = m0 at *
  generalize hm1 : mnI m0 (lfar e.1 a.1) = m1 at *
  generalize hm2 : mnI m1 (lfar d.1 b.1) = m2 at *
  generalize hm3 : mnI m2 (lfar e.1 b.1) = m3 at *
  generalize hm4 : mnI m3 (lfar e.1 d.1) = m4 at *
  by_cases c0 : lfar b.1 a.1 = m4
  · exact runF_calls mix (l6_40 st m4 cap a b d e) ⟨hl, h9, decide_eq_false (show ¬ lfar b.1 a.1 < m4 by omega), decide_eq_false (show ¬ lfar d.1 a.1 < m4 by omega), beq_iff_eq.2 c0, decide_eq_false (show ¬ lfar d.1 b.1 < m4 by omega), decide_eq_false (show ¬ lfar e.1 a.1 < m4 by omega), decide_eq_false (show ¬ lfar e.1 b.1 < m4 by omega), decide_eq_false (show ¬ lfar e.1 d.1 < m4 by omega), wakes_c, trivial⟩ rfl rfl
  by_cases c1 : lfar d.1 a.1 = m4
  · exact runF_calls mix (l6_41 st m4 cap a b d e) ⟨hl, h9, decide_eq_false (show ¬ lfar b.1 a.1 < m4 by omega), decide_eq_false (show ¬ lfar d.1 a.1 < m4 by omega), beq_eq_false_iff_ne.2 c0, decide_eq_false (show ¬ lfar d.1 b.1 < m4 by omega), beq_iff_eq.2 c1, decide_eq_false (show ¬ lfar e.1 a.1 < m4 by omega), decide_eq_false (show ¬ lfar e.1 b.1 < m4 by omega), decide_eq_false (show ¬ lfar e.1 d.1 < m4 by omega), wakes_c, trivial⟩ rfl rfl
  by_cases c2 : lfar d.1 b.1 = m4
  · exact runF_calls mix (l6_42 st m4 cap a b d e) ⟨hl, h9, decide_eq_false (show ¬ lfar b.1 a.1 < m4 by omega), decide_eq_false (show ¬ lfar d.1 a.1 < m4 by omega), beq_eq_false_iff_ne.2 c0, decide_eq_false (show ¬ lfar d.1 b.1 < m4 by omega), beq_eq_false_iff_ne.2 c1, decide_eq_false (show ¬ lfar e.1 a.1 < m4 by omega), beq_iff_eq.2 c2, decide_eq_false (show ¬ lfar e.1 b.1 < m4 by omega), decide_eq_false (show ¬ lfar e.1 d.1 < m4 by omega), wakes_c, trivial⟩ rfl rfl
  by_cases c3 : lfar e.1 a.1 = m4
  · exact runF_calls mix (l6_43 st m4 cap a b d e) ⟨hl, h9, decide_eq_false (show ¬ lfar b.1 a.1 < m4 by omega), decide_eq_false (show ¬ lfar d.1 a.1 < m4 by omega), beq_eq_false_iff_ne.2 c0, decide_eq_false (show ¬ lfar d.1 b.1 < m4 by omega), beq_eq_false_iff_ne.2 c1, decide_eq_false (show ¬ lfar e.1 a.1 < m4 by omega), beq_eq_false_iff_ne.2 c2, decide_eq_false (show ¬ lfar e.1 b.1 < m4 by omega), beq_iff_eq.2 c3, decide_eq_false (show ¬ lfar e.1 d.1 < m4 by omega), wakes_c, trivial⟩ rfl rfl
  by_cases c4 : lfar e.1 b.1 = m4
  · exact runF_calls mix (l6_44 st m4 cap a b d e) ⟨hl, h9, decide_eq_false (show ¬ lfar b.1 a.1 < m4 by omega), decide_eq_false (show ¬ lfar d.1 a.1 < m4 by omega), beq_eq_false_iff_ne.2 c0, decide_eq_false (show ¬ lfar d.1 b.1 < m4 by omega), beq_eq_false_iff_ne.2 c1, decide_eq_false (show ¬ lfar e.1 a.1 < m4 by omega), beq_eq_false_iff_ne.2 c2, decide_eq_false (show ¬ lfar e.1 b.1 < m4 by omega), beq_eq_false_iff_ne.2 c3, decide_eq_false (show ¬ lfar e.1 d.1 < m4 by omega), beq_iff_eq.2 c4, wakes_c, trivial⟩ rfl rfl
  by_cases c5 : lfar e.1 d.1 = m4
  · exact runF_calls mix (l6_45 st m4 cap a b d e) ⟨hl, h9, decide_eq_false (show ¬ lfar b.1 a.1 < m4 by omega), decide_eq_false (show ¬ lfar d.1 a.1 < m4 by omega), beq_eq_false_iff_ne.2 c0, decide_eq_false (show ¬ lfar d.1 b.1 < m4 by omega), beq_eq_false_iff_ne.2 c1, decide_eq_false (show ¬ lfar e.1 a.1 < m4 by omega), beq_eq_false_iff_ne.2 c2, decide_eq_false (show ¬ lfar e.1 b.1 < m4 by omega), beq_eq_false_iff_ne.2 c3, decide_eq_false (show ¬ lfar e.1 d.1 < m4 by omega), beq_eq_false_iff_ne.2 c4, beq_iff_eq.2 c5, wakes_c, trivial⟩ rfl rfl
  exfalso
  omega
/-- The law, of a list that lies in a window. -/
theorem least6_at (st : Int) (L : List Bd) : AtW Try.prog 6 (fun s => #[sv st s]) L (bb true) := by
  cases hr : rightV st L
  · refine at_of_win (ren_sv st) rfl (fun off cap hl hc => ?_)
    by_cases k1 : 9 < (L.length : Int)
    · exact runF_calls mix (l6_a st off L.length cap _) ⟨decide_eq_true k1, wakes_c, trivial⟩ rfl rfl
    have w1 := at_chan (least_at st L) (ren_sv st) rfl (H := HWb off L) (k := 1) rfl hl hc
    have w2 := at_chan (rright_at st L) (ren_sv st) rfl (H := HWb off L) (k := 1) rfl hl hc
    unfold leastV at w1
    rw [hr] at w1 w2
    rw [if_neg (by decide)] at w1
    exact runF_calls mix (l6_b st off L.length cap _) ⟨decide_eq_false k1, w1, w2, wakes_c, trivial⟩ rfl rfl
  · have hr' := rightV_iff.1 hr
    match L, hr, hr' with
    | [a], hr, _ =>
      refine at_of_win (ren_sv st) rfl (fun off cap hl hc => ?_)
      have w1 := at_chan (least_at st [a]) (ren_sv st) rfl (H := HWb off [a]) (k := 1) rfl hl hc
      have w2 := at_chan (rright_at st [a]) (ren_sv st) rfl (H := HWb off [a]) (k := 1) rfl hl hc
      unfold leastV at w1
      rw [hr] at w1 w2
      rw [if_pos rfl] at w1
      exact runF_calls mix (l6_c st off 1 cap _) ⟨rfl, w1, w2, rfl, wakes_c, trivial⟩ rfl rfl
    | [a, b], hr, _ => exact at_of_seen (ren_sv st) rfl (fun cap hl hc => least6_2 st a b cap ⟨hl, hc⟩ hr)
    | [a, b, d], hr, _ => exact at_of_seen (ren_sv st) rfl (fun cap hl hc => least6_3 st a b d cap ⟨hl, hc⟩ hr)
    | [a, b, d, e], hr, _ => exact at_of_seen (ren_sv st) rfl (fun cap hl hc => least6_4 st a b d e cap ⟨hl, hc⟩ hr)
    | [], _, h => exact absurd h.2.1.1 (by decide)
    | _ :: _ :: _ :: _ :: _ :: r, _, h => exact absurd h.2.1.2 (by simp)
theorem least6_nil (st : Int) : PureX Try.prog 6 #[sv st sl0] (rt (bb true)) := runF_pure mix (l6_nil st) ⟨least_nil st, rright_nil st, wakes_c, trivial⟩ rfl rfl
end Go.Proofs.Ytmikjgflenbljaa
