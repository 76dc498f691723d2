/- Texts of the seat, joined. -/
import Derived.Test.YtpllklojcjhjaaaZz31
import Derived.Test.YtpllklojcjhjaaaZz25
import Derived.Test.YtpllklojcjhjaaaZz26
import Derived.Test.YtpllklojcjhjaaaZz27
import Derived.Test.YtpllklojcjhjaaaZz28
import Derived.Test.YtpllklojcjhjaaaZz29
import Derived.Test.YtpllklojcjhjaaaZz30
/- NearExact: its loop. -/
namespace Go.Proofs.Ytpllklojcjhjaaa
open Go Go.RowKit
set_option linter.unusedSimpArgs false
set_option linter.unusedVariables false
set_option maxRecDepth 100000

theorem exb_all (st g bx to nr me : Int) (M : List Int) (L : List Bd)
    (go : M ≠ [] → chk (whyL M g bx to nr me) = 0 → rightV st L = true → SemB KI KB Try.prog 3 (fun s s' => #[cv s g bx to nr me, sv st s']) M L (bb true)) : SemB KI KB Try.prog 3 (fun s s' => #[cv s g bx to nr me, sv st s']) M L (bb true) := by
  have hcs := fun (off cap : Nat) (hl : M.length ≤ cap) (hc' : cap ≤ maxLen) (p : Int) (hp : chk (whyL M g bx to nr me) = p) => sem1_calls (dchk_p g bx to nr me p M hp) (ren_cv g bx to nr me) rfl (H := [(1, win off (cwx fl1 off M))]) (s := slw 1 off M.length cap) (fun β w hR => ll_win hR rfl hl hc')
  have ra := ren_cs st g bx to nr me
  rcases chk_01 (whyL M g bx to nr me) with h0 | h0
  · have hM : M ≠ [] := fun e => nil_not_ok (e ▸ h0)
    cases h : rightV st L
    · refine semB_law false false ra rfl (fun e => absurd e hM) (fun e => absurd e hM) (fun e off cap hl hc => ⟨[], ?_⟩) (fun off cap off' cap' hl hc hl' hc' => ⟨[], ?_⟩)
      · exact runF_calls mix (exb_rn st off M.length cap 0 0 0 (cwx fl1 off M) #[] g bx to nr me) ⟨hcs off cap hl hc 0 h0, rright_nil st, wakes_c, trivial⟩ rfl rfl
      · exact runF_calls mix (exb_rw st off M.length cap off' L.length cap' (cwx fl1 off M) (cwx KB.fl off' L) g bx to nr me) ⟨hcs off cap hl hc 0 h0, rright_c h (H := [(2, KB.win off' L)]) (s := slw 2 off' L.length cap') (fun β w hR => lk_win (K := KB) hR rfl hl' hc'), wakes_c, trivial⟩ rfl rfl
    · exact go hM h0 h
  · refine semB_law false false ra rfl (fun e e' => ?_) (fun e off cap hl hc => ⟨[], ?_⟩) (fun e off cap hl hc => ⟨[], ?_⟩) (fun off cap off' cap' hl hc hl' hc' => ⟨[], ?_⟩)
    · exact runF_pure mix (exb_nn st 0 0 0 0 0 0 #[] #[] g bx to nr me) ⟨chk_nil16 g bx to nr me, wakes_c, trivial⟩ rfl rfl
    · exact runF_calls mix (exb_nw st 0 0 0 off L.length cap #[] (cwx KB.fl off L) g bx to nr me) ⟨chk_nil16 g bx to nr me, wakes_c, trivial⟩ rfl rfl
    · exact runF_calls mix (exb_wn st off M.length cap 0 0 0 (cwx fl1 off M) #[] g bx to nr me) ⟨hcs off cap hl hc 110 h0, wakes_c, trivial⟩ rfl rfl
    · exact runF_calls mix (exb_ww st off M.length cap off' L.length cap' (cwx fl1 off M) (cwx KB.fl off' L) g bx to nr me) ⟨hcs off cap hl hc 110 h0, wakes_c, trivial⟩ rfl rfl
/-- What a pair of a state that may be is. -/
theorem prs_mem {st : Int} {L : List Bd} (h : rightV st L = true) : ∀ p ∈ prsL L, ∃ (I J : Nat) (a b : Bd), p = ((I : Int), (J : Int), sqd a.1 b.1) ∧ I < J ∧ J < L.length ∧ L[I]? = some a ∧ L[J]? = some b ∧ wth a.1 1048576 = true ∧ wth b.1 1048576 = true := by
  obtain ⟨-, ⟨h1, h4⟩, hb⟩ := rightV_iff.1 h
  have hw : ∀ x ∈ L, wth x.1 1048576 = true := fun x hx => by
    have := hb x hx
    unfold bwth at this
    rw [Bool.and_eq_true] at this
    exact this.1
  rcases shapes h1 h4 with ⟨a, rfl⟩ | ⟨a, b, rfl⟩ | ⟨a, b, d, rfl⟩ | ⟨a, b, d, e, rfl⟩
  · intro p hp; simp [prsL] at hp
  · intro p hp
    simp only [prsL, List.mem_cons, List.not_mem_nil, or_false] at hp
    rcases hp with rfl
    · exact ⟨0, 1, a, b, rfl, by decide, by simp, rfl, rfl, hw a (by simp), hw b (by simp)⟩
  · intro p hp
    simp only [prsL, List.mem_cons, List.not_mem_nil, or_false] at hp
    rcases hp with rfl | rfl | rfl
    · exact ⟨0, 1, a, b, rfl, by decide, by simp, rfl, rfl, hw a (by simp), hw b (by simp)⟩
    · exact ⟨0, 2, a, d, rfl, by decide, by simp, rfl, rfl, hw a (by simp), hw d (by simp)⟩
    · exact ⟨1, 2, b, d, rfl, by decide, by simp, rfl, rfl, hw b (by simp), hw d (by simp)⟩
  · intro p hp
    simp only [prsL, List.mem_cons, List.not_mem_nil, or_false] at hp
    rcases hp with rfl | rfl | rfl | rfl | rfl | rfl
    · exact ⟨0, 1, a, b, rfl, by decide, by simp, rfl, rfl, hw a (by simp), hw b (by simp)⟩
    · exact ⟨0, 2, a, d, rfl, by decide, by simp, rfl, rfl, hw a (by simp), hw d (by simp)⟩
    · exact ⟨0, 3, a, e, rfl, by decide, by simp, rfl, rfl, hw a (by simp), hw e (by simp)⟩
    · exact ⟨1, 2, b, d, rfl, by decide, by simp, rfl, rfl, hw b (by simp), hw d (by simp)⟩
    · exact ⟨1, 3, b, e, rfl, by decide, by simp, rfl, rfl, hw b (by simp), hw e (by simp)⟩
    · exact ⟨2, 3, d, e, rfl, by decide, by simp, rfl, rfl, hw d (by simp), hw e (by simp)⟩
theorem sqW_eq {a b : P3} (ha : wth a 1048576 = true) (hb : wth b 1048576 = true) : sqW a.1 a.2.1 a.2.2 b.1 b.2.1 b.2.2 = sqd a b := by
  rw [wth_iff] at ha hb
  have e1 : wi (a.1 - b.1) = a.1 - b.1 := wrapI ⟨by omega, by omega⟩
  have e2 : wi (a.2.1 - b.2.1) = a.2.1 - b.2.1 := wrapI ⟨by omega, by omega⟩
  have e3 : wi (a.2.2 - b.2.2) = a.2.2 - b.2.2 := wrapI ⟨by omega, by omega⟩
  have h1 := sqx_le (d := a.1 - b.1) (by omega) (by omega)
  have h2 := sqx_le (d := a.2.1 - b.2.1) (by omega) (by omega)
  have h3 := sqx_le (d := a.2.2 - b.2.2) (by omega) (by omega)
  unfold sqW sqd
  rw [e1, e2, e3]
  generalize (a.1 - b.1) * (a.1 - b.1) = x at *
  generalize (a.2.1 - b.2.1) * (a.2.1 - b.2.1) = y at *
  generalize (a.2.2 - b.2.2) * (a.2.2 - b.2.2) = z at *
  have w1 : wi x = x := wrapI ⟨by omega, by omega⟩
  have w2 : wi y = y := wrapI ⟨by omega, by omega⟩
  have w3 : wi z = z := wrapI ⟨by omega, by omega⟩
  rw [w1, w2, w3, Int.zero_add, w1, show wi (x + y) = x + y from wrapI ⟨by omega, by omega⟩, show wi (x + y + z) = x + y + z from wrapI ⟨by omega, by omega⟩]
theorem near_low {q nr : Int} (h0 : 0 ≤ q) (h1 : q < 9223372036854775808) (hn : 0 ≤ nr) (hn2 : nr ≤ 2097152) : decide (q < wi (nr * nr)) = decide (lowW q < nr) := by
  obtain ⟨l1, l2, l3, l4⟩ := low_spec h0 h1
  have hs := sqx_le (d := nr) (by omega) hn2
  have ew : wi (nr * nr) = nr * nr := wrapI ⟨by omega, by omega⟩
  rw [ew]
  generalize lowW q = m at *
  by_cases h : m < nr
  · rw [decide_eq_true h]
    have : (m + 1) * (m + 1) ≤ nr * nr := Int.mul_le_mul (by omega) (by omega) (by omega) hn
    exact decide_eq_true (by omega)
  · rw [decide_eq_false h]
    have : nr * nr ≤ m * m := Int.mul_le_mul (by omega) (by omega) hn l1
    exact decide_eq_false (by omega)
theorem flat3_take {R : List Pr} {i : Nat} {p : Pr} (h : R[i]? = some p) : List.take 3 (List.drop (0 + (i : Int).toNat * 3) (R.flatMap fl3)) = fl3 p := by
  rw [Nat.zero_add, Int.toNat_natCast]
  induction R generalizing i with
  | nil => simp at h
  | cons y r ih =>
    cases i with
    | zero =>
      simp only [List.getElem?_cons_zero, Option.some.injEq] at h
      subst h
      rfl
    | succ i =>
      rw [List.getElem?_cons_succ] at h
      have := ih h
      rw [List.flatMap_cons, show (i + 1) * 3 = 3 + i * 3 by omega, ← List.drop_drop]
      exact this
/-- The blocks, with the pairs' own ones. -/
def Hbx (base : Hp) : List Pr → Hp
  | [] => base
  | p :: r => (4000 + 100 * r.length, boxP p) :: Hbx base r
section
variable (o1 m1 cap1 o2 cap2 : Nat) (c : Array Value) (st g bx to nr me : Int) (C S : Value) (L : List Bd) (R R2 : List Pr)
abbrev bas2 : Hp := [(7, KP.opq R2), (6, KP.opq R), (5001, stO st (slw 2 o2 L.length cap2)), (5000, cfO (slw 1 o1 m1 cap1) g bx to nr me), (2, win o2 (cwx KB.fl o2 L)), (1, win o1 c)]
abbrev bas1 : Hp := [(6, KP.opq R), (5001, stO st (slw 2 o2 L.length cap2)), (5000, cfO (slw 1 o1 m1 cap1) g bx to nr me), (2, win o2 (cwx KB.fl o2 L)), (1, win o1 c)]
end
/-- What is owed for a pair. -/
theorem rnd_ok {st : Int} {L : List Bd} (hL : rightV st L = true) {R : List Pr} {i : Nat} {p : Pr} (hi : R[i]? = some p) (hp : p ∈ prsL L) (o2 : Nat) (N : List Prop) (hN : AllP N) :
    ∃ x0 x1 x2 y0 y1 y2 : Int, (lowW p.2.2 * lowW p.2.2 = p.2.2 → AllP (rndO R L.length o2 (cwx KB.fl o2 L) i p (lowW p.2.2) (highW p.2.2) x0 x1 x2 y0 y1 y2 (rndE (lowW p.2.2) (highW p.2.2) (sqW x0 x1 x2 y0 y1 y2)) N)) ∧
      (lowW p.2.2 * lowW p.2.2 ≠ p.2.2 → AllP (rndO R L.length o2 (cwx KB.fl o2 L) i p (lowW p.2.2) (highW p.2.2) x0 x1 x2 y0 y1 y2 (rndX (lowW p.2.2) (highW p.2.2) (sqW x0 x1 x2 y0 y1 y2)) N)) := by
  obtain ⟨I, J, a, b, rfl, hIJ, hJ, ha, hb, wa, wb⟩ := prs_mem hL p hp
  refine ⟨a.1.1, a.1.2.1, a.1.2.2, b.1.1, b.1.2.1, b.1.2.2, ?_, ?_⟩ <;> intro hsq
  all_goals
    have hlt := (List.getElem?_eq_some_iff.1 hi).1
    obtain ⟨q0, q1⟩ := sqd_in wa wb
    have hway := way_v (I : Int) (J : Int) (q := sqd a.1 b.1) ⟨by omega, by omega⟩
    obtain ⟨l1, l2, l3, l4⟩ := low_spec (q := sqd a.1 b.1) q0 (by omega)
    have hh := high_spec (q := sqd a.1 b.1) q0
    have es := sqW_eq wa wb
    simp only at hsq
    unfold rndO
    rw [es]
    have ca : ∀ j, j < 6 → (cwx KB.fl o2 L)[o2 + ((I : Int)).toNat * 6 + j]? = (fl6 a)[j]? := fun j hj => by rw [Int.toNat_natCast]; exact cwb_at o2 ha j hj
    have cb : ∀ j, j < 6 → (cwx KB.fl o2 L)[o2 + ((J : Int)).toNat * 6 + j]? = (fl6 b)[j]? := fun j hj => by rw [Int.toNat_natCast]; exact cwb_at o2 hb j hj
    have hIl : 0 ≤ (I : Int) ∧ (I : Int) < (L.length : Int) := by omega
    have hJl : 0 ≤ (J : Int) ∧ (J : Int) < (L.length : Int) := by omega
    simp only at hway ⊢
    generalize sqd a.1 b.1 = q at *
    generalize hlw : lowW q = m at *
    have hmm0 : 0 ≤ m * m := Int.mul_nonneg l1 l1
    have em : wi (m * m) = m * m := wrapI ⟨by omega, by omega⟩
    have em1 : wi (m + 1) = m + 1 := wrapI ⟨by omega, by omega⟩
  · have hm : (m + 1) * (m + 1) ≥ 0 := Int.mul_nonneg (by omega) (by omega)
    rw [if_pos hsq] at hh
    rw [hh] at hway ⊢
    exact ⟨decide_eq_true (by omega), ⟨by omega, by omega⟩, flat3_take hi, hway, decide_eq_false (by omega), decide_eq_false (by omega), decide_eq_false (by omega), decide_eq_false (by omega), decide_eq_false (by omega), decide_eq_false (by rw [em1]; omega),
      hIl, Nat.le_add_right _ _, ca 0 (by decide), hJl, Nat.le_add_right _ _, cb 0 (by decide), hIl, by omega, ca 1 (by decide), hJl, by omega, cb 1 (by decide), hIl, by omega, ca 2 (by decide), hJl, by omega, cb 2 (by decide),
      bne_self_eq_false _, decide_eq_false (by rw [em]; omega), decide_eq_false (by rw [em]; omega), beq_self_eq_true _, by rw [em, hsq]; exact bne_self_eq_false _, decide_eq_false (by omega), hN⟩
  · rw [if_neg hsq] at hh
    rw [hh] at hway ⊢
    have hm2 : m * m + 2 * m + 1 = (m + 1) * (m + 1) := by grind
    have eh : wi ((m + 1) * (m + 1)) = (m + 1) * (m + 1) := by
      have : m ≤ 4194304 := by
        by_cases h : m ≤ 4194304
        · exact h
        · have : 4194304 * 4194304 ≤ m * m := Int.mul_le_mul (by omega) (by omega) (by decide) l1
          omega
      rw [← hm2]
      exact wrapI ⟨by omega, by omega⟩
    exact ⟨decide_eq_true (by omega), ⟨by omega, by omega⟩, flat3_take hi, hway, decide_eq_false (by omega), decide_eq_false (by omega), decide_eq_false (by omega), decide_eq_false (by omega), decide_eq_false (by omega), decide_eq_false (by rw [em1]; omega),
      hIl, Nat.le_add_right _ _, ca 0 (by decide), hJl, Nat.le_add_right _ _, cb 0 (by decide), hIl, by omega, ca 1 (by decide), hJl, by omega, cb 1 (by decide), hIl, by omega, ca 2 (by decide), hJl, by omega, cb 2 (by decide),
      bne_self_eq_false _, decide_eq_false (by rw [em]; omega), decide_eq_false (by rw [eh]; omega), beq_eq_false_iff_ne.2 (by omega), decide_eq_true (by omega), by rw [eh]; exact beq_eq_false_iff_ne.2 (by omega), hN⟩
section
variable {o1 m1 cap1 o2 cap2 : Nat} {c : Array Value} {st g bx to nr me : Int} {C S : Value} {L : List Bd} {R R2 : List Pr}
theorem st_eA (bs : List Pr) (hbs : bs.length ≤ 5) (X : Nat → Value) (i k : Int) (p p2 : Pr) (lo hi x0 x1 x2 y0 y1 y2 : Int)
    (ho : AllP (rndO R L.length o2 (cwx KB.fl o2 L) i p lo hi x0 x1 x2 y0 y1 y2 (rndE lo hi (sqW x0 x1 x2 y0 y1 y2)) (rndA R2 k lo nr p p2 true))) :
    ∃ Y, StepV Try.prog L3 (FV C S (slw 6 0 R.length capU) (slw 7 0 R2.length capU) (ii k) (ii i) X) [] (Hbx (bas2 o1 m1 cap1 o2 cap2 c st g bx to nr me L R R2) bs) .normal (FV C S (slw 6 0 R.length capU) (slw 7 0 R2.length capU) (ii (wi (k + 1))) (ii (wi (i + 1))) Y) [] (Hbx (bas2 o1 m1 cap1 o2 cap2 c st g bx to nr me L R R2) (p :: bs)) := by
  match bs, hbs with
  | [], _ =>
    obtain ⟨Y, hY⟩ := r0_eA o1 m1 cap1 o2 L.length cap2 c (cwx KB.fl o2 L) st g bx to nr me C S R R2 X i k p p2 lo hi x0 x1 x2 y0 y1 y2
    exact ⟨Y, runLS_step mix hY ho⟩
  | [u0], _ =>
    obtain ⟨Y, hY⟩ := r1_eA o1 m1 cap1 o2 L.length cap2 c (cwx KB.fl o2 L) st g bx to nr me C S R R2 X i k p p2 lo hi x0 x1 x2 y0 y1 y2 (boxP u0)
    exact ⟨Y, runLS_step mix hY ho⟩
  | [u1, u0], _ =>
    obtain ⟨Y, hY⟩ := r2_eA o1 m1 cap1 o2 L.length cap2 c (cwx KB.fl o2 L) st g bx to nr me C S R R2 X i k p p2 lo hi x0 x1 x2 y0 y1 y2 (boxP u0) (boxP u1)
    exact ⟨Y, runLS_step mix hY ho⟩
  | [u2, u1, u0], _ =>
    obtain ⟨Y, hY⟩ := r3_eA o1 m1 cap1 o2 L.length cap2 c (cwx KB.fl o2 L) st g bx to nr me C S R R2 X i k p p2 lo hi x0 x1 x2 y0 y1 y2 (boxP u0) (boxP u1) (boxP u2)
    exact ⟨Y, runLS_step mix hY ho⟩
  | [u3, u2, u1, u0], _ =>
    obtain ⟨Y, hY⟩ := r4_eA o1 m1 cap1 o2 L.length cap2 c (cwx KB.fl o2 L) st g bx to nr me C S R R2 X i k p p2 lo hi x0 x1 x2 y0 y1 y2 (boxP u0) (boxP u1) (boxP u2) (boxP u3)
    exact ⟨Y, runLS_step mix hY ho⟩
  | [u4, u3, u2, u1, u0], _ =>
    obtain ⟨Y, hY⟩ := r5_eA o1 m1 cap1 o2 L.length cap2 c (cwx KB.fl o2 L) st g bx to nr me C S R R2 X i k p p2 lo hi x0 x1 x2 y0 y1 y2 (boxP u0) (boxP u1) (boxP u2) (boxP u3) (boxP u4)
    exact ⟨Y, runLS_step mix hY ho⟩
  | _ :: _ :: _ :: _ :: _ :: _ :: _, h => simp only [List.length_cons] at h; omega
theorem st_xA (bs : List Pr) (hbs : bs.length ≤ 5) (X : Nat → Value) (i k : Int) (p p2 : Pr) (lo hi x0 x1 x2 y0 y1 y2 : Int)
    (ho : AllP (rndO R L.length o2 (cwx KB.fl o2 L) i p lo hi x0 x1 x2 y0 y1 y2 (rndX lo hi (sqW x0 x1 x2 y0 y1 y2)) (rndA R2 k lo nr p p2 true))) :
    ∃ Y, StepV Try.prog L3 (FV C S (slw 6 0 R.length capU) (slw 7 0 R2.length capU) (ii k) (ii i) X) [] (Hbx (bas2 o1 m1 cap1 o2 cap2 c st g bx to nr me L R R2) bs) .normal (FV C S (slw 6 0 R.length capU) (slw 7 0 R2.length capU) (ii (wi (k + 1))) (ii (wi (i + 1))) Y) [] (Hbx (bas2 o1 m1 cap1 o2 cap2 c st g bx to nr me L R R2) (p :: bs)) := by
  match bs, hbs with
  | [], _ =>
    obtain ⟨Y, hY⟩ := r0_xA o1 m1 cap1 o2 L.length cap2 c (cwx KB.fl o2 L) st g bx to nr me C S R R2 X i k p p2 lo hi x0 x1 x2 y0 y1 y2
    exact ⟨Y, runLS_step mix hY ho⟩
  | [u0], _ =>
    obtain ⟨Y, hY⟩ := r1_xA o1 m1 cap1 o2 L.length cap2 c (cwx KB.fl o2 L) st g bx to nr me C S R R2 X i k p p2 lo hi x0 x1 x2 y0 y1 y2 (boxP u0)
    exact ⟨Y, runLS_step mix hY ho⟩
  | [u1, u0], _ =>
    obtain ⟨Y, hY⟩ := r2_xA o1 m1 cap1 o2 L.length cap2 c (cwx KB.fl o2 L) st g bx to nr me C S R R2 X i k p p2 lo hi x0 x1 x2 y0 y1 y2 (boxP u0) (boxP u1)
    exact ⟨Y, runLS_step mix hY ho⟩
  | [u2, u1, u0], _ =>
    obtain ⟨Y, hY⟩ := r3_xA o1 m1 cap1 o2 L.length cap2 c (cwx KB.fl o2 L) st g bx to nr me C S R R2 X i k p p2 lo hi x0 x1 x2 y0 y1 y2 (boxP u0) (boxP u1) (boxP u2)
    exact ⟨Y, runLS_step mix hY ho⟩
  | [u3, u2, u1, u0], _ =>
    obtain ⟨Y, hY⟩ := r4_xA o1 m1 cap1 o2 L.length cap2 c (cwx KB.fl o2 L) st g bx to nr me C S R R2 X i k p p2 lo hi x0 x1 x2 y0 y1 y2 (boxP u0) (boxP u1) (boxP u2) (boxP u3)
    exact ⟨Y, runLS_step mix hY ho⟩
  | [u4, u3, u2, u1, u0], _ =>
    obtain ⟨Y, hY⟩ := r5_xA o1 m1 cap1 o2 L.length cap2 c (cwx KB.fl o2 L) st g bx to nr me C S R R2 X i k p p2 lo hi x0 x1 x2 y0 y1 y2 (boxP u0) (boxP u1) (boxP u2) (boxP u3) (boxP u4)
    exact ⟨Y, runLS_step mix hY ho⟩
  | _ :: _ :: _ :: _ :: _ :: _ :: _, h => simp only [List.length_cons] at h; omega
theorem st_eB (bs : List Pr) (hbs : bs.length ≤ 5) (X : Nat → Value) (i k : Int) (p p2 : Pr) (lo hi x0 x1 x2 y0 y1 y2 : Int)
    (ho : AllP (rndO R L.length o2 (cwx KB.fl o2 L) i p lo hi x0 x1 x2 y0 y1 y2 (rndE lo hi (sqW x0 x1 x2 y0 y1 y2)) (rndA R2 k lo nr p p2 false))) :
    ∃ Y, StepV Try.prog L3 (FV C S (slw 6 0 R.length capU) (slw 7 0 R2.length capU) (ii k) (ii i) X) [] (Hbx (bas2 o1 m1 cap1 o2 cap2 c st g bx to nr me L R R2) bs) .normal (FV C S (slw 6 0 R.length capU) (slw 7 0 R2.length capU) (ii k) (ii (wi (i + 1))) Y) [] (Hbx (bas2 o1 m1 cap1 o2 cap2 c st g bx to nr me L R R2) (p :: bs)) := by
  match bs, hbs with
  | [], _ =>
    obtain ⟨Y, hY⟩ := r0_eB o1 m1 cap1 o2 L.length cap2 c (cwx KB.fl o2 L) st g bx to nr me C S R R2 X i k p p2 lo hi x0 x1 x2 y0 y1 y2
    exact ⟨Y, runLS_step mix hY ho⟩
  | [u0], _ =>
    obtain ⟨Y, hY⟩ := r1_eB o1 m1 cap1 o2 L.length cap2 c (cwx KB.fl o2 L) st g bx to nr me C S R R2 X i k p p2 lo hi x0 x1 x2 y0 y1 y2 (boxP u0)
    exact ⟨Y, runLS_step mix hY ho⟩
  | [u1, u0], _ =>
    obtain ⟨Y, hY⟩ := r2_eB o1 m1 cap1 o2 L.length cap2 c (cwx KB.fl o2 L) st g bx to nr me C S R R2 X i k p p2 lo hi x0 x1 x2 y0 y1 y2 (boxP u0) (boxP u1)
    exact ⟨Y, runLS_step mix hY ho⟩
  | [u2, u1, u0], _ =>
    obtain ⟨Y, hY⟩ := r3_eB o1 m1 cap1 o2 L.length cap2 c (cwx KB.fl o2 L) st g bx to nr me C S R R2 X i k p p2 lo hi x0 x1 x2 y0 y1 y2 (boxP u0) (boxP u1) (boxP u2)
    exact ⟨Y, runLS_step mix hY ho⟩
  | [u3, u2, u1, u0], _ =>
    obtain ⟨Y, hY⟩ := r4_eB o1 m1 cap1 o2 L.length cap2 c (cwx KB.fl o2 L) st g bx to nr me C S R R2 X i k p p2 lo hi x0 x1 x2 y0 y1 y2 (boxP u0) (boxP u1) (boxP u2) (boxP u3)
    exact ⟨Y, runLS_step mix hY ho⟩
  | [u4, u3, u2, u1, u0], _ =>
    obtain ⟨Y, hY⟩ := r5_eB o1 m1 cap1 o2 L.length cap2 c (cwx KB.fl o2 L) st g bx to nr me C S R R2 X i k p p2 lo hi x0 x1 x2 y0 y1 y2 (boxP u0) (boxP u1) (boxP u2) (boxP u3) (boxP u4)
    exact ⟨Y, runLS_step mix hY ho⟩
  | _ :: _ :: _ :: _ :: _ :: _ :: _, h => simp only [List.length_cons] at h; omega
theorem st_xB (bs : List Pr) (hbs : bs.length ≤ 5) (X : Nat → Value) (i k : Int) (p p2 : Pr) (lo hi x0 x1 x2 y0 y1 y2 : Int)
    (ho : AllP (rndO R L.length o2 (cwx KB.fl o2 L) i p lo hi x0 x1 x2 y0 y1 y2 (rndX lo hi (sqW x0 x1 x2 y0 y1 y2)) (rndA R2 k lo nr p p2 false))) :
    ∃ Y, StepV Try.prog L3 (FV C S (slw 6 0 R.length capU) (slw 7 0 R2.length capU) (ii k) (ii i) X) [] (Hbx (bas2 o1 m1 cap1 o2 cap2 c st g bx to nr me L R R2) bs) .normal (FV C S (slw 6 0 R.length capU) (slw 7 0 R2.length capU) (ii k) (ii (wi (i + 1))) Y) [] (Hbx (bas2 o1 m1 cap1 o2 cap2 c st g bx to nr me L R R2) (p :: bs)) := by
  match bs, hbs with
  | [], _ =>
    obtain ⟨Y, hY⟩ := r0_xB o1 m1 cap1 o2 L.length cap2 c (cwx KB.fl o2 L) st g bx to nr me C S R R2 X i k p p2 lo hi x0 x1 x2 y0 y1 y2
    exact ⟨Y, runLS_step mix hY ho⟩
  | [u0], _ =>
    obtain ⟨Y, hY⟩ := r1_xB o1 m1 cap1 o2 L.length cap2 c (cwx KB.fl o2 L) st g bx to nr me C S R R2 X i k p p2 lo hi x0 x1 x2 y0 y1 y2 (boxP u0)
    exact ⟨Y, runLS_step mix hY ho⟩
  | [u1, u0], _ =>
    obtain ⟨Y, hY⟩ := r2_xB o1 m1 cap1 o2 L.length cap2 c (cwx KB.fl o2 L) st g bx to nr me C S R R2 X i k p p2 lo hi x0 x1 x2 y0 y1 y2 (boxP u0) (boxP u1)
    exact ⟨Y, runLS_step mix hY ho⟩
  | [u2, u1, u0], _ =>
    obtain ⟨Y, hY⟩ := r3_xB o1 m1 cap1 o2 L.length cap2 c (cwx KB.fl o2 L) st g bx to nr me C S R R2 X i k p p2 lo hi x0 x1 x2 y0 y1 y2 (boxP u0) (boxP u1) (boxP u2)
    exact ⟨Y, runLS_step mix hY ho⟩
  | [u3, u2, u1, u0], _ =>
    obtain ⟨Y, hY⟩ := r4_xB o1 m1 cap1 o2 L.length cap2 c (cwx KB.fl o2 L) st g bx to nr me C S R R2 X i k p p2 lo hi x0 x1 x2 y0 y1 y2 (boxP u0) (boxP u1) (boxP u2) (boxP u3)
    exact ⟨Y, runLS_step mix hY ho⟩
  | [u4, u3, u2, u1, u0], _ =>
    obtain ⟨Y, hY⟩ := r5_xB o1 m1 cap1 o2 L.length cap2 c (cwx KB.fl o2 L) st g bx to nr me C S R R2 X i k p p2 lo hi x0 x1 x2 y0 y1 y2 (boxP u0) (boxP u1) (boxP u2) (boxP u3) (boxP u4)
    exact ⟨Y, runLS_step mix hY ho⟩
  | _ :: _ :: _ :: _ :: _ :: _ :: _, h => simp only [List.length_cons] at h; omega
theorem st_eC (bs : List Pr) (hbs : bs.length ≤ 5) (X : Nat → Value) (i k : Int) (p p2 : Pr) (lo hi x0 x1 x2 y0 y1 y2 : Int)
    (ho : AllP (rndO R L.length o2 (cwx KB.fl o2 L) i p lo hi x0 x1 x2 y0 y1 y2 (rndE lo hi (sqW x0 x1 x2 y0 y1 y2)) (rndC R2.length k lo nr))) :
    ∃ Y, StepV Try.prog L3 (FV C S (slw 6 0 R.length capU) (slw 7 0 R2.length capU) (ii k) (ii i) X) [] (Hbx (bas2 o1 m1 cap1 o2 cap2 c st g bx to nr me L R R2) bs) .normal (FV C S (slw 6 0 R.length capU) (slw 7 0 R2.length capU) (ii k) (ii (wi (i + 1))) Y) [] (Hbx (bas2 o1 m1 cap1 o2 cap2 c st g bx to nr me L R R2) (p :: bs)) := by
  match bs, hbs with
  | [], _ =>
    obtain ⟨Y, hY⟩ := r0_eC o1 m1 cap1 o2 L.length cap2 c (cwx KB.fl o2 L) st g bx to nr me C S R R2 X i k p lo hi x0 x1 x2 y0 y1 y2
    exact ⟨Y, runLS_step mix hY ho⟩
  | [u0], _ =>
    obtain ⟨Y, hY⟩ := r1_eC o1 m1 cap1 o2 L.length cap2 c (cwx KB.fl o2 L) st g bx to nr me C S R R2 X i k p lo hi x0 x1 x2 y0 y1 y2 (boxP u0)
    exact ⟨Y, runLS_step mix hY ho⟩
  | [u1, u0], _ =>
    obtain ⟨Y, hY⟩ := r2_eC o1 m1 cap1 o2 L.length cap2 c (cwx KB.fl o2 L) st g bx to nr me C S R R2 X i k p lo hi x0 x1 x2 y0 y1 y2 (boxP u0) (boxP u1)
    exact ⟨Y, runLS_step mix hY ho⟩
  | [u2, u1, u0], _ =>
    obtain ⟨Y, hY⟩ := r3_eC o1 m1 cap1 o2 L.length cap2 c (cwx KB.fl o2 L) st g bx to nr me C S R R2 X i k p lo hi x0 x1 x2 y0 y1 y2 (boxP u0) (boxP u1) (boxP u2)
    exact ⟨Y, runLS_step mix hY ho⟩
  | [u3, u2, u1, u0], _ =>
    obtain ⟨Y, hY⟩ := r4_eC o1 m1 cap1 o2 L.length cap2 c (cwx KB.fl o2 L) st g bx to nr me C S R R2 X i k p lo hi x0 x1 x2 y0 y1 y2 (boxP u0) (boxP u1) (boxP u2) (boxP u3)
    exact ⟨Y, runLS_step mix hY ho⟩
  | [u4, u3, u2, u1, u0], _ =>
    obtain ⟨Y, hY⟩ := r5_eC o1 m1 cap1 o2 L.length cap2 c (cwx KB.fl o2 L) st g bx to nr me C S R R2 X i k p lo hi x0 x1 x2 y0 y1 y2 (boxP u0) (boxP u1) (boxP u2) (boxP u3) (boxP u4)
    exact ⟨Y, runLS_step mix hY ho⟩
  | _ :: _ :: _ :: _ :: _ :: _ :: _, h => simp only [List.length_cons] at h; omega
theorem st_xC (bs : List Pr) (hbs : bs.length ≤ 5) (X : Nat → Value) (i k : Int) (p p2 : Pr) (lo hi x0 x1 x2 y0 y1 y2 : Int)
    (ho : AllP (rndO R L.length o2 (cwx KB.fl o2 L) i p lo hi x0 x1 x2 y0 y1 y2 (rndX lo hi (sqW x0 x1 x2 y0 y1 y2)) (rndC R2.length k lo nr))) :
    ∃ Y, StepV Try.prog L3 (FV C S (slw 6 0 R.length capU) (slw 7 0 R2.length capU) (ii k) (ii i) X) [] (Hbx (bas2 o1 m1 cap1 o2 cap2 c st g bx to nr me L R R2) bs) .normal (FV C S (slw 6 0 R.length capU) (slw 7 0 R2.length capU) (ii k) (ii (wi (i + 1))) Y) [] (Hbx (bas2 o1 m1 cap1 o2 cap2 c st g bx to nr me L R R2) (p :: bs)) := by
  match bs, hbs with
  | [], _ =>
    obtain ⟨Y, hY⟩ := r0_xC o1 m1 cap1 o2 L.length cap2 c (cwx KB.fl o2 L) st g bx to nr me C S R R2 X i k p lo hi x0 x1 x2 y0 y1 y2
    exact ⟨Y, runLS_step mix hY ho⟩
  | [u0], _ =>
    obtain ⟨Y, hY⟩ := r1_xC o1 m1 cap1 o2 L.length cap2 c (cwx KB.fl o2 L) st g bx to nr me C S R R2 X i k p lo hi x0 x1 x2 y0 y1 y2 (boxP u0)
    exact ⟨Y, runLS_step mix hY ho⟩
  | [u1, u0], _ =>
    obtain ⟨Y, hY⟩ := r2_xC o1 m1 cap1 o2 L.length cap2 c (cwx KB.fl o2 L) st g bx to nr me C S R R2 X i k p lo hi x0 x1 x2 y0 y1 y2 (boxP u0) (boxP u1)
    exact ⟨Y, runLS_step mix hY ho⟩
  | [u2, u1, u0], _ =>
    obtain ⟨Y, hY⟩ := r3_xC o1 m1 cap1 o2 L.length cap2 c (cwx KB.fl o2 L) st g bx to nr me C S R R2 X i k p lo hi x0 x1 x2 y0 y1 y2 (boxP u0) (boxP u1) (boxP u2)
    exact ⟨Y, runLS_step mix hY ho⟩
  | [u3, u2, u1, u0], _ =>
    obtain ⟨Y, hY⟩ := r4_xC o1 m1 cap1 o2 L.length cap2 c (cwx KB.fl o2 L) st g bx to nr me C S R R2 X i k p lo hi x0 x1 x2 y0 y1 y2 (boxP u0) (boxP u1) (boxP u2) (boxP u3)
    exact ⟨Y, runLS_step mix hY ho⟩
  | [u4, u3, u2, u1, u0], _ =>
    obtain ⟨Y, hY⟩ := r5_xC o1 m1 cap1 o2 L.length cap2 c (cwx KB.fl o2 L) st g bx to nr me C S R R2 X i k p lo hi x0 x1 x2 y0 y1 y2 (boxP u0) (boxP u1) (boxP u2) (boxP u3) (boxP u4)
    exact ⟨Y, runLS_step mix hY ho⟩
  | _ :: _ :: _ :: _ :: _ :: _ :: _, h => simp only [List.length_cons] at h; omega
theorem st_eN (bs : List Pr) (hbs : bs.length ≤ 5) (X : Nat → Value) (i k : Int) (p p2 : Pr) (lo hi x0 x1 x2 y0 y1 y2 : Int)
    (ho : AllP (rndO R L.length o2 (cwx KB.fl o2 L) i p lo hi x0 x1 x2 y0 y1 y2 (rndE lo hi (sqW x0 x1 x2 y0 y1 y2)) (rndC 0 k lo nr))) :
    ∃ Y, StepV Try.prog L3 (FV C S (slw 6 0 R.length capU) sl0 (ii k) (ii i) X) [] (Hbx (bas1 o1 m1 cap1 o2 cap2 c st g bx to nr me L R) bs) .normal (FV C S (slw 6 0 R.length capU) sl0 (ii k) (ii (wi (i + 1))) Y) [] (Hbx (bas1 o1 m1 cap1 o2 cap2 c st g bx to nr me L R) (p :: bs)) := by
  match bs, hbs with
  | [], _ =>
    obtain ⟨Y, hY⟩ := r0_eN o1 m1 cap1 o2 L.length cap2 c (cwx KB.fl o2 L) st g bx to nr me C S R X i k p lo hi x0 x1 x2 y0 y1 y2
    exact ⟨Y, runLS_step mix hY ho⟩
  | [u0], _ =>
    obtain ⟨Y, hY⟩ := r1_eN o1 m1 cap1 o2 L.length cap2 c (cwx KB.fl o2 L) st g bx to nr me C S R X i k p lo hi x0 x1 x2 y0 y1 y2 (boxP u0)
    exact ⟨Y, runLS_step mix hY ho⟩
  | [u1, u0], _ =>
    obtain ⟨Y, hY⟩ := r2_eN o1 m1 cap1 o2 L.length cap2 c (cwx KB.fl o2 L) st g bx to nr me C S R X i k p lo hi x0 x1 x2 y0 y1 y2 (boxP u0) (boxP u1)
    exact ⟨Y, runLS_step mix hY ho⟩
  | [u2, u1, u0], _ =>
    obtain ⟨Y, hY⟩ := r3_eN o1 m1 cap1 o2 L.length cap2 c (cwx KB.fl o2 L) st g bx to nr me C S R X i k p lo hi x0 x1 x2 y0 y1 y2 (boxP u0) (boxP u1) (boxP u2)
    exact ⟨Y, runLS_step mix hY ho⟩
  | [u3, u2, u1, u0], _ =>
    obtain ⟨Y, hY⟩ := r4_eN o1 m1 cap1 o2 L.length cap2 c (cwx KB.fl o2 L) st g bx to nr me C S R X i k p lo hi x0 x1 x2 y0 y1 y2 (boxP u0) (boxP u1) (boxP u2) (boxP u3)
    exact ⟨Y, runLS_step mix hY ho⟩
  | [u4, u3, u2, u1, u0], _ =>
    obtain ⟨Y, hY⟩ := r5_eN o1 m1 cap1 o2 L.length cap2 c (cwx KB.fl o2 L) st g bx to nr me C S R X i k p lo hi x0 x1 x2 y0 y1 y2 (boxP u0) (boxP u1) (boxP u2) (boxP u3) (boxP u4)
    exact ⟨Y, runLS_step mix hY ho⟩
  | _ :: _ :: _ :: _ :: _ :: _ :: _, h => simp only [List.length_cons] at h; omega
theorem st_xN (bs : List Pr) (hbs : bs.length ≤ 5) (X : Nat → Value) (i k : Int) (p p2 : Pr) (lo hi x0 x1 x2 y0 y1 y2 : Int)
    (ho : AllP (rndO R L.length o2 (cwx KB.fl o2 L) i p lo hi x0 x1 x2 y0 y1 y2 (rndX lo hi (sqW x0 x1 x2 y0 y1 y2)) (rndC 0 k lo nr))) :
    ∃ Y, StepV Try.prog L3 (FV C S (slw 6 0 R.length capU) sl0 (ii k) (ii i) X) [] (Hbx (bas1 o1 m1 cap1 o2 cap2 c st g bx to nr me L R) bs) .normal (FV C S (slw 6 0 R.length capU) sl0 (ii k) (ii (wi (i + 1))) Y) [] (Hbx (bas1 o1 m1 cap1 o2 cap2 c st g bx to nr me L R) (p :: bs)) := by
  match bs, hbs with
  | [], _ =>
    obtain ⟨Y, hY⟩ := r0_xN o1 m1 cap1 o2 L.length cap2 c (cwx KB.fl o2 L) st g bx to nr me C S R X i k p lo hi x0 x1 x2 y0 y1 y2
    exact ⟨Y, runLS_step mix hY ho⟩
  | [u0], _ =>
    obtain ⟨Y, hY⟩ := r1_xN o1 m1 cap1 o2 L.length cap2 c (cwx KB.fl o2 L) st g bx to nr me C S R X i k p lo hi x0 x1 x2 y0 y1 y2 (boxP u0)
    exact ⟨Y, runLS_step mix hY ho⟩
  | [u1, u0], _ =>
    obtain ⟨Y, hY⟩ := r2_xN o1 m1 cap1 o2 L.length cap2 c (cwx KB.fl o2 L) st g bx to nr me C S R X i k p lo hi x0 x1 x2 y0 y1 y2 (boxP u0) (boxP u1)
    exact ⟨Y, runLS_step mix hY ho⟩
  | [u2, u1, u0], _ =>
    obtain ⟨Y, hY⟩ := r3_xN o1 m1 cap1 o2 L.length cap2 c (cwx KB.fl o2 L) st g bx to nr me C S R X i k p lo hi x0 x1 x2 y0 y1 y2 (boxP u0) (boxP u1) (boxP u2)
    exact ⟨Y, runLS_step mix hY ho⟩
  | [u3, u2, u1, u0], _ =>
    obtain ⟨Y, hY⟩ := r4_xN o1 m1 cap1 o2 L.length cap2 c (cwx KB.fl o2 L) st g bx to nr me C S R X i k p lo hi x0 x1 x2 y0 y1 y2 (boxP u0) (boxP u1) (boxP u2) (boxP u3)
    exact ⟨Y, runLS_step mix hY ho⟩
  | [u4, u3, u2, u1, u0], _ =>
    obtain ⟨Y, hY⟩ := r5_xN o1 m1 cap1 o2 L.length cap2 c (cwx KB.fl o2 L) st g bx to nr me C S R X i k p lo hi x0 x1 x2 y0 y1 y2 (boxP u0) (boxP u1) (boxP u2) (boxP u3) (boxP u4)
    exact ⟨Y, runLS_step mix hY ho⟩
  | _ :: _ :: _ :: _ :: _ :: _ :: _, h => simp only [List.length_cons] at h; omega
theorem xt_2 (bs : List Pr) (hbs : bs.length ≤ 6) (X : Nat → Value) (i k : Int) (ho : decide (i < (R.length : Int)) = false) :
    ∃ Y, StepV Try.prog L3 (FV C S (slw 6 0 R.length capU) (slw 7 0 R2.length capU) (ii k) (ii i) X) [] (Hbx (bas2 o1 m1 cap1 o2 cap2 c st g bx to nr me L R R2) bs) (.exit 0) (FV C S (slw 6 0 R.length capU) (slw 7 0 R2.length capU) (ii k) (ii i) Y) [] (Hbx (bas2 o1 m1 cap1 o2 cap2 c st g bx to nr me L R R2) bs) := by
  match bs, hbs with
  | [], _ =>
    obtain ⟨Y, hY⟩ := x3_0_2 o1 m1 cap1 o2 L.length cap2 c (cwx KB.fl o2 L) st g bx to nr me C S R R2 X k i
    exact ⟨Y, runLS_step mix hY ⟨ho, trivial⟩⟩
  | [u0], _ =>
    obtain ⟨Y, hY⟩ := x3_1_2 o1 m1 cap1 o2 L.length cap2 c (cwx KB.fl o2 L) st g bx to nr me C S R R2 X k i (boxP u0)
    exact ⟨Y, runLS_step mix hY ⟨ho, trivial⟩⟩
  | [u1, u0], _ =>
    obtain ⟨Y, hY⟩ := x3_2_2 o1 m1 cap1 o2 L.length cap2 c (cwx KB.fl o2 L) st g bx to nr me C S R R2 X k i (boxP u0) (boxP u1)
    exact ⟨Y, runLS_step mix hY ⟨ho, trivial⟩⟩
  | [u2, u1, u0], _ =>
    obtain ⟨Y, hY⟩ := x3_3_2 o1 m1 cap1 o2 L.length cap2 c (cwx KB.fl o2 L) st g bx to nr me C S R R2 X k i (boxP u0) (boxP u1) (boxP u2)
    exact ⟨Y, runLS_step mix hY ⟨ho, trivial⟩⟩
  | [u3, u2, u1, u0], _ =>
    obtain ⟨Y, hY⟩ := x3_4_2 o1 m1 cap1 o2 L.length cap2 c (cwx KB.fl o2 L) st g bx to nr me C S R R2 X k i (boxP u0) (boxP u1) (boxP u2) (boxP u3)
    exact ⟨Y, runLS_step mix hY ⟨ho, trivial⟩⟩
  | [u4, u3, u2, u1, u0], _ =>
    obtain ⟨Y, hY⟩ := x3_5_2 o1 m1 cap1 o2 L.length cap2 c (cwx KB.fl o2 L) st g bx to nr me C S R R2 X k i (boxP u0) (boxP u1) (boxP u2) (boxP u3) (boxP u4)
    exact ⟨Y, runLS_step mix hY ⟨ho, trivial⟩⟩
  | [u5, u4, u3, u2, u1, u0], _ =>
    obtain ⟨Y, hY⟩ := x3_6_2 o1 m1 cap1 o2 L.length cap2 c (cwx KB.fl o2 L) st g bx to nr me C S R R2 X k i (boxP u0) (boxP u1) (boxP u2) (boxP u3) (boxP u4) (boxP u5)
    exact ⟨Y, runLS_step mix hY ⟨ho, trivial⟩⟩
  | _ :: _ :: _ :: _ :: _ :: _ :: _ :: _, h => simp only [List.length_cons] at h; omega
theorem xt_1 (bs : List Pr) (hbs : bs.length ≤ 6) (X : Nat → Value) (i k : Int) (ho : decide (i < (R.length : Int)) = false) :
    ∃ Y, StepV Try.prog L3 (FV C S (slw 6 0 R.length capU) sl0 (ii k) (ii i) X) [] (Hbx (bas1 o1 m1 cap1 o2 cap2 c st g bx to nr me L R) bs) (.exit 0) (FV C S (slw 6 0 R.length capU) sl0 (ii k) (ii i) Y) [] (Hbx (bas1 o1 m1 cap1 o2 cap2 c st g bx to nr me L R) bs) := by
  match bs, hbs with
  | [], _ =>
    obtain ⟨Y, hY⟩ := x3_0_1 o1 m1 cap1 o2 L.length cap2 c (cwx KB.fl o2 L) st g bx to nr me C S R [] X k i
    exact ⟨Y, runLS_step mix hY ⟨ho, trivial⟩⟩
  | [u0], _ =>
    obtain ⟨Y, hY⟩ := x3_1_1 o1 m1 cap1 o2 L.length cap2 c (cwx KB.fl o2 L) st g bx to nr me C S R [] X k i (boxP u0)
    exact ⟨Y, runLS_step mix hY ⟨ho, trivial⟩⟩
  | [u1, u0], _ =>
    obtain ⟨Y, hY⟩ := x3_2_1 o1 m1 cap1 o2 L.length cap2 c (cwx KB.fl o2 L) st g bx to nr me C S R [] X k i (boxP u0) (boxP u1)
    exact ⟨Y, runLS_step mix hY ⟨ho, trivial⟩⟩
  | [u2, u1, u0], _ =>
    obtain ⟨Y, hY⟩ := x3_3_1 o1 m1 cap1 o2 L.length cap2 c (cwx KB.fl o2 L) st g bx to nr me C S R [] X k i (boxP u0) (boxP u1) (boxP u2)
    exact ⟨Y, runLS_step mix hY ⟨ho, trivial⟩⟩
  | [u3, u2, u1, u0], _ =>
    obtain ⟨Y, hY⟩ := x3_4_1 o1 m1 cap1 o2 L.length cap2 c (cwx KB.fl o2 L) st g bx to nr me C S R [] X k i (boxP u0) (boxP u1) (boxP u2) (boxP u3)
    exact ⟨Y, runLS_step mix hY ⟨ho, trivial⟩⟩
  | [u4, u3, u2, u1, u0], _ =>
    obtain ⟨Y, hY⟩ := x3_5_1 o1 m1 cap1 o2 L.length cap2 c (cwx KB.fl o2 L) st g bx to nr me C S R [] X k i (boxP u0) (boxP u1) (boxP u2) (boxP u3) (boxP u4)
    exact ⟨Y, runLS_step mix hY ⟨ho, trivial⟩⟩
  | [u5, u4, u3, u2, u1, u0], _ =>
    obtain ⟨Y, hY⟩ := x3_6_1 o1 m1 cap1 o2 L.length cap2 c (cwx KB.fl o2 L) st g bx to nr me C S R [] X k i (boxP u0) (boxP u1) (boxP u2) (boxP u3) (boxP u4) (boxP u5)
    exact ⟨Y, runLS_step mix hY ⟨ho, trivial⟩⟩
  | _ :: _ :: _ :: _ :: _ :: _ :: _ :: _, h => simp only [List.length_cons] at h; omega
theorem wi_up {i : Nat} (h : i ≤ 6) : wi ((i : Int) + 1) = ((i + 1 : Nat) : Int) := by
  rw [show wi ((i : Int) + 1) = (i : Int) + 1 from wrapI ⟨by omega, by omega⟩]
  omega
theorem same_self (p : Pr) : sameP p p = true := by unfold sameP; simp
theorem same_ne {a b : Pr} (h : a ≠ b) : sameP a b = false := by
  cases e : sameP a b
  · rfl
  · exfalso
    unfold sameP at e
    simp only [Bool.and_eq_true, beq_iff_eq, and_true] at e
    exact h (Prod.ext e.1 (Prod.ext e.2.1 e.2.2))
theorem loop_2 (hL : rightV st L = true) (hR : ∀ p ∈ R, p ∈ prsL L) (h6 : R.length ≤ 6) (hn : 0 ≤ nr ∧ nr ≤ 2097152) (hR2 : R2 = nearL (wi (nr * nr)) R) :
    ∀ (j i k : Nat) (bs : List Pr) (X : Nat → Value), i + j = R.length → bs.length = i → R2.drop k = nearL (wi (nr * nr)) (R.drop i) → k ≤ R2.length →
    ∃ r Y bs', bs'.length = R.length ∧ LoopN Try.prog L3 r (FV C S (slw 6 0 R.length capU) (slw 7 0 R2.length capU) (ii k) (ii i) X) [] (Hbx (bas2 o1 m1 cap1 o2 cap2 c st g bx to nr me L R R2) bs) (.exit 0) (FV C S (slw 6 0 R.length capU) (slw 7 0 R2.length capU) (ii (R2.length : Int)) (ii (R.length : Int)) Y) [] (Hbx (bas2 o1 m1 cap1 o2 cap2 c st g bx to nr me L R R2) bs')
  | 0, i, k, bs, X, hi, hbs, hk, hkl => by
    have e : i = R.length := by omega
    subst e
    rw [List.drop_length] at hk
    have hk2 : k = R2.length := by
      have := congrArg List.length hk
      rw [List.length_drop] at this
      simp [nearL] at this
      omega
    subst hk2
    obtain ⟨Y, hY⟩ := xt_2 (o1 := o1) (m1 := m1) (cap1 := cap1) (o2 := o2) (cap2 := cap2) (c := c) (st := st) (g := g) (bx := bx) (to := to) (nr := nr) (me := me) (C := C) (S := S) (L := L) (R := R) (R2 := R2) bs (by omega) X (R.length : Int) (R2.length : Int) (decide_eq_false (by omega))
    exact ⟨1, Y, bs, hbs, LoopN.last hY⟩
  | j + 1, i, k, bs, X, hi, hbs, hk, hkl => by
    have hlt : i < R.length := by omega
    have hx : R[i]? = some R[i] := List.getElem?_eq_getElem hlt
    have hdr : R.drop i = R[i] :: R.drop (i + 1) := List.drop_eq_getElem_cons hlt
    have hmem : R[i] ∈ R := List.getElem_mem hlt
    generalize R[i] = p at hx hdr hmem
    have hp := hR p hmem
    obtain ⟨I, J, a, b, ep, -, -, -, -, wa, wb⟩ := prs_mem hL p hp
    obtain ⟨q0, q1⟩ := sqd_in wa wb
    have hpq : p.2.2 = sqd a.1 b.1 := by rw [ep]
    have hnl := near_low (q := p.2.2) (by omega) (by omega) hn.1 hn.2
    have hk6 : k ≤ 6 := by
      have : R2.length ≤ R.length := by rw [hR2]; exact List.length_filter_le _ _
      omega
    rw [hdr] at hk
    by_cases hnear : p.2.2 < wi (nr * nr)
    · -- the pair is near
      have hk' : R2.drop k = p :: nearL (wi (nr * nr)) (R.drop (i + 1)) := by
        rw [hk]; unfold nearL; rw [List.filter_cons, if_pos (by simpa using hnear)]
      have hkl2 : k < R2.length := by
        have := congrArg List.length hk'
        rw [List.length_drop, List.length_cons] at this
        omega
      have hpk : R2[k]? = some p := by
        have := List.drop_eq_getElem_cons hkl2
        rw [this] at hk'
        rw [List.getElem?_eq_getElem hkl2]
        exact congrArg some (List.cons.inj hk').1
      have hdn : R2.drop (k + 1) = nearL (wi (nr * nr)) (R.drop (i + 1)) := by
        have := List.drop_eq_getElem_cons hkl2
        rw [this] at hk'
        exact (List.cons.inj hk').2
      rw [decide_eq_true hnear] at hnl
      obtain ⟨x0, x1, x2, y0, y1, y2, oe, ox⟩ := rnd_ok hL hx hp o2 (rndA R2 k (lowW p.2.2) nr p p true) ⟨decide_eq_true (by omega), ⟨by omega, by omega⟩, flat3_take hpk, by rw [same_self, ← hnl]; rfl, same_self p, trivial⟩
      have hst : ∃ Y, StepV Try.prog L3 (FV C S (slw 6 0 R.length capU) (slw 7 0 R2.length capU) (ii k) (ii i) X) [] (Hbx (bas2 o1 m1 cap1 o2 cap2 c st g bx to nr me L R R2) bs) .normal (FV C S (slw 6 0 R.length capU) (slw 7 0 R2.length capU) (ii (wi ((k : Int) + 1))) (ii (wi ((i : Int) + 1))) Y) [] (Hbx (bas2 o1 m1 cap1 o2 cap2 c st g bx to nr me L R R2) (p :: bs)) := by
        by_cases hsq : lowW p.2.2 * lowW p.2.2 = p.2.2
        · exact st_eA bs (by omega) X i k p p _ _ x0 x1 x2 y0 y1 y2 (oe hsq)
        · exact st_xA bs (by omega) X i k p p _ _ x0 x1 x2 y0 y1 y2 (ox hsq)
      obtain ⟨Y, hY⟩ := hst
      rw [wi_up hk6, wi_up (by omega)] at hY
      obtain ⟨r, Y', bs', hb', hl⟩ := loop_2 hL hR h6 hn hR2 j (i + 1) (k + 1) (p :: bs) Y (by omega) (by rw [List.length_cons, hbs]) hdn (by omega)
      exact ⟨r + 1, Y', bs', hb', LoopN.round hY hl⟩
    · have hk' : R2.drop k = nearL (wi (nr * nr)) (R.drop (i + 1)) := by
        rw [hk]; unfold nearL; rw [List.filter_cons, if_neg (by simpa using hnear)]
      rw [decide_eq_false hnear] at hnl
      have hst : ∃ Y, StepV Try.prog L3 (FV C S (slw 6 0 R.length capU) (slw 7 0 R2.length capU) (ii k) (ii i) X) [] (Hbx (bas2 o1 m1 cap1 o2 cap2 c st g bx to nr me L R R2) bs) .normal (FV C S (slw 6 0 R.length capU) (slw 7 0 R2.length capU) (ii k) (ii (wi ((i : Int) + 1))) Y) [] (Hbx (bas2 o1 m1 cap1 o2 cap2 c st g bx to nr me L R R2) (p :: bs)) := by
        by_cases hkl2 : k < R2.length
        · have hpk : R2[k]? = some R2[k] := List.getElem?_eq_getElem hkl2
          have hm2 : R2[k] ∈ R2 := List.getElem_mem hkl2
          generalize R2[k] = p2 at hpk hm2
          have hne : p2 ≠ p := fun e => by
            rw [hR2, e] at hm2
            have := (List.mem_filter.1 hm2).2
            exact hnear (by simpa using this)
          obtain ⟨x0, x1, x2, y0, y1, y2, oe, ox⟩ := rnd_ok hL hx hp o2 (rndA R2 k (lowW p.2.2) nr p p2 false) ⟨decide_eq_true (by omega), ⟨by omega, by omega⟩, flat3_take hpk, by rw [same_ne hne, ← hnl]; rfl, same_ne hne, trivial⟩
          by_cases hsq : lowW p.2.2 * lowW p.2.2 = p.2.2
          · exact st_eB bs (by omega) X i k p p2 _ _ x0 x1 x2 y0 y1 y2 (oe hsq)
          · exact st_xB bs (by omega) X i k p p2 _ _ x0 x1 x2 y0 y1 y2 (ox hsq)
        · obtain ⟨x0, x1, x2, y0, y1, y2, oe, ox⟩ := rnd_ok hL hx hp o2 (rndC R2.length k (lowW p.2.2) nr) ⟨decide_eq_false (by omega), by rw [← hnl]; rfl, trivial⟩
          by_cases hsq : lowW p.2.2 * lowW p.2.2 = p.2.2
          · exact st_eC bs (by omega) X i k p p _ _ x0 x1 x2 y0 y1 y2 (oe hsq)
          · exact st_xC bs (by omega) X i k p p _ _ x0 x1 x2 y0 y1 y2 (ox hsq)
      obtain ⟨Y, hY⟩ := hst
      rw [wi_up (i := i) (by omega)] at hY
      obtain ⟨r, Y', bs', hb', hl⟩ := loop_2 hL hR h6 hn hR2 j (i + 1) k (p :: bs) Y (by omega) (by rw [List.length_cons, hbs]) hk' hkl
      exact ⟨r + 1, Y', bs', hb', LoopN.round hY hl⟩
theorem loop_1 (hL : rightV st L = true) (hR : ∀ p ∈ R, p ∈ prsL L) (h6 : R.length ≤ 6) (hn : 0 ≤ nr ∧ nr ≤ 2097152) (hR2 : ∀ p ∈ R, ¬ p.2.2 < wi (nr * nr)) :
    ∀ (j i : Nat) (bs : List Pr) (X : Nat → Value), i + j = R.length → bs.length = i →
    ∃ r Y bs', bs'.length = R.length ∧ LoopN Try.prog L3 r (FV C S (slw 6 0 R.length capU) sl0 (ii 0) (ii i) X) [] (Hbx (bas1 o1 m1 cap1 o2 cap2 c st g bx to nr me L R) bs) (.exit 0) (FV C S (slw 6 0 R.length capU) sl0 (ii 0) (ii (R.length : Int)) Y) [] (Hbx (bas1 o1 m1 cap1 o2 cap2 c st g bx to nr me L R) bs')
  | 0, i, bs, X, hi, hbs => by
    have e : i = R.length := by omega
    subst e
    obtain ⟨Y, hY⟩ := xt_1 (o1 := o1) (m1 := m1) (cap1 := cap1) (o2 := o2) (cap2 := cap2) (c := c) (st := st) (g := g) (bx := bx) (to := to) (nr := nr) (me := me) (C := C) (S := S) (L := L) (R := R) bs (by omega) X (R.length : Int) 0 (decide_eq_false (by omega))
    exact ⟨1, Y, bs, hbs, LoopN.last hY⟩
  | j + 1, i, bs, X, hi, hbs => by
    have hlt : i < R.length := by omega
    have hx : R[i]? = some R[i] := List.getElem?_eq_getElem hlt
    have hmem : R[i] ∈ R := List.getElem_mem hlt
    generalize R[i] = p at hx hmem
    have hp := hR p hmem
    obtain ⟨I, J, a, b, ep, -, -, -, -, wa, wb⟩ := prs_mem hL p hp
    obtain ⟨q0, q1⟩ := sqd_in wa wb
    have hpq : p.2.2 = sqd a.1 b.1 := by rw [ep]
    have hnl := near_low (q := p.2.2) (by omega) (by omega) hn.1 hn.2
    rw [decide_eq_false (hR2 p hmem)] at hnl
    obtain ⟨x0, x1, x2, y0, y1, y2, oe, ox⟩ := rnd_ok hL hx hp o2 (rndC 0 0 (lowW p.2.2) nr) ⟨rfl, by rw [← hnl]; rfl, trivial⟩
    have hst : ∃ Y, StepV Try.prog L3 (FV C S (slw 6 0 R.length capU) sl0 (ii 0) (ii i) X) [] (Hbx (bas1 o1 m1 cap1 o2 cap2 c st g bx to nr me L R) bs) .normal (FV C S (slw 6 0 R.length capU) sl0 (ii 0) (ii (wi ((i : Int) + 1))) Y) [] (Hbx (bas1 o1 m1 cap1 o2 cap2 c st g bx to nr me L R) (p :: bs)) := by
      by_cases hsq : lowW p.2.2 * lowW p.2.2 = p.2.2
      · exact st_eN bs (by omega) X i 0 p p _ _ x0 x1 x2 y0 y1 y2 (oe hsq)
      · exact st_xN bs (by omega) X i 0 p p _ _ x0 x1 x2 y0 y1 y2 (ox hsq)
    obtain ⟨Y, hY⟩ := hst
    rw [wi_up (i := i) (by omega)] at hY
    obtain ⟨r, Y', bs', hb', hl⟩ := loop_1 hL hR h6 hn hR2 j (i + 1) (p :: bs) Y (by omega) (by rw [List.length_cons, hbs])
    exact ⟨r + 1, Y', bs', hb', LoopN.round hY hl⟩
end

end Go.Proofs.Ytpllklojcjhjaaa

/- NearExact, wherever masses and bodies lie. -/
namespace Go.Proofs.Ytpllklojcjhjaaa
open Go Go.RowKit
set_option linter.unusedSimpArgs false
set_option linter.unusedVariables false
set_option maxRecDepth 100000

theorem lP_le : ∀ (r : List Pr) (m : Pr), ∀ p ∈ m :: r, (leastP m r).2.2 ≤ p.2.2
  | [], m => fun p hp => by simp at hp; rw [hp]; exact Int.le_refl _
  | x :: r, m => by
    show ∀ p ∈ m :: x :: r, (leastP (bif decide (x.2.2 < m.2.2) then x else m) r).2.2 ≤ p.2.2
    by_cases h : x.2.2 < m.2.2
    · rw [decide_eq_true h, cond_true]
      have h2 := lP_le r x
      intro q hq
      rcases List.mem_cons.1 hq with rfl | hq
      · have := h2 x List.mem_cons_self
        omega
      · exact h2 q hq
    · rw [decide_eq_false h, cond_false]
      have h2 := lP_le r m
      intro q hq
      rcases List.mem_cons.1 hq with rfl | hq
      · exact h2 _ List.mem_cons_self
      · rcases List.mem_cons.1 hq with rfl | hq
        · have := h2 m List.mem_cons_self
          omega
        · exact h2 q (List.mem_cons_of_mem _ hq)
theorem lQ_low {R : List Pr} {z : Int} (h : nearL z R ≠ []) : (leastQ R).1.2.2 < z ∧ (leastQ R).2 = true := by
  cases R with
  | nil => exact absurd rfl h
  | cons p r =>
    refine ⟨?_, rfl⟩
    obtain ⟨q, hq⟩ := List.exists_mem_of_ne_nil _ h
    obtain ⟨h1, h2⟩ := List.mem_filter.1 hq
    have := lP_le r p q h1
    show (leastP p r).2.2 < z
    have := of_decide_eq_true h2
    omega
theorem pairs_nw {st : Int} {L : List Bd} (h : rightV st L = true) (hR : prsL L ≠ []) : NewA KB Try.prog 10 (fun s => #[sv st s]) L KP (fun s => s) (prsL L) := by
  have := (pairs_s st L).2
  rw [prsV_ok h] at this
  exact this hR
theorem pairs_no1 {st : Int} {L : List Bd} (h : rightV st L = true) (hR : prsL L = []) : SemA KB Try.prog 10 (fun s => #[sv st s]) L sl0 := by
  have := (pairs_s st L).1
  rw [prsV_ok h] at this
  exact this hR
theorem least_o {st : Int} {L : List Bd} (h : rightV st L = true) : SemA KB Try.prog 13 (fun s => #[sv st s]) L (tpQ (leastQ (prsL L))) := by
  have := least_s st L
  rwa [prsV_ok h] at this
theorem prs_len {L : List Bd} (h1 : 1 ≤ L.length) (h4 : L.length ≤ 4) : (((prsL L).length : Int) != pairsN (L.length : Int)) = false ∧ (prsL L).length ≤ 6 ∧ (prsL L = [] ∨ (prsL L).length = 1 ∨ (prsL L).length = 3 ∨ (prsL L).length = 6) := by
  rcases shapes h1 h4 with ⟨a, rfl⟩ | ⟨a, b, rfl⟩ | ⟨a, b, d, rfl⟩ | ⟨a, b, d, e, rfl⟩
  · exact ⟨show (((0 : Nat) : Int) != pairsN ((1 : Nat) : Int)) = false by decide, Nat.le_of_ble_eq_true rfl, .inl rfl⟩
  · exact ⟨show (((1 : Nat) : Int) != pairsN ((2 : Nat) : Int)) = false by decide, Nat.le_of_ble_eq_true rfl, .inr (.inl rfl)⟩
  · exact ⟨show (((3 : Nat) : Int) != pairsN ((3 : Nat) : Int)) = false by decide, Nat.le_of_ble_eq_true rfl, .inr (.inr (.inl rfl))⟩
  · exact ⟨show (((6 : Nat) : Int) != pairsN ((4 : Nat) : Int)) = false by decide, Nat.le_of_ble_eq_true rfl, .inr (.inr (.inr rfl))⟩
theorem near_bound {M : List Int} {g bx to nr me : Int} (hc : chk (whyL M g bx to nr me) = 0) : 0 ≤ nr ∧ nr ≤ 2097152 := by
  have hok : okL M g bx to nr me := by
    unfold okL
    cases hw : whyL M g bx to nr me with
    | nil => rfl
    | cons x l => rw [hw] at hc; cases hc
  obtain ⟨-, -, -, h4, -, h6, -⟩ := ok_parts hok
  have k4 := inZ_iff.1 h4
  have k6 := inZ_iff.1 h6
  have : wi (2 * bx) = 2 * bx := wrapI ⟨by omega, by omega⟩
  omega
section
variable {st g bx to nr me : Int} {M : List Int} {L : List Bd}
theorem look6 {a b c d e f : Obj} : ∀ i, look [(7, a), (6, b), (5001, c), (5000, d), (2, e), (1, f)] i = look [(7, a), (2, e), (1, f), (6, b), (5001, c), (5000, d)] i := fun i => by
  simp only [look]
  by_cases h1 : 7 = i
  · simp [h1]
  by_cases h2 : 6 = i
  · subst h2; simp
  by_cases h3 : 5001 = i
  · subst h3; simp
  by_cases h4 : 5000 = i
  · subst h4; simp
  simp [h1, h2, h3, h4]
theorem look5 {b c d e f : Obj} : ∀ i, look [(6, b), (5001, c), (5000, d), (2, e), (1, f)] i = look [(2, e), (1, f), (6, b), (5001, c), (5000, d)] i := fun i => by
  simp only [look]
  by_cases h2 : 6 = i
  · subst h2; simp
  by_cases h3 : 5001 = i
  · subst h3; simp
  by_cases h4 : 5000 = i
  · subst h4; simp
  simp [h2, h3, h4]
theorem look4 {c d e f : Obj} : ∀ i, look [(5001, c), (5000, d), (2, e), (1, f)] i = look [(2, e), (1, f), (5001, c), (5000, d)] i := fun i => by
  simp only [look]
  by_cases h3 : 5001 = i
  · subst h3; simp
  by_cases h4 : 5000 = i
  · subst h4; simp
  simp [h3, h4]
theorem exact_ok (hM : M ≠ []) (hc : chk (whyL M g bx to nr me) = 0) (h : rightV st L = true) (o1 cap1 o2 cap2 : Nat) (hl : M.length ≤ cap1) (hcp : cap1 ≤ maxLen) (hl2 : L.length ≤ cap2) (hc2 : cap2 ≤ maxLen) :
    CallsV Try.prog (.func 3) #[cv (slw 1 o1 M.length cap1) g bx to nr me, sv st (slw 2 o2 L.length cap2)] [(1, KI.win o1 M), (2, KB.win o2 L)] (rt (bb true)) [] := by
  obtain ⟨-, ⟨h1, h4⟩, -⟩ := rightV_iff.1 h
  obtain ⟨hpn, h6, hsh⟩ := prs_len h1 h4
  have hb := near_bound hc
  have hs2 : ∀ β w, Rel (rng β [(2, KB.win o2 L)]) w β [(2, KB.win o2 L)] w → LieK KB w (ren β (slw 2 o2 L.length cap2)) L := fun β w hR => lk_win (K := KB) (k := 2) hR rfl hl2 hc2
  have hsa : ∀ β w, Rel (rng β [(2, KB.win o2 L), (1, KI.win o1 M)]) w β [(2, KB.win o2 L), (1, KI.win o1 M)] w → LieK KI w (ren β (slw 1 o1 M.length cap1)) M ∧ LieK KB w (ren β (slw 2 o2 L.length cap2)) L := fun β w hR => ⟨lk_win (K := KI) (k := 1) hR rfl hl hcp, lk_win (K := KB) (k := 2) hR rfl hl2 hc2⟩
  have w7 := sem1_calls (dchk_p g bx to nr me 0 M hc) (ren_cv g bx to nr me) rfl (H := [(1, KI.win o1 M)]) (s := slw 1 o1 M.length cap1) (fun β w hR => lk_win (K := KI) (k := 1) hR rfl hl hcp)
  have w8 := rright_c h hs2
  have nk := near_ok hM hc h
  have w13 := semA_calls (least_o h) (ren_sv st) (tpQ_ok _) hs2
  have w14 := semB_calls (check_s st g bx to nr me M L) (ren_cs st g bx to nr me) rfl hsa
  have hcv : chkV M g bx to nr me st L = if nearL (wi (nr * nr)) (prsL L) = [] then 0 else 130 := by
    unfold chkV
    rw [if_neg (by rw [hc]; decide), h, if_neg (by decide)]
  rw [hcv] at w14
  obtain ⟨Y0, e0⟩ := p3_0 o1 M.length cap1 o2 L.length cap2 (cwx KI.fl o1 M) (cwx KB.fl o2 L) st g bx to nr me
  obtain ⟨Y1, e1⟩ := p3_1 o1 M.length cap1 o2 L.length cap2 (cwx KI.fl o1 M) (cwx KB.fl o2 L) st g bx to nr me Y0
  have s0 := runLS_step mix e0 trivial
  have s1 := runLS_step mix e1 ⟨w7, w8, trivial⟩
  by_cases hR : prsL L = []
  · -- one body
    have w10 := semA_calls (pairs_no1 h hR) (ren_sv st) rfl hs2
    have hR2 : nearL (wi (nr * nr)) (prsL L) = [] := by rw [hR]; rfl
    have w11 := semB_calls (nk.1 hR2) (ren_cs st g bx to nr me) rfl hsa
    rw [if_pos hR2] at w14
    rw [hR] at w13 hpn
    obtain ⟨Y2, e2⟩ := p3_2v0 o1 M.length cap1 o2 L.length cap2 (cwx KI.fl o1 M) (cwx KB.fl o2 L) st g bx to nr me [] [] Y1
    obtain ⟨Y3, e3⟩ := p3_3v0 o1 M.length cap1 o2 L.length cap2 (cwx KI.fl o1 M) (cwx KB.fl o2 L) st g bx to nr me (cv (slw 1 o1 M.length cap1) g bx to nr me) (sv st (slw 2 o2 L.length cap2)) [] [] Y2
    obtain ⟨Y4, e4⟩ := p3_4v0 o1 M.length cap1 o2 L.length cap2 (cwx KI.fl o1 M) (cwx KB.fl o2 L) st g bx to nr me (cv (slw 1 o1 M.length cap1) g bx to nr me) (sv st (slw 2 o2 L.length cap2)) [] [] Y3
    obtain ⟨Y5, e5⟩ := x3_0_0 o1 M.length cap1 o2 L.length cap2 (cwx KI.fl o1 M) (cwx KB.fl o2 L) st g bx to nr me (cv (slw 1 o1 M.length cap1) g bx to nr me) (sv st (slw 2 o2 L.length cap2)) [] [] Y4 0 0
    obtain ⟨T, HH, e6, hv⟩ := z3_0_0 o1 M.length cap1 o2 L.length cap2 (cwx KI.fl o1 M) (cwx KB.fl o2 L) st g bx to nr me (cv (slw 1 o1 M.length cap1) g bx to nr me) (sv st (slw 2 o2 L.length cap2)) [] [] Y5 (leastQ []).1 (leastQ []).2 0
    have s2 := runLS_step mix e2 ⟨w10, w11, trivial⟩
    have s3 := runLS_step mix e3 trivial
    have s4 := (runLS_step mix e4 trivial).perm (G := [(5001, stO st (slw 2 o2 L.length cap2)), (5000, cfO (slw 1 o1 M.length cap1) g bx to nr me), (2, win o2 (cwx KB.fl o2 L)), (1, win o1 (cwx KI.fl o1 M))]) look4
    have hl := LoopN.last (runLS_step mix e5 ⟨rfl, trivial⟩)
    have hT := runLS_step mix e6 ⟨w13, hpn, rfl, w14, rfl, wakes_c, trivial⟩
    exact callsV_step Try.func3 b3_eq (StepV.seq s0 (StepV.seq s1 (StepV.seq s2 (StepV.seq s3 (StepV.seq (StepV.seq s4 (LoopN.loop hl).block) hT))))) rfl hv rfl (fun _ _ h => by cases h) rfl
  · have w10 := newA_calls (pairs_nw h hR) false (ren_sv st) (fun _ _ => rfl) (H := [(2, KB.win o2 L)]) (k := 6) rfl hs2
    have hp0 : 0 < (prsL L).length := List.length_pos_iff.2 hR
    have ho : (!((leastQ (prsL L)).2 == decide ((0 : Int) < ((prsL L).length : Int)))) = false := by
      rw [decide_eq_true (by omega : (0 : Int) < ((prsL L).length : Int))]
      cases hq : prsL L with
      | nil => exact absurd hq hR
      | cons p r => rfl
    by_cases hR2 : nearL (wi (nr * nr)) (prsL L) = []
    · have w11 := semB_calls (nk.1 hR2) (ren_cs st g bx to nr me) rfl hsa
      rw [if_pos hR2] at w14
      have hno : ∀ p ∈ prsL L, ¬ p.2.2 < wi (nr * nr) := fun p hp hlt => by
        have : p ∈ nearL (wi (nr * nr)) (prsL L) := List.mem_filter.2 ⟨hp, decide_eq_true hlt⟩
        rw [hR2] at this
        cases this
      obtain ⟨Y2, e2⟩ := p3_2v1 o1 M.length cap1 o2 L.length cap2 (cwx KI.fl o1 M) (cwx KB.fl o2 L) st g bx to nr me (prsL L) [] Y1
      obtain ⟨Y3, e3⟩ := p3_3v1 o1 M.length cap1 o2 L.length cap2 (cwx KI.fl o1 M) (cwx KB.fl o2 L) st g bx to nr me (cv (slw 1 o1 M.length cap1) g bx to nr me) (sv st (slw 2 o2 L.length cap2)) (prsL L) [] Y2
      obtain ⟨Y4, e4⟩ := p3_4v1 o1 M.length cap1 o2 L.length cap2 (cwx KI.fl o1 M) (cwx KB.fl o2 L) st g bx to nr me (cv (slw 1 o1 M.length cap1) g bx to nr me) (sv st (slw 2 o2 L.length cap2)) (prsL L) [] Y3
      have s2 := runLS_step mix e2 ⟨w10, w11, trivial⟩
      have s3 := runLS_step mix e3 trivial
      have s4 := (runLS_step mix e4 trivial).perm (G := bas1 o1 M.length cap1 o2 cap2 (cwx KI.fl o1 M) st g bx to nr me L (prsL L)) look5
      obtain ⟨r, Y5, bs, hbs, hl⟩ := loop_1 (o1 := o1) (m1 := M.length) (cap1 := cap1) (o2 := o2) (cap2 := cap2) (c := cwx KI.fl o1 M) (g := g) (bx := bx) (to := to) (me := me) (C := (cv (slw 1 o1 M.length cap1) g bx to nr me)) (S := (sv st (slw 2 o2 L.length cap2))) h (fun p hp => hp) h6 hb hno (prsL L).length 0 [] Y4 (by omega) rfl
      have tl : ∃ T HH, StepV Try.prog Z3 (FV (cv (slw 1 o1 M.length cap1) g bx to nr me) (sv st (slw 2 o2 L.length cap2)) (slw 6 0 (prsL L).length capU) sl0 (ii 0) (ii ((prsL L).length : Int)) Y5) [] (Hbx (bas1 o1 M.length cap1 o2 cap2 (cwx KI.fl o1 M) st g bx to nr me L (prsL L)) bs) .ret T [] HH ∧ vresults Try.prog Try.f3 T HH = some (bb true) := by
        rcases hsh with hz | hz | hz | hz
        · exact absurd hz hR
        · rw [hz] at hbs
          match bs, hbs with
          | [u0], _ =>
            obtain ⟨T, HH, e6, hv⟩ := z3_1_1 o1 M.length cap1 o2 L.length cap2 (cwx KI.fl o1 M) (cwx KB.fl o2 L) st g bx to nr me (cv (slw 1 o1 M.length cap1) g bx to nr me) (sv st (slw 2 o2 L.length cap2)) (prsL L) [] Y5 (leastQ (prsL L)).1 (leastQ (prsL L)).2 0 (boxP u0)
            exact ⟨T, HH, runLS_step mix e6 ⟨w13, hpn, ho, w14, rfl, wakes_c, trivial⟩, hv⟩
        · rw [hz] at hbs
          match bs, hbs with
          | [u2, u1, u0], _ =>
            obtain ⟨T, HH, e6, hv⟩ := z3_3_1 o1 M.length cap1 o2 L.length cap2 (cwx KI.fl o1 M) (cwx KB.fl o2 L) st g bx to nr me (cv (slw 1 o1 M.length cap1) g bx to nr me) (sv st (slw 2 o2 L.length cap2)) (prsL L) [] Y5 (leastQ (prsL L)).1 (leastQ (prsL L)).2 0 (boxP u0) (boxP u1) (boxP u2)
            exact ⟨T, HH, runLS_step mix e6 ⟨w13, hpn, ho, w14, rfl, wakes_c, trivial⟩, hv⟩
        · rw [hz] at hbs
          match bs, hbs with
          | [u5, u4, u3, u2, u1, u0], _ =>
            obtain ⟨T, HH, e6, hv⟩ := z3_6_1 o1 M.length cap1 o2 L.length cap2 (cwx KI.fl o1 M) (cwx KB.fl o2 L) st g bx to nr me (cv (slw 1 o1 M.length cap1) g bx to nr me) (sv st (slw 2 o2 L.length cap2)) (prsL L) [] Y5 (leastQ (prsL L)).1 (leastQ (prsL L)).2 0 (boxP u0) (boxP u1) (boxP u2) (boxP u3) (boxP u4) (boxP u5)
            exact ⟨T, HH, runLS_step mix e6 ⟨w13, hpn, ho, w14, rfl, wakes_c, trivial⟩, hv⟩
      obtain ⟨T, HH, hT, hv⟩ := tl
      exact callsV_step Try.func3 b3_eq (StepV.seq s0 (StepV.seq s1 (StepV.seq s2 (StepV.seq s3 (StepV.seq (StepV.seq s4 (LoopN.loop hl).block) hT))))) rfl hv rfl (fun _ _ h => by cases h) rfl
    · have w11 := newB_calls (nk.2 hR2) false (ren_cs st g bx to nr me) (fun _ _ => rfl) (H := [(2, KB.win o2 L), (1, KI.win o1 M)]) (k := 7) rfl hsa
      rw [if_neg hR2] at w14
      obtain ⟨hlow, -⟩ := lQ_low hR2
      have hp2 : 0 < (nearL (wi (nr * nr)) (prsL L)).length := List.length_pos_iff.2 hR2
      have hk1 : (!(((130 : Int) == 130) == decide ((0 : Int) < ((nearL (wi (nr * nr)) (prsL L)).length : Int)))) = false := by
        rw [decide_eq_true (by omega : (0 : Int) < ((nearL (wi (nr * nr)) (prsL L)).length : Int))]; rfl
      have hk2 : (((nearL (wi (nr * nr)) (prsL L)).length : Int) == 0) = false := beq_eq_false_iff_ne.2 (by omega)
      obtain ⟨Y2, e2⟩ := p3_2v2 o1 M.length cap1 o2 L.length cap2 (cwx KI.fl o1 M) (cwx KB.fl o2 L) st g bx to nr me (prsL L) (nearL (wi (nr * nr)) (prsL L)) Y1
      obtain ⟨Y3, e3⟩ := p3_3v2 o1 M.length cap1 o2 L.length cap2 (cwx KI.fl o1 M) (cwx KB.fl o2 L) st g bx to nr me (cv (slw 1 o1 M.length cap1) g bx to nr me) (sv st (slw 2 o2 L.length cap2)) (prsL L) (nearL (wi (nr * nr)) (prsL L)) Y2
      obtain ⟨Y4, e4⟩ := p3_4v2 o1 M.length cap1 o2 L.length cap2 (cwx KI.fl o1 M) (cwx KB.fl o2 L) st g bx to nr me (cv (slw 1 o1 M.length cap1) g bx to nr me) (sv st (slw 2 o2 L.length cap2)) (prsL L) (nearL (wi (nr * nr)) (prsL L)) Y3
      have s2 := runLS_step mix e2 ⟨w10, w11, trivial⟩
      have s3 := runLS_step mix e3 trivial
      have s4 := (runLS_step mix e4 trivial).perm (G := bas2 o1 M.length cap1 o2 cap2 (cwx KI.fl o1 M) st g bx to nr me L (prsL L) (nearL (wi (nr * nr)) (prsL L))) look6
      obtain ⟨r, Y5, bs, hbs, hl⟩ := loop_2 (o1 := o1) (m1 := M.length) (cap1 := cap1) (o2 := o2) (cap2 := cap2) (c := cwx KI.fl o1 M) (g := g) (bx := bx) (to := to) (me := me) (C := (cv (slw 1 o1 M.length cap1) g bx to nr me)) (S := (sv st (slw 2 o2 L.length cap2))) h (fun p hp => hp) h6 hb rfl (prsL L).length 0 0 [] Y4 (by omega) rfl rfl (Nat.zero_le _)
      have tl : ∃ T HH, StepV Try.prog Z3 (FV (cv (slw 1 o1 M.length cap1) g bx to nr me) (sv st (slw 2 o2 L.length cap2)) (slw 6 0 (prsL L).length capU) (slw 7 0 (nearL (wi (nr * nr)) (prsL L)).length capU) (ii ((nearL (wi (nr * nr)) (prsL L)).length : Int)) (ii ((prsL L).length : Int)) Y5) [] (Hbx (bas2 o1 M.length cap1 o2 cap2 (cwx KI.fl o1 M) st g bx to nr me L (prsL L) (nearL (wi (nr * nr)) (prsL L))) bs) .ret T [] HH ∧ vresults Try.prog Try.f3 T HH = some (bb true) := by
        rcases hsh with hz | hz | hz | hz
        · exact absurd hz hR
        · rw [hz] at hbs
          match bs, hbs with
          | [u0], _ =>
            obtain ⟨T, HH, e6, hv⟩ := z3_1_2 o1 M.length cap1 o2 L.length cap2 (cwx KI.fl o1 M) (cwx KB.fl o2 L) st g bx to nr me (cv (slw 1 o1 M.length cap1) g bx to nr me) (sv st (slw 2 o2 L.length cap2)) (prsL L) (nearL (wi (nr * nr)) (prsL L)) Y5 (leastQ (prsL L)).1 (leastQ (prsL L)).2 130 (boxP u0)
            exact ⟨T, HH, runLS_step mix e6 ⟨w13, bne_self_eq_false _, hpn, ho, w14, hk1, hk2, decide_eq_true hlow, wakes_c, trivial⟩, hv⟩
        · rw [hz] at hbs
          match bs, hbs with
          | [u2, u1, u0], _ =>
            obtain ⟨T, HH, e6, hv⟩ := z3_3_2 o1 M.length cap1 o2 L.length cap2 (cwx KI.fl o1 M) (cwx KB.fl o2 L) st g bx to nr me (cv (slw 1 o1 M.length cap1) g bx to nr me) (sv st (slw 2 o2 L.length cap2)) (prsL L) (nearL (wi (nr * nr)) (prsL L)) Y5 (leastQ (prsL L)).1 (leastQ (prsL L)).2 130 (boxP u0) (boxP u1) (boxP u2)
            exact ⟨T, HH, runLS_step mix e6 ⟨w13, bne_self_eq_false _, hpn, ho, w14, hk1, hk2, decide_eq_true hlow, wakes_c, trivial⟩, hv⟩
        · rw [hz] at hbs
          match bs, hbs with
          | [u5, u4, u3, u2, u1, u0], _ =>
            obtain ⟨T, HH, e6, hv⟩ := z3_6_2 o1 M.length cap1 o2 L.length cap2 (cwx KI.fl o1 M) (cwx KB.fl o2 L) st g bx to nr me (cv (slw 1 o1 M.length cap1) g bx to nr me) (sv st (slw 2 o2 L.length cap2)) (prsL L) (nearL (wi (nr * nr)) (prsL L)) Y5 (leastQ (prsL L)).1 (leastQ (prsL L)).2 130 (boxP u0) (boxP u1) (boxP u2) (boxP u3) (boxP u4) (boxP u5)
            exact ⟨T, HH, runLS_step mix e6 ⟨w13, bne_self_eq_false _, hpn, ho, w14, hk1, hk2, decide_eq_true hlow, wakes_c, trivial⟩, hv⟩
      obtain ⟨T, HH, hT, hv⟩ := tl
      exact callsV_step Try.func3 b3_eq (StepV.seq s0 (StepV.seq s1 (StepV.seq s2 (StepV.seq s3 (StepV.seq (StepV.seq s4 (LoopN.loop hl).block) hT))))) rfl hv rfl (fun _ _ h => by cases h) rfl
theorem law3 (M : List Int) (L : List Bd) : SemB KI KB Try.prog 3 (fun s s' => #[cv s g bx to nr me, sv st s']) M L (bb true) := by
  refine exb_all st g bx to nr me M L (fun hM hc h => ?_)
  have hL : L ≠ [] := fun e => by rw [e, right_0] at h; cases h
  exact semB_law false false (ren_cs st g bx to nr me) rfl (fun e _ => absurd e hM) (fun e => absurd e hM) (fun e => absurd e hL) (fun off cap off' cap' hl hcp hl' hc' => ⟨[], exact_ok hM hc h off cap off' cap' hl hcp hl' hc'⟩)
end

end Go.Proofs.Ytpllklojcjhjaaa
