/- Texts of the seat, joined. -/
import Derived.Test.YtmikjgflenbljaaZz27
import Derived.Test.YtmikjgflenbljaaZz24
/- The law StateTurned, walked. -/
namespace Go.Proofs.Ytmikjgflenbljaa
open Go Go.RowKit
set_option linter.unusedSimpArgs false
set_option linter.unusedVariables false
set_option maxRecDepth 100000

theorem nself (x : Int) : (x != x) = false := by simp
theorem nselfB (x : Bool) : (!(x == x)) = false := by cases x <;> rfl
theorem nselfV (a b c d e g : Int) : (!(((a == a) && ((b == b) && ((c == c) && (true)))) && (((d == d) && ((e == e) && ((g == g) && (true)))) && (true)))) = false := by simp
theorem wi_neg2 {x : Int} (h : -1073741824 ≤ x ∧ x ≤ 1073741824) : wi (0 - wi (0 - x)) = x := by
  unfold wi
  rw [wrapI (z := 0 - x) (by omega), wrapI (by omega)]
  omega
theorem tbd2 {b : Bd} (h : bwth 1048576 65536 b = true) : tbd (tbd b) = b := by
  unfold bwth at h
  rw [Bool.and_eq_true, wth_iff, wth_iff] at h
  obtain ⟨x, y, z, w⟩ := b
  simp only at h
  unfold tbd ngP
  simp only
  rw [wi_neg2 (by omega), wi_neg2 (by omega), wi_neg2 (by omega)]
theorem tbd_in {b : Bd} (h : bwth 1048576 65536 b = true) : bwth 1048576 65536 (tbd b) = true := by
  unfold bwth at h ⊢
  rw [Bool.and_eq_true, wth_iff, wth_iff] at h ⊢
  unfold tbd ngP wi
  simp only
  rw [wrapI (by omega), wrapI (by omega), wrapI (by omega)]
  omega
theorem right_tbd {st : Int} {L : List Bd} (h : rightV st L = true) : rightV (wi (0 - st)) (L.map tbd) = true := by
  have k := rightV_iff.1 h
  rw [rightV_iff]
  have e : wi (0 - st) = -st := by unfold wi; rw [wrapI (by omega)]; omega
  rw [e, List.length_map]
  refine ⟨by omega, k.2.1, fun b hb => ?_⟩
  obtain ⟨x, hx, rfl⟩ := List.mem_map.1 hb
  exact tbd_in (k.2.2 x hx)
theorem turned4_1 (st : Int) (a : Bd) (cap : Nat) (hc : 1 ≤ cap ∧ cap ≤ maxLen) (hr : rightV st [a] = true) : CallsV Try.prog (.func 4) #[sv st (slw 1 0 1 cap)] [(1, wob [a])] (rt (bb true)) [(1, wob [a])] := by
  have hb := rightV_iff.1 hr
  have ea : tbd (tbd a) = a := tbd2 (hb.2.2 a (by simp))
  have es : wi (0 - wi (0 - st)) = st := wi_neg2 hb.1
  have h9 : CallsV Try.prog (.func 9) #[sv st (slw 1 0 1 cap)] [(1, wob [a])] (rt (bb (rightV st [a]))) [(1, wob [a])] := at_seen (L := [a]) (rright_at st [a]) (ren_sv st) rfl rfl hc.1 hc.2
  rw [hr] at h9
  have t1 := runF_calls mix (t13_1 st cap a) ⟨neg_v a.2, trivial⟩ rfl rfl
  have t2 := runF_calls mix (t13o_1 (wi (0 - st)) (tbd a)) ⟨neg_v (tbd a).2, trivial⟩ rfl rfl
  rw [es, ea] at t2
  have l1 : CallsV Try.prog (.func 14) #[sv st (slw 1 0 1 cap)] [(1, wob [a])] (rt (tpL (leastV st [a]))) [(1, wob [a])] := at_seen (L := [a]) (least_at st [a]) (ren_sv st) rfl rfl hc.1 hc.2
  have l2 : CallsV Try.prog (.func 14) #[sv (wi (0 - st)) (slw 3004 0 1 capU)] [(3004, gob [tbd a])] (rt (tpL (leastV (wi (0 - st)) [tbd a]))) [(3004, gob [tbd a])] := at_own (L := [tbd a]) (least_at (wi (0 - st)) [tbd a]) (ren_sv _) rfl rfl
  have r2 : CallsV Try.prog (.func 15) #[sv (wi (0 - st)) (slw 3004 0 1 capU)] [(3004, gob [tbd a])] (rt (bb (rightV (wi (0 - st)) [tbd a]))) [(3004, gob [tbd a])] := at_own (L := [tbd a]) (right_at (wi (0 - st)) [tbd a]) (ren_sv _) rfl rfl
  have hr2 : rightV (wi (0 - st)) [tbd a] = true := right_tbd hr
  rw [hr2] at r2
  have el : leastV (wi (0 - st)) [tbd a] = leastV st [a] := by
    unfold leastV
    rw [hr, hr2]
    rfl
  rw [el] at l2
  have s1 := runF_calls mix (same_1 st cap a) ⟨nself _, nselfV _ _ _ _ _ _, trivial⟩ rfl rfl
  exact runF_calls mix (l4_1 st (leastV st [a]).1 (leastV st [a]).2 cap a) ⟨h9, t1, l1, l2, r2, t2, s1, nself _, nself _, nselfB _, nself _, nself _, nself _, nself _, nself _, nself _, wakes_c, trivial⟩ rfl rfl
theorem turned4_2 (st : Int) (a b : Bd) (cap : Nat) (hc : 2 ≤ cap ∧ cap ≤ maxLen) (hr : rightV st [a, b] = true) : CallsV Try.prog (.func 4) #[sv st (slw 1 0 2 cap)] [(1, wob [a, b])] (rt (bb true)) [(1, wob [a, b])] := by
  have hb := rightV_iff.1 hr
  have ea : tbd (tbd a) = a := tbd2 (hb.2.2 a (by simp))
  have eb : tbd (tbd b) = b := tbd2 (hb.2.2 b (by simp))
  have es : wi (0 - wi (0 - st)) = st := wi_neg2 hb.1
  have h9 : CallsV Try.prog (.func 9) #[sv st (slw 1 0 2 cap)] [(1, wob [a, b])] (rt (bb (rightV st [a, b]))) [(1, wob [a, b])] := at_seen (L := [a, b]) (rright_at st [a, b]) (ren_sv st) rfl rfl hc.1 hc.2
  rw [hr] at h9
  have t1 := runF_calls mix (t13_2 st cap a b) ⟨neg_v a.2, neg_v b.2, trivial⟩ rfl rfl
  have t2 := runF_calls mix (t13o_2 (wi (0 - st)) (tbd a) (tbd b)) ⟨neg_v (tbd a).2, neg_v (tbd b).2, trivial⟩ rfl rfl
  rw [es, ea, eb] at t2
  have l1 : CallsV Try.prog (.func 14) #[sv st (slw 1 0 2 cap)] [(1, wob [a, b])] (rt (tpL (leastV st [a, b]))) [(1, wob [a, b])] := at_seen (L := [a, b]) (least_at st [a, b]) (ren_sv st) rfl rfl hc.1 hc.2
  have l2 : CallsV Try.prog (.func 14) #[sv (wi (0 - st)) (slw 3004 0 2 capU)] [(3004, gob [tbd a, tbd b])] (rt (tpL (leastV (wi (0 - st)) [tbd a, tbd b]))) [(3004, gob [tbd a, tbd b])] := at_own (L := [tbd a, tbd b]) (least_at (wi (0 - st)) [tbd a, tbd b]) (ren_sv _) rfl rfl
  have r2 : CallsV Try.prog (.func 15) #[sv (wi (0 - st)) (slw 3004 0 2 capU)] [(3004, gob [tbd a, tbd b])] (rt (bb (rightV (wi (0 - st)) [tbd a, tbd b]))) [(3004, gob [tbd a, tbd b])] := at_own (L := [tbd a, tbd b]) (right_at (wi (0 - st)) [tbd a, tbd b]) (ren_sv _) rfl rfl
  have hr2 : rightV (wi (0 - st)) [tbd a, tbd b] = true := right_tbd hr
  rw [hr2] at r2
  have el : leastV (wi (0 - st)) [tbd a, tbd b] = leastV st [a, b] := by
    unfold leastV
    rw [hr, hr2]
    rfl
  rw [el] at l2
  have s1 := runF_calls mix (same_2 st cap a b) ⟨nself _, nselfV _ _ _ _ _ _, nselfV _ _ _ _ _ _, trivial⟩ rfl rfl
  exact runF_calls mix (l4_2 st (leastV st [a, b]).1 (leastV st [a, b]).2 cap a b) ⟨h9, t1, l1, l2, r2, t2, s1, nself _, nself _, nselfB _, nself _, nself _, nself _, nself _, nself _, nself _, nself _, nself _, nself _, nself _, nself _, nself _, wakes_c, trivial⟩ rfl rfl
theorem turned4_3 (st : Int) (a b d : Bd) (cap : Nat) (hc : 3 ≤ cap ∧ cap ≤ maxLen) (hr : rightV st [a, b, d] = true) : CallsV Try.prog (.func 4) #[sv st (slw 1 0 3 cap)] [(1, wob [a, b, d])] (rt (bb true)) [(1, wob [a, b, d])] := by
  have hb := rightV_iff.1 hr
  have ea : tbd (tbd a) = a := tbd2 (hb.2.2 a (by simp))
  have eb : tbd (tbd b) = b := tbd2 (hb.2.2 b (by simp))
  have ed : tbd (tbd d) = d := tbd2 (hb.2.2 d (by simp))
  have es : wi (0 - wi (0 - st)) = st := wi_neg2 hb.1
  have h9 : CallsV Try.prog (.func 9) #[sv st (slw 1 0 3 cap)] [(1, wob [a, b, d])] (rt (bb (rightV st [a, b, d]))) [(1, wob [a, b, d])] := at_seen (L := [a, b, d]) (rright_at st [a, b, d]) (ren_sv st) rfl rfl hc.1 hc.2
  rw [hr] at h9
  have t1 := runF_calls mix (t13_3 st cap a b d) ⟨neg_v a.2, neg_v b.2, neg_v d.2, trivial⟩ rfl rfl
  have t2 := runF_calls mix (t13o_3 (wi (0 - st)) (tbd a) (tbd b) (tbd d)) ⟨neg_v (tbd a).2, neg_v (tbd b).2, neg_v (tbd d).2, trivial⟩ rfl rfl
  rw [es, ea, eb, ed] at t2
  have l1 : CallsV Try.prog (.func 14) #[sv st (slw 1 0 3 cap)] [(1, wob [a, b, d])] (rt (tpL (leastV st [a, b, d]))) [(1, wob [a, b, d])] := at_seen (L := [a, b, d]) (least_at st [a, b, d]) (ren_sv st) rfl rfl hc.1 hc.2
  have l2 : CallsV Try.prog (.func 14) #[sv (wi (0 - st)) (slw 3004 0 3 capU)] [(3004, gob [tbd a, tbd b, tbd d])] (rt (tpL (leastV (wi (0 - st)) [tbd a, tbd b, tbd d]))) [(3004, gob [tbd a, tbd b, tbd d])] := at_own (L := [tbd a, tbd b, tbd d]) (least_at (wi (0 - st)) [tbd a, tbd b, tbd d]) (ren_sv _) rfl rfl
  have r2 : CallsV Try.prog (.func 15) #[sv (wi (0 - st)) (slw 3004 0 3 capU)] [(3004, gob [tbd a, tbd b, tbd d])] (rt (bb (rightV (wi (0 - st)) [tbd a, tbd b, tbd d]))) [(3004, gob [tbd a, tbd b, tbd d])] := at_own (L := [tbd a, tbd b, tbd d]) (right_at (wi (0 - st)) [tbd a, tbd b, tbd d]) (ren_sv _) rfl rfl
  have hr2 : rightV (wi (0 - st)) [tbd a, tbd b, tbd d] = true := right_tbd hr
  rw [hr2] at r2
  have el : leastV (wi (0 - st)) [tbd a, tbd b, tbd d] = leastV st [a, b, d] := by
    unfold leastV
    rw [hr, hr2]
    rfl
  rw [el] at l2
  have s1 := runF_calls mix (same_3 st cap a b d) ⟨nself _, nselfV _ _ _ _ _ _, nselfV _ _ _ _ _ _, nselfV _ _ _ _ _ _, trivial⟩ rfl rfl
  exact runF_calls mix (l4_3 st (leastV st [a, b, d]).1 (leastV st [a, b, d]).2 cap a b d) ⟨h9, t1, l1, l2, r2, t2, s1, nself _, nself _, nselfB _, nself _, nself _, nself _, nself _, nself _, nself _, nself _, nself _, nself _, nself _, nself _, nself _, nself _, nself _, nself _, nself _, nself _, nself _, wakes_c, trivial⟩ rfl rfl
theorem turned4_4 (st : Int) (a b d e : Bd) (cap : Nat) (hc : 4 ≤ cap ∧ cap ≤ maxLen) (hr : rightV st [a, b, d, e] = true) : CallsV Try.prog (.func 4) #[sv st (slw 1 0 4 cap)] [(1, wob [a, b, d, e])] (rt (bb true)) [(1, wob [a, b, d, e])] := by
  have hb := rightV_iff.1 hr
  have ea : tbd (tbd a) = a := tbd2 (hb.2.2 a (by simp))
  have eb : tbd (tbd b) = b := tbd2 (hb.2.2 b (by simp))
  have ed : tbd (tbd d) = d := tbd2 (hb.2.2 d (by simp))
  have ee : tbd (tbd e) = e := tbd2 (hb.2.2 e (by simp))
  have es : wi (0 - wi (0 - st)) = st := wi_neg2 hb.1
  have h9 : CallsV Try.prog (.func 9) #[sv st (slw 1 0 4 cap)] [(1, wob [a, b, d, e])] (rt (bb (rightV st [a, b, d, e]))) [(1, wob [a, b, d, e])] := at_seen (L := [a, b, d, e]) (rright_at st [a, b, d, e]) (ren_sv st) rfl rfl hc.1 hc.2
  rw [hr] at h9
  have t1 := runF_calls mix (t13_4 st cap a b d e) ⟨neg_v a.2, neg_v b.2, neg_v d.2, neg_v e.2, trivial⟩ rfl rfl
  have t2 := runF_calls mix (t13o_4 (wi (0 - st)) (tbd a) (tbd b) (tbd d) (tbd e)) ⟨neg_v (tbd a).2, neg_v (tbd b).2, neg_v (tbd d).2, neg_v (tbd e).2, trivial⟩ rfl rfl
  rw [es, ea, eb, ed, ee] at t2
  have l1 : CallsV Try.prog (.func 14) #[sv st (slw 1 0 4 cap)] [(1, wob [a, b, d, e])] (rt (tpL (leastV st [a, b, d, e]))) [(1, wob [a, b, d, e])] := at_seen (L := [a, b, d, e]) (least_at st [a, b, d, e]) (ren_sv st) rfl rfl hc.1 hc.2
  have l2 : CallsV Try.prog (.func 14) #[sv (wi (0 - st)) (slw 3004 0 4 capU)] [(3004, gob [tbd a, tbd b, tbd d, tbd e])] (rt (tpL (leastV (wi (0 - st)) [tbd a, tbd b, tbd d, tbd e]))) [(3004, gob [tbd a, tbd b, tbd d, tbd e])] := at_own (L := [tbd a, tbd b, tbd d, tbd e]) (least_at (wi (0 - st)) [tbd a, tbd b, tbd d, tbd e]) (ren_sv _) rfl rfl
  have r2 : CallsV Try.prog (.func 15) #[sv (wi (0 - st)) (slw 3004 0 4 capU)] [(3004, gob [tbd a, tbd b, tbd d, tbd e])] (rt (bb (rightV (wi (0 - st)) [tbd a, tbd b, tbd d, tbd e]))) [(3004, gob [tbd a, tbd b, tbd d, tbd e])] := at_own (L := [tbd a, tbd b, tbd d, tbd e]) (right_at (wi (0 - st)) [tbd a, tbd b, tbd d, tbd e]) (ren_sv _) rfl rfl
  have hr2 : rightV (wi (0 - st)) [tbd a, tbd b, tbd d, tbd e] = true := right_tbd hr
  rw [hr2] at r2
  have el : leastV (wi (0 - st)) [tbd a, tbd b, tbd d, tbd e] = leastV st [a, b, d, e] := by
    unfold leastV
    rw [hr, hr2]
    rfl
  rw [el] at l2
  have s1 := runF_calls mix (same_4 st cap a b d e) ⟨nself _, nselfV _ _ _ _ _ _, nselfV _ _ _ _ _ _, nselfV _ _ _ _ _ _, nselfV _ _ _ _ _ _, trivial⟩ rfl rfl
  exact runF_calls mix (l4_4 st (leastV st [a, b, d, e]).1 (leastV st [a, b, d, e]).2 cap a b d e) ⟨h9, t1, l1, l2, r2, t2, s1, nself _, nself _, nselfB _, nself _, nself _, nself _, nself _, nself _, nself _, nself _, nself _, nself _, nself _, nself _, nself _, nself _, nself _, nself _, nself _, nself _, nself _, nself _, nself _, nself _, nself _, nself _, nself _, wakes_c, trivial⟩ rfl rfl
/-- The law, of a list that lies in a window. -/
theorem turned4_at (st : Int) (L : List Bd) : AtW Try.prog 4 (fun s => #[sv st s]) L (bb true) := by
  cases hr : rightV st L
  · refine at_of_win (ren_sv st) rfl (fun off cap hl hc => ?_)
    by_cases k1 : 9 < (L.length : Int)
    · exact runF_calls mix (l4_a st off L.length cap _) ⟨decide_eq_true k1, wakes_c, trivial⟩ rfl rfl
    have w2 := at_chan (rright_at st L) (ren_sv st) rfl (H := HWb off L) (k := 1) rfl hl hc
    rw [hr] at w2
    exact runF_calls mix (l4_b st off L.length cap _) ⟨decide_eq_false k1, w2, wakes_c, trivial⟩ rfl rfl
  · have hr' := rightV_iff.1 hr
    match L, hr, hr' with
    | [a], hr, _ => exact at_of_seen (ren_sv st) rfl (fun cap hl hc => turned4_1 st a cap ⟨hl, hc⟩ hr)
    | [a, b], hr, _ => exact at_of_seen (ren_sv st) rfl (fun cap hl hc => turned4_2 st a b cap ⟨hl, hc⟩ hr)
    | [a, b, d], hr, _ => exact at_of_seen (ren_sv st) rfl (fun cap hl hc => turned4_3 st a b d cap ⟨hl, hc⟩ hr)
    | [a, b, d, e], hr, _ => exact at_of_seen (ren_sv st) rfl (fun cap hl hc => turned4_4 st a b d e cap ⟨hl, hc⟩ hr)
    | [], _, h => exact absurd h.2.1.1 (by decide)
    | _ :: _ :: _ :: _ :: _ :: r, _, h => exact absurd h.2.1.2 (by simp)
theorem turned4_nil (st : Int) : PureX Try.prog 4 #[sv st sl0] (rt (bb true)) := runF_pure mix (l4_nil st) ⟨rright_nil st, wakes_c, trivial⟩ rfl rfl
end Go.Proofs.Ytmikjgflenbljaa
