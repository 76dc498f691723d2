/- Texts of the seat, joined. -/
import Derived.Test.YtelohlpjgfknoaaZz12
import Derived.Test.YtelohlpjgfknoaaZz20
import Derived.Test.YtelohlpjgfknoaaZz19
/- ConfFewer, wherever its masses lie. -/
namespace Go.Proofs.Ytelohlpjgfknoaa
open Go Go.RowKit
set_option linter.unusedSimpArgs false
set_option linter.unusedVariables false
set_option maxRecDepth 100000

theorem inZ_no {x lo hi : Int} (h : ¬ (lo ≤ x ∧ x ≤ hi)) : inZ x lo hi = false := by
  cases e : inZ x lo hi
  · rfl
  · exact absurd (inZ_iff.1 e) h
theorem len_in {L : List Int} (h : 1 ≤ L.length ∧ L.length ≤ 4) : inZ (L.length : Int) 1 4 = true := inZ_iff.2 (by omega)
theorem why_mass (g b t' q m : Int) {L : List Int} (h : 1 ≤ L.length ∧ L.length ≤ 4) (hl : lightL L = false) : whyL L g b t' q m = nMass := by
  simp only [whyL, len_in h, hl, Bool.true_eq_false, if_false, if_true, reduceIte]
theorem why_nil (g b t' q m : Int) : whyL [] g b t' q m = nBodies := by
  simp [whyL, inZ]
theorem no_mass {g b t' q m : Int} {L : List Int} (h : whyL L g b t' q m = nMass) : ¬ okL L g b t' q m := fun hk => by
  unfold okL at hk
  rw [h] at hk
  cases hk
theorem ok_of {g b t' q m : Int} {L M : List Int} (h : okL L g b t' q m) (hM : 1 ≤ M.length ∧ M.length ≤ 4) (hl : lightL M = true) : okL M g b t' q m := by
  obtain ⟨-, -, h1, h2, h3, h4, h5⟩ := ok_parts h
  unfold okL whyL
  simp only [len_in hM, hl, h1, h2, h3, h4, h5, Bool.true_eq_false, if_false, reduceIte]
theorem why_n1 (g b t' q m : Int) {L : List Int} {x : List UInt8} (h : whyL L g b t' q m = x) : Sem1 Try.prog 17 (fun s => #[cv s g b t' q m]) L (str x) := h ▸ why_s g b t' q m L
theorem at_in (a : Int) (n : Int) (hn : 0 < n) (hs : n ≤ 4) : 0 ≤ (wi (a.tmod n + n)).tmod n ∧ (wi (a.tmod n + n)).tmod n < n := by
  have h1 : -n < a.tmod n ∧ a.tmod n < n := by
    have h := Int.natAbs_tmod a n
    have h1 := Nat.mod_lt a.natAbs (show 0 < n.natAbs by omega)
    omega
  have e : wi (a.tmod n + n) = a.tmod n + n := by unfold wi; rw [wrapI (by omega)]
  rw [e]
  exact ⟨Int.tmod_nonneg _ (by omega), Int.tmod_lt_of_pos _ hn⟩
theorem c5_10 (cap1 : Nat) (a1 g b t' q m at' off r : Int) (h1 : 1 ≤ cap1) (h1' : cap1 ≤ maxLen) (ok : okL [a1] g b t' q m) (ho : 1 ≤ off ∧ off ≤ 1073741824) (hr : at'.tmod 1 = r) (hk : (wi (r + 1)).tmod 1 = 0) : CallsV Try.prog (.func 5) #[cv (slw 1 0 1 cap1) g b t' q m, ii at', ii off] [(1, wib [a1])] (rt (bb true)) [] := by
  have hp := ok_parts ok
  have hl := hp.2.1
  simp only [lightL, List.all_cons, List.all_nil, Bool.and_true, Bool.and_eq_true, inZ_iff] at hl
  have e1 : wi (1 - off) = 1 - off := by unfold wi; rw [wrapI (by omega)]
  have e2 : wi (1024 + off) = 1024 + off := by unfold wi; rw [wrapI (by omega)]
  have hlow : whyL [wi (1 - off)] g b t' q m = nMass := why_mass g b t' q m ⟨by simp, by simp⟩ (by simp only [lightL, List.all_cons, List.all_nil, e1, (show inZ (1 - off) 1 1024 = false from inZ_no (by omega)), Bool.false_and, Bool.and_false])
  have hhigh : whyL [wi (1024 + off)] g b t' q m = nMass := why_mass g b t' q m ⟨by simp, by simp⟩ (by simp only [lightL, List.all_cons, List.all_nil, e2, (show inZ (1024 + off) 1 1024 = false from inZ_no (by omega)), Bool.false_and, Bool.and_false])
  exact runF_calls mix (l5_10 cap1 a1 g b t' q m at' off r) ⟨chk_i g b t' q m 16 (dchk_p g b t' q m) (L := [a1]) h1 h1' (chk_ok ok), decide_eq_false (by omega), decide_eq_false (by omega), ⟨by decide, hr⟩, ⟨by decide, hk⟩, runF_calls mix (own25_1_2001 cap1 a1 g b t' q m) trivial rfl rfl, runF_calls mix (own25_1_2002 cap1 a1 g b t' q m) trivial rfl rfl, runF_calls mix (own25_1_2003 cap1 a1 g b t' q m) trivial rfl rfl, ⟨h1, h1'⟩, ⟨h1, h1'⟩, sem1_calls (why_n1 g b t' q m hlow) (ren_cv g b t' q m) rfl (H := [(2002, gib [wi (1 - off)])]) (s := slw 2002 0 1 capU) (fun β w hR => ll_grow (L := [wi (1 - off)]) hR rfl), sem1_calls (why_n1 g b t' q m hhigh) (ren_cv g b t' q m) rfl (H := [(2003, gib [wi (1024 + off)])]) (s := slw 2003 0 1 capU) (fun β w hR => ll_grow (L := [wi (1024 + off)]) hR rfl), sem1_calls (tot_no g b t' q m (no_mass hlow)) (ren_cv g b t' q m) rfl (H := [(2002, gib [wi (1 - off)])]) (s := slw 2002 0 1 capU) (fun β w hR => ll_grow (L := [wi (1 - off)]) hR rfl), sem1_calls (pairs_no g b t' q m (no_mass hhigh)) (ren_cv g b t' q m) rfl (H := [(2003, gib [wi (1024 + off)])]) (s := slw 2003 0 1 capU) (fun β w hR => ll_grow (L := [wi (1024 + off)]) hR rfl), sem1_calls (why_n1 g b t' q m (why_nil g b t' q m)) (ren_cv g b t' q m) rfl (H := [(5004, .cells #[] 3 (0, 0))]) (s := slw 5004 0 0 0) (fun β w hR => ll_cells (L := []) (M := []) hR rfl rfl (Nat.le_refl _) (Nat.zero_le _)), sem1_calls (chk_p g b t' q m 110 [] (chk_no ok_nil)) (ren_cv g b t' q m) rfl (H := [(5004, .cells #[] 3 (0, 0))]) (s := slw 5004 0 0 0) (fun β w hR => ll_cells (L := []) (M := []) hR rfl rfl (Nat.le_refl _) (Nat.zero_le _)), wakes_c, trivial⟩ rfl rfl
theorem c5_20 (cap1 : Nat) (a1 a2 g b t' q m at' off r : Int) (h1 : 2 ≤ cap1) (h1' : cap1 ≤ maxLen) (ok : okL [a1, a2] g b t' q m) (ho : 1 ≤ off ∧ off ≤ 1073741824) (hr : at'.tmod 2 = r) (hk : (wi (r + 2)).tmod 2 = 0) : CallsV Try.prog (.func 5) #[cv (slw 1 0 2 cap1) g b t' q m, ii at', ii off] [(1, wib [a1, a2])] (rt (bb true)) [] := by
  have hp := ok_parts ok
  have hl := hp.2.1
  simp only [lightL, List.all_cons, List.all_nil, Bool.and_true, Bool.and_eq_true, inZ_iff] at hl
  have e1 : wi (1 - off) = 1 - off := by unfold wi; rw [wrapI (by omega)]
  have e2 : wi (1024 + off) = 1024 + off := by unfold wi; rw [wrapI (by omega)]
  have hlow : whyL [wi (1 - off), a2] g b t' q m = nMass := why_mass g b t' q m ⟨by simp, by simp⟩ (by simp only [lightL, List.all_cons, List.all_nil, e1, (show inZ (1 - off) 1 1024 = false from inZ_no (by omega)), Bool.false_and, Bool.and_false])
  have hhigh : whyL [wi (1024 + off), a2] g b t' q m = nMass := why_mass g b t' q m ⟨by simp, by simp⟩ (by simp only [lightL, List.all_cons, List.all_nil, e2, (show inZ (1024 + off) 1 1024 = false from inZ_no (by omega)), Bool.false_and, Bool.and_false])
  have okd : okL [a2] g b t' q m := ok_of ok ⟨by simp, by simp⟩ (by simp only [lightL, List.all_cons, List.all_nil, Bool.and_true, Bool.and_eq_true, inZ_iff]; omega)
  have w : ∀ z : Int, -9223372036854775808 ≤ z ∧ z < 9223372036854775808 → wi z = z := fun z h => wrapI h
  have hsum : (totL [a2] == wi (totL [a1, a2] - a1)) = true := by
    show (wi (0 + a2) == wi (wi (wi (0 + a1) + a2) - a1)) = true
    try rw [w (0 + a2) (by omega)]
    try rw [w (0 + a1) (by omega)]
    try rw [w (0 + a1 + a2) (by omega)]
    try rw [w (0 + a1 + a2 - a1) (by omega)]
    exact beq_iff_eq.2 (by omega)
  exact runF_calls mix (l5_20 cap1 a1 a2 g b t' q m at' off r (totL [a2]) (totL [a1, a2]) (pairsN ((1 : Nat) : Int)) (pairsN ((2 : Nat) : Int))) ⟨chk_i g b t' q m 16 (dchk_p g b t' q m) (L := [a1, a2]) h1 h1' (chk_ok ok), decide_eq_false (by omega), decide_eq_false (by omega), ⟨by decide, hr⟩, ⟨by decide, hk⟩, runF_calls mix (own25_2_2001 cap1 a1 a2 g b t' q m) trivial rfl rfl, runF_calls mix (own25_2_2002 cap1 a1 a2 g b t' q m) trivial rfl rfl, runF_calls mix (own25_2_2003 cap1 a1 a2 g b t' q m) trivial rfl rfl, ⟨h1, h1'⟩, ⟨h1, h1'⟩, sem1_calls (why_n1 g b t' q m hlow) (ren_cv g b t' q m) rfl (H := [(2002, gib [wi (1 - off), a2])]) (s := slw 2002 0 2 capU) (fun β w hR => ll_grow (L := [wi (1 - off), a2]) hR rfl), sem1_calls (why_n1 g b t' q m hhigh) (ren_cv g b t' q m) rfl (H := [(2003, gib [wi (1024 + off), a2])]) (s := slw 2003 0 2 capU) (fun β w hR => ll_grow (L := [wi (1024 + off), a2]) hR rfl), sem1_calls (tot_no g b t' q m (no_mass hlow)) (ren_cv g b t' q m) rfl (H := [(2002, gib [wi (1 - off), a2])]) (s := slw 2002 0 2 capU) (fun β w hR => ll_grow (L := [wi (1 - off), a2]) hR rfl), sem1_calls (pairs_no g b t' q m (no_mass hhigh)) (ren_cv g b t' q m) rfl (H := [(2003, gib [wi (1024 + off), a2])]) (s := slw 2003 0 2 capU) (fun β w hR => ll_grow (L := [wi (1024 + off), a2]) hR rfl), sem1_calls (chk_p g b t' q m 0 [a2] (chk_ok okd)) (ren_cv g b t' q m) rfl (H := [(5005, gib [a2])]) (s := slw 5005 0 1 capU) (fun β w hR => ll_grow (L := [a2]) hR rfl), ⟨rfl, trivial⟩, sem1_calls (tot_yes g b t' q m okd) (ren_cv g b t' q m) rfl (H := [(5005, gib [a2])]) (s := slw 5005 0 1 capU) (fun β w hR => ll_grow (L := [a2]) hR rfl), ⟨rfl, trivial⟩, sem1_calls (tot_yes g b t' q m ok) (ren_cv g b t' q m) rfl (H := [(1, wib [a1, a2])]) (s := slw 1 0 2 cap1) (fun β w hR => ll_seen (L := [a1, a2]) hR rfl h1 h1'), ⟨rfl, trivial⟩, hsum, sem1_calls (pairs_yes g b t' q m okd) (ren_cv g b t' q m) rfl (H := [(5005, gib [a2])]) (s := slw 5005 0 1 capU) (fun β w hR => ll_grow (L := [a2]) hR rfl), ⟨rfl, trivial⟩, sem1_calls (pairs_yes g b t' q m ok) (ren_cv g b t' q m) rfl (H := [(1, wib [a1, a2])]) (s := slw 1 0 2 cap1) (fun β w hR => ll_seen (L := [a1, a2]) hR rfl h1 h1'), ⟨rfl, trivial⟩, by decide, wakes_c, trivial⟩ rfl rfl
theorem c5_21 (cap1 : Nat) (a1 a2 g b t' q m at' off r : Int) (h1 : 2 ≤ cap1) (h1' : cap1 ≤ maxLen) (ok : okL [a1, a2] g b t' q m) (ho : 1 ≤ off ∧ off ≤ 1073741824) (hr : at'.tmod 2 = r) (hk : (wi (r + 2)).tmod 2 = 1) : CallsV Try.prog (.func 5) #[cv (slw 1 0 2 cap1) g b t' q m, ii at', ii off] [(1, wib [a1, a2])] (rt (bb true)) [] := by
  have hp := ok_parts ok
  have hl := hp.2.1
  simp only [lightL, List.all_cons, List.all_nil, Bool.and_true, Bool.and_eq_true, inZ_iff] at hl
  have e1 : wi (1 - off) = 1 - off := by unfold wi; rw [wrapI (by omega)]
  have e2 : wi (1024 + off) = 1024 + off := by unfold wi; rw [wrapI (by omega)]
  have hlow : whyL [a1, wi (1 - off)] g b t' q m = nMass := why_mass g b t' q m ⟨by simp, by simp⟩ (by simp only [lightL, List.all_cons, List.all_nil, e1, (show inZ (1 - off) 1 1024 = false from inZ_no (by omega)), Bool.false_and, Bool.and_false])
  have hhigh : whyL [a1, wi (1024 + off)] g b t' q m = nMass := why_mass g b t' q m ⟨by simp, by simp⟩ (by simp only [lightL, List.all_cons, List.all_nil, e2, (show inZ (1024 + off) 1 1024 = false from inZ_no (by omega)), Bool.false_and, Bool.and_false])
  have okd : okL [a1] g b t' q m := ok_of ok ⟨by simp, by simp⟩ (by simp only [lightL, List.all_cons, List.all_nil, Bool.and_true, Bool.and_eq_true, inZ_iff]; omega)
  have w : ∀ z : Int, -9223372036854775808 ≤ z ∧ z < 9223372036854775808 → wi z = z := fun z h => wrapI h
  have hsum : (totL [a1] == wi (totL [a1, a2] - a2)) = true := by
    show (wi (0 + a1) == wi (wi (wi (0 + a1) + a2) - a2)) = true
    try rw [w (0 + a1) (by omega)]
    try rw [w (0 + a1) (by omega)]
    try rw [w (0 + a1 + a2) (by omega)]
    try rw [w (0 + a1 + a2 - a2) (by omega)]
    exact beq_iff_eq.2 (by omega)
  exact runF_calls mix (l5_21 cap1 a1 a2 g b t' q m at' off r (totL [a1]) (totL [a1, a2]) (pairsN ((1 : Nat) : Int)) (pairsN ((2 : Nat) : Int))) ⟨chk_i g b t' q m 16 (dchk_p g b t' q m) (L := [a1, a2]) h1 h1' (chk_ok ok), decide_eq_false (by omega), decide_eq_false (by omega), ⟨by decide, hr⟩, ⟨by decide, hk⟩, runF_calls mix (own25_2_2001 cap1 a1 a2 g b t' q m) trivial rfl rfl, runF_calls mix (own25_2_2002 cap1 a1 a2 g b t' q m) trivial rfl rfl, runF_calls mix (own25_2_2003 cap1 a1 a2 g b t' q m) trivial rfl rfl, ⟨h1, h1'⟩, ⟨h1, h1'⟩, sem1_calls (why_n1 g b t' q m hlow) (ren_cv g b t' q m) rfl (H := [(2002, gib [a1, wi (1 - off)])]) (s := slw 2002 0 2 capU) (fun β w hR => ll_grow (L := [a1, wi (1 - off)]) hR rfl), sem1_calls (why_n1 g b t' q m hhigh) (ren_cv g b t' q m) rfl (H := [(2003, gib [a1, wi (1024 + off)])]) (s := slw 2003 0 2 capU) (fun β w hR => ll_grow (L := [a1, wi (1024 + off)]) hR rfl), sem1_calls (tot_no g b t' q m (no_mass hlow)) (ren_cv g b t' q m) rfl (H := [(2002, gib [a1, wi (1 - off)])]) (s := slw 2002 0 2 capU) (fun β w hR => ll_grow (L := [a1, wi (1 - off)]) hR rfl), sem1_calls (pairs_no g b t' q m (no_mass hhigh)) (ren_cv g b t' q m) rfl (H := [(2003, gib [a1, wi (1024 + off)])]) (s := slw 2003 0 2 capU) (fun β w hR => ll_grow (L := [a1, wi (1024 + off)]) hR rfl), sem1_calls (chk_p g b t' q m 0 [a1] (chk_ok okd)) (ren_cv g b t' q m) rfl (H := [(5005, gib [a1])]) (s := slw 5005 0 1 capU) (fun β w hR => ll_grow (L := [a1]) hR rfl), ⟨rfl, trivial⟩, sem1_calls (tot_yes g b t' q m okd) (ren_cv g b t' q m) rfl (H := [(5005, gib [a1])]) (s := slw 5005 0 1 capU) (fun β w hR => ll_grow (L := [a1]) hR rfl), ⟨rfl, trivial⟩, sem1_calls (tot_yes g b t' q m ok) (ren_cv g b t' q m) rfl (H := [(1, wib [a1, a2])]) (s := slw 1 0 2 cap1) (fun β w hR => ll_seen (L := [a1, a2]) hR rfl h1 h1'), ⟨rfl, trivial⟩, hsum, sem1_calls (pairs_yes g b t' q m okd) (ren_cv g b t' q m) rfl (H := [(5005, gib [a1])]) (s := slw 5005 0 1 capU) (fun β w hR => ll_grow (L := [a1]) hR rfl), ⟨rfl, trivial⟩, sem1_calls (pairs_yes g b t' q m ok) (ren_cv g b t' q m) rfl (H := [(1, wib [a1, a2])]) (s := slw 1 0 2 cap1) (fun β w hR => ll_seen (L := [a1, a2]) hR rfl h1 h1'), ⟨rfl, trivial⟩, by decide, wakes_c, trivial⟩ rfl rfl
theorem c5_30 (cap1 : Nat) (a1 a2 a3 g b t' q m at' off r : Int) (h1 : 3 ≤ cap1) (h1' : cap1 ≤ maxLen) (ok : okL [a1, a2, a3] g b t' q m) (ho : 1 ≤ off ∧ off ≤ 1073741824) (hr : at'.tmod 3 = r) (hk : (wi (r + 3)).tmod 3 = 0) : CallsV Try.prog (.func 5) #[cv (slw 1 0 3 cap1) g b t' q m, ii at', ii off] [(1, wib [a1, a2, a3])] (rt (bb true)) [] := by
  have hp := ok_parts ok
  have hl := hp.2.1
  simp only [lightL, List.all_cons, List.all_nil, Bool.and_true, Bool.and_eq_true, inZ_iff] at hl
  have e1 : wi (1 - off) = 1 - off := by unfold wi; rw [wrapI (by omega)]
  have e2 : wi (1024 + off) = 1024 + off := by unfold wi; rw [wrapI (by omega)]
  have hlow : whyL [wi (1 - off), a2, a3] g b t' q m = nMass := why_mass g b t' q m ⟨by simp, by simp⟩ (by simp only [lightL, List.all_cons, List.all_nil, e1, (show inZ (1 - off) 1 1024 = false from inZ_no (by omega)), Bool.false_and, Bool.and_false])
  have hhigh : whyL [wi (1024 + off), a2, a3] g b t' q m = nMass := why_mass g b t' q m ⟨by simp, by simp⟩ (by simp only [lightL, List.all_cons, List.all_nil, e2, (show inZ (1024 + off) 1 1024 = false from inZ_no (by omega)), Bool.false_and, Bool.and_false])
  have okd : okL [a2, a3] g b t' q m := ok_of ok ⟨by simp, by simp⟩ (by simp only [lightL, List.all_cons, List.all_nil, Bool.and_true, Bool.and_eq_true, inZ_iff]; omega)
  have w : ∀ z : Int, -9223372036854775808 ≤ z ∧ z < 9223372036854775808 → wi z = z := fun z h => wrapI h
  have hsum : (totL [a2, a3] == wi (totL [a1, a2, a3] - a1)) = true := by
    show (wi (wi (0 + a2) + a3) == wi (wi (wi (wi (0 + a1) + a2) + a3) - a1)) = true
    try rw [w (0 + a2) (by omega)]
    try rw [w (0 + a2 + a3) (by omega)]
    try rw [w (0 + a1) (by omega)]
    try rw [w (0 + a1 + a2) (by omega)]
    try rw [w (0 + a1 + a2 + a3) (by omega)]
    try rw [w (0 + a1 + a2 + a3 - a1) (by omega)]
    exact beq_iff_eq.2 (by omega)
  exact runF_calls mix (l5_30 cap1 a1 a2 a3 g b t' q m at' off r (totL [a2, a3]) (totL [a1, a2, a3]) (pairsN ((2 : Nat) : Int)) (pairsN ((3 : Nat) : Int))) ⟨chk_i g b t' q m 16 (dchk_p g b t' q m) (L := [a1, a2, a3]) h1 h1' (chk_ok ok), decide_eq_false (by omega), decide_eq_false (by omega), ⟨by decide, hr⟩, ⟨by decide, hk⟩, runF_calls mix (own25_3_2001 cap1 a1 a2 a3 g b t' q m) trivial rfl rfl, runF_calls mix (own25_3_2002 cap1 a1 a2 a3 g b t' q m) trivial rfl rfl, runF_calls mix (own25_3_2003 cap1 a1 a2 a3 g b t' q m) trivial rfl rfl, ⟨h1, h1'⟩, ⟨h1, h1'⟩, sem1_calls (why_n1 g b t' q m hlow) (ren_cv g b t' q m) rfl (H := [(2002, gib [wi (1 - off), a2, a3])]) (s := slw 2002 0 3 capU) (fun β w hR => ll_grow (L := [wi (1 - off), a2, a3]) hR rfl), sem1_calls (why_n1 g b t' q m hhigh) (ren_cv g b t' q m) rfl (H := [(2003, gib [wi (1024 + off), a2, a3])]) (s := slw 2003 0 3 capU) (fun β w hR => ll_grow (L := [wi (1024 + off), a2, a3]) hR rfl), sem1_calls (tot_no g b t' q m (no_mass hlow)) (ren_cv g b t' q m) rfl (H := [(2002, gib [wi (1 - off), a2, a3])]) (s := slw 2002 0 3 capU) (fun β w hR => ll_grow (L := [wi (1 - off), a2, a3]) hR rfl), sem1_calls (pairs_no g b t' q m (no_mass hhigh)) (ren_cv g b t' q m) rfl (H := [(2003, gib [wi (1024 + off), a2, a3])]) (s := slw 2003 0 3 capU) (fun β w hR => ll_grow (L := [wi (1024 + off), a2, a3]) hR rfl), sem1_calls (chk_p g b t' q m 0 [a2, a3] (chk_ok okd)) (ren_cv g b t' q m) rfl (H := [(5005, gib [a2, a3])]) (s := slw 5005 0 2 capU) (fun β w hR => ll_grow (L := [a2, a3]) hR rfl), ⟨rfl, trivial⟩, sem1_calls (tot_yes g b t' q m okd) (ren_cv g b t' q m) rfl (H := [(5005, gib [a2, a3])]) (s := slw 5005 0 2 capU) (fun β w hR => ll_grow (L := [a2, a3]) hR rfl), ⟨rfl, trivial⟩, sem1_calls (tot_yes g b t' q m ok) (ren_cv g b t' q m) rfl (H := [(1, wib [a1, a2, a3])]) (s := slw 1 0 3 cap1) (fun β w hR => ll_seen (L := [a1, a2, a3]) hR rfl h1 h1'), ⟨rfl, trivial⟩, hsum, sem1_calls (pairs_yes g b t' q m okd) (ren_cv g b t' q m) rfl (H := [(5005, gib [a2, a3])]) (s := slw 5005 0 2 capU) (fun β w hR => ll_grow (L := [a2, a3]) hR rfl), ⟨rfl, trivial⟩, sem1_calls (pairs_yes g b t' q m ok) (ren_cv g b t' q m) rfl (H := [(1, wib [a1, a2, a3])]) (s := slw 1 0 3 cap1) (fun β w hR => ll_seen (L := [a1, a2, a3]) hR rfl h1 h1'), ⟨rfl, trivial⟩, by decide, wakes_c, trivial⟩ rfl rfl
theorem c5_31 (cap1 : Nat) (a1 a2 a3 g b t' q m at' off r : Int) (h1 : 3 ≤ cap1) (h1' : cap1 ≤ maxLen) (ok : okL [a1, a2, a3] g b t' q m) (ho : 1 ≤ off ∧ off ≤ 1073741824) (hr : at'.tmod 3 = r) (hk : (wi (r + 3)).tmod 3 = 1) : CallsV Try.prog (.func 5) #[cv (slw 1 0 3 cap1) g b t' q m, ii at', ii off] [(1, wib [a1, a2, a3])] (rt (bb true)) [] := by
  have hp := ok_parts ok
  have hl := hp.2.1
  simp only [lightL, List.all_cons, List.all_nil, Bool.and_true, Bool.and_eq_true, inZ_iff] at hl
  have e1 : wi (1 - off) = 1 - off := by unfold wi; rw [wrapI (by omega)]
  have e2 : wi (1024 + off) = 1024 + off := by unfold wi; rw [wrapI (by omega)]
  have hlow : whyL [a1, wi (1 - off), a3] g b t' q m = nMass := why_mass g b t' q m ⟨by simp, by simp⟩ (by simp only [lightL, List.all_cons, List.all_nil, e1, (show inZ (1 - off) 1 1024 = false from inZ_no (by omega)), Bool.false_and, Bool.and_false])
  have hhigh : whyL [a1, wi (1024 + off), a3] g b t' q m = nMass := why_mass g b t' q m ⟨by simp, by simp⟩ (by simp only [lightL, List.all_cons, List.all_nil, e2, (show inZ (1024 + off) 1 1024 = false from inZ_no (by omega)), Bool.false_and, Bool.and_false])
  have okd : okL [a1, a3] g b t' q m := ok_of ok ⟨by simp, by simp⟩ (by simp only [lightL, List.all_cons, List.all_nil, Bool.and_true, Bool.and_eq_true, inZ_iff]; omega)
  have w : ∀ z : Int, -9223372036854775808 ≤ z ∧ z < 9223372036854775808 → wi z = z := fun z h => wrapI h
  have hsum : (totL [a1, a3] == wi (totL [a1, a2, a3] - a2)) = true := by
    show (wi (wi (0 + a1) + a3) == wi (wi (wi (wi (0 + a1) + a2) + a3) - a2)) = true
    try rw [w (0 + a1) (by omega)]
    try rw [w (0 + a1 + a3) (by omega)]
    try rw [w (0 + a1) (by omega)]
    try rw [w (0 + a1 + a2) (by omega)]
    try rw [w (0 + a1 + a2 + a3) (by omega)]
    try rw [w (0 + a1 + a2 + a3 - a2) (by omega)]
    exact beq_iff_eq.2 (by omega)
  exact runF_calls mix (l5_31 cap1 a1 a2 a3 g b t' q m at' off r (totL [a1, a3]) (totL [a1, a2, a3]) (pairsN ((2 : Nat) : Int)) (pairsN ((3 : Nat) : Int))) ⟨chk_i g b t' q m 16 (dchk_p g b t' q m) (L := [a1, a2, a3]) h1 h1' (chk_ok ok), decide_eq_false (by omega), decide_eq_false (by omega), ⟨by decide, hr⟩, ⟨by decide, hk⟩, runF_calls mix (own25_3_2001 cap1 a1 a2 a3 g b t' q m) trivial rfl rfl, runF_calls mix (own25_3_2002 cap1 a1 a2 a3 g b t' q m) trivial rfl rfl, runF_calls mix (own25_3_2003 cap1 a1 a2 a3 g b t' q m) trivial rfl rfl, ⟨h1, h1'⟩, ⟨h1, h1'⟩, sem1_calls (why_n1 g b t' q m hlow) (ren_cv g b t' q m) rfl (H := [(2002, gib [a1, wi (1 - off), a3])]) (s := slw 2002 0 3 capU) (fun β w hR => ll_grow (L := [a1, wi (1 - off), a3]) hR rfl), sem1_calls (why_n1 g b t' q m hhigh) (ren_cv g b t' q m) rfl (H := [(2003, gib [a1, wi (1024 + off), a3])]) (s := slw 2003 0 3 capU) (fun β w hR => ll_grow (L := [a1, wi (1024 + off), a3]) hR rfl), sem1_calls (tot_no g b t' q m (no_mass hlow)) (ren_cv g b t' q m) rfl (H := [(2002, gib [a1, wi (1 - off), a3])]) (s := slw 2002 0 3 capU) (fun β w hR => ll_grow (L := [a1, wi (1 - off), a3]) hR rfl), sem1_calls (pairs_no g b t' q m (no_mass hhigh)) (ren_cv g b t' q m) rfl (H := [(2003, gib [a1, wi (1024 + off), a3])]) (s := slw 2003 0 3 capU) (fun β w hR => ll_grow (L := [a1, wi (1024 + off), a3]) hR rfl), sem1_calls (chk_p g b t' q m 0 [a1, a3] (chk_ok okd)) (ren_cv g b t' q m) rfl (H := [(5006, gib [a1, a3])]) (s := slw 5006 0 2 capU) (fun β w hR => ll_grow (L := [a1, a3]) hR rfl), ⟨rfl, trivial⟩, sem1_calls (tot_yes g b t' q m okd) (ren_cv g b t' q m) rfl (H := [(5006, gib [a1, a3])]) (s := slw 5006 0 2 capU) (fun β w hR => ll_grow (L := [a1, a3]) hR rfl), ⟨rfl, trivial⟩, sem1_calls (tot_yes g b t' q m ok) (ren_cv g b t' q m) rfl (H := [(1, wib [a1, a2, a3])]) (s := slw 1 0 3 cap1) (fun β w hR => ll_seen (L := [a1, a2, a3]) hR rfl h1 h1'), ⟨rfl, trivial⟩, hsum, sem1_calls (pairs_yes g b t' q m okd) (ren_cv g b t' q m) rfl (H := [(5006, gib [a1, a3])]) (s := slw 5006 0 2 capU) (fun β w hR => ll_grow (L := [a1, a3]) hR rfl), ⟨rfl, trivial⟩, sem1_calls (pairs_yes g b t' q m ok) (ren_cv g b t' q m) rfl (H := [(1, wib [a1, a2, a3])]) (s := slw 1 0 3 cap1) (fun β w hR => ll_seen (L := [a1, a2, a3]) hR rfl h1 h1'), ⟨rfl, trivial⟩, by decide, wakes_c, trivial⟩ rfl rfl
theorem c5_32 (cap1 : Nat) (a1 a2 a3 g b t' q m at' off r : Int) (h1 : 3 ≤ cap1) (h1' : cap1 ≤ maxLen) (ok : okL [a1, a2, a3] g b t' q m) (ho : 1 ≤ off ∧ off ≤ 1073741824) (hr : at'.tmod 3 = r) (hk : (wi (r + 3)).tmod 3 = 2) : CallsV Try.prog (.func 5) #[cv (slw 1 0 3 cap1) g b t' q m, ii at', ii off] [(1, wib [a1, a2, a3])] (rt (bb true)) [] := by
  have hp := ok_parts ok
  have hl := hp.2.1
  simp only [lightL, List.all_cons, List.all_nil, Bool.and_true, Bool.and_eq_true, inZ_iff] at hl
  have e1 : wi (1 - off) = 1 - off := by unfold wi; rw [wrapI (by omega)]
  have e2 : wi (1024 + off) = 1024 + off := by unfold wi; rw [wrapI (by omega)]
  have hlow : whyL [a1, a2, wi (1 - off)] g b t' q m = nMass := why_mass g b t' q m ⟨by simp, by simp⟩ (by simp only [lightL, List.all_cons, List.all_nil, e1, (show inZ (1 - off) 1 1024 = false from inZ_no (by omega)), Bool.false_and, Bool.and_false])
  have hhigh : whyL [a1, a2, wi (1024 + off)] g b t' q m = nMass := why_mass g b t' q m ⟨by simp, by simp⟩ (by simp only [lightL, List.all_cons, List.all_nil, e2, (show inZ (1024 + off) 1 1024 = false from inZ_no (by omega)), Bool.false_and, Bool.and_false])
  have okd : okL [a1, a2] g b t' q m := ok_of ok ⟨by simp, by simp⟩ (by simp only [lightL, List.all_cons, List.all_nil, Bool.and_true, Bool.and_eq_true, inZ_iff]; omega)
  have w : ∀ z : Int, -9223372036854775808 ≤ z ∧ z < 9223372036854775808 → wi z = z := fun z h => wrapI h
  have hsum : (totL [a1, a2] == wi (totL [a1, a2, a3] - a3)) = true := by
    show (wi (wi (0 + a1) + a2) == wi (wi (wi (wi (0 + a1) + a2) + a3) - a3)) = true
    try rw [w (0 + a1) (by omega)]
    try rw [w (0 + a1 + a2) (by omega)]
    try rw [w (0 + a1) (by omega)]
    try rw [w (0 + a1 + a2) (by omega)]
    try rw [w (0 + a1 + a2 + a3) (by omega)]
    try rw [w (0 + a1 + a2 + a3 - a3) (by omega)]
    exact beq_iff_eq.2 (by omega)
  exact runF_calls mix (l5_32 cap1 a1 a2 a3 g b t' q m at' off r (totL [a1, a2]) (totL [a1, a2, a3]) (pairsN ((2 : Nat) : Int)) (pairsN ((3 : Nat) : Int))) ⟨chk_i g b t' q m 16 (dchk_p g b t' q m) (L := [a1, a2, a3]) h1 h1' (chk_ok ok), decide_eq_false (by omega), decide_eq_false (by omega), ⟨by decide, hr⟩, ⟨by decide, hk⟩, runF_calls mix (own25_3_2001 cap1 a1 a2 a3 g b t' q m) trivial rfl rfl, runF_calls mix (own25_3_2002 cap1 a1 a2 a3 g b t' q m) trivial rfl rfl, runF_calls mix (own25_3_2003 cap1 a1 a2 a3 g b t' q m) trivial rfl rfl, ⟨h1, h1'⟩, ⟨h1, h1'⟩, sem1_calls (why_n1 g b t' q m hlow) (ren_cv g b t' q m) rfl (H := [(2002, gib [a1, a2, wi (1 - off)])]) (s := slw 2002 0 3 capU) (fun β w hR => ll_grow (L := [a1, a2, wi (1 - off)]) hR rfl), sem1_calls (why_n1 g b t' q m hhigh) (ren_cv g b t' q m) rfl (H := [(2003, gib [a1, a2, wi (1024 + off)])]) (s := slw 2003 0 3 capU) (fun β w hR => ll_grow (L := [a1, a2, wi (1024 + off)]) hR rfl), sem1_calls (tot_no g b t' q m (no_mass hlow)) (ren_cv g b t' q m) rfl (H := [(2002, gib [a1, a2, wi (1 - off)])]) (s := slw 2002 0 3 capU) (fun β w hR => ll_grow (L := [a1, a2, wi (1 - off)]) hR rfl), sem1_calls (pairs_no g b t' q m (no_mass hhigh)) (ren_cv g b t' q m) rfl (H := [(2003, gib [a1, a2, wi (1024 + off)])]) (s := slw 2003 0 3 capU) (fun β w hR => ll_grow (L := [a1, a2, wi (1024 + off)]) hR rfl), sem1_calls (chk_p g b t' q m 0 [a1, a2] (chk_ok okd)) (ren_cv g b t' q m) rfl (H := [(5005, gib [a1, a2])]) (s := slw 5005 0 2 capU) (fun β w hR => ll_grow (L := [a1, a2]) hR rfl), ⟨rfl, trivial⟩, sem1_calls (tot_yes g b t' q m okd) (ren_cv g b t' q m) rfl (H := [(5005, gib [a1, a2])]) (s := slw 5005 0 2 capU) (fun β w hR => ll_grow (L := [a1, a2]) hR rfl), ⟨rfl, trivial⟩, sem1_calls (tot_yes g b t' q m ok) (ren_cv g b t' q m) rfl (H := [(1, wib [a1, a2, a3])]) (s := slw 1 0 3 cap1) (fun β w hR => ll_seen (L := [a1, a2, a3]) hR rfl h1 h1'), ⟨rfl, trivial⟩, hsum, sem1_calls (pairs_yes g b t' q m okd) (ren_cv g b t' q m) rfl (H := [(5005, gib [a1, a2])]) (s := slw 5005 0 2 capU) (fun β w hR => ll_grow (L := [a1, a2]) hR rfl), ⟨rfl, trivial⟩, sem1_calls (pairs_yes g b t' q m ok) (ren_cv g b t' q m) rfl (H := [(1, wib [a1, a2, a3])]) (s := slw 1 0 3 cap1) (fun β w hR => ll_seen (L := [a1, a2, a3]) hR rfl h1 h1'), ⟨rfl, trivial⟩, by decide, wakes_c, trivial⟩ rfl rfl
theorem c5_40 (cap1 : Nat) (a1 a2 a3 a4 g b t' q m at' off r : Int) (h1 : 4 ≤ cap1) (h1' : cap1 ≤ maxLen) (ok : okL [a1, a2, a3, a4] g b t' q m) (ho : 1 ≤ off ∧ off ≤ 1073741824) (hr : at'.tmod 4 = r) (hk : (wi (r + 4)).tmod 4 = 0) : CallsV Try.prog (.func 5) #[cv (slw 1 0 4 cap1) g b t' q m, ii at', ii off] [(1, wib [a1, a2, a3, a4])] (rt (bb true)) [] := by
  have hp := ok_parts ok
  have hl := hp.2.1
  simp only [lightL, List.all_cons, List.all_nil, Bool.and_true, Bool.and_eq_true, inZ_iff] at hl
  have e1 : wi (1 - off) = 1 - off := by unfold wi; rw [wrapI (by omega)]
  have e2 : wi (1024 + off) = 1024 + off := by unfold wi; rw [wrapI (by omega)]
  have hlow : whyL [wi (1 - off), a2, a3, a4] g b t' q m = nMass := why_mass g b t' q m ⟨by simp, by simp⟩ (by simp only [lightL, List.all_cons, List.all_nil, e1, (show inZ (1 - off) 1 1024 = false from inZ_no (by omega)), Bool.false_and, Bool.and_false])
  have hhigh : whyL [wi (1024 + off), a2, a3, a4] g b t' q m = nMass := why_mass g b t' q m ⟨by simp, by simp⟩ (by simp only [lightL, List.all_cons, List.all_nil, e2, (show inZ (1024 + off) 1 1024 = false from inZ_no (by omega)), Bool.false_and, Bool.and_false])
  have okd : okL [a2, a3, a4] g b t' q m := ok_of ok ⟨by simp, by simp⟩ (by simp only [lightL, List.all_cons, List.all_nil, Bool.and_true, Bool.and_eq_true, inZ_iff]; omega)
  have w : ∀ z : Int, -9223372036854775808 ≤ z ∧ z < 9223372036854775808 → wi z = z := fun z h => wrapI h
  have hsum : (totL [a2, a3, a4] == wi (totL [a1, a2, a3, a4] - a1)) = true := by
    show (wi (wi (wi (0 + a2) + a3) + a4) == wi (wi (wi (wi (wi (0 + a1) + a2) + a3) + a4) - a1)) = true
    try rw [w (0 + a2) (by omega)]
    try rw [w (0 + a2 + a3) (by omega)]
    try rw [w (0 + a2 + a3 + a4) (by omega)]
    try rw [w (0 + a1) (by omega)]
    try rw [w (0 + a1 + a2) (by omega)]
    try rw [w (0 + a1 + a2 + a3) (by omega)]
    try rw [w (0 + a1 + a2 + a3 + a4) (by omega)]
    try rw [w (0 + a1 + a2 + a3 + a4 - a1) (by omega)]
    exact beq_iff_eq.2 (by omega)
  exact runF_calls mix (l5_40 cap1 a1 a2 a3 a4 g b t' q m at' off r (totL [a2, a3, a4]) (totL [a1, a2, a3, a4]) (pairsN ((3 : Nat) : Int)) (pairsN ((4 : Nat) : Int))) ⟨chk_i g b t' q m 16 (dchk_p g b t' q m) (L := [a1, a2, a3, a4]) h1 h1' (chk_ok ok), decide_eq_false (by omega), decide_eq_false (by omega), ⟨by decide, hr⟩, ⟨by decide, hk⟩, runF_calls mix (own25_4_2001 cap1 a1 a2 a3 a4 g b t' q m) trivial rfl rfl, runF_calls mix (own25_4_2002 cap1 a1 a2 a3 a4 g b t' q m) trivial rfl rfl, runF_calls mix (own25_4_2003 cap1 a1 a2 a3 a4 g b t' q m) trivial rfl rfl, ⟨h1, h1'⟩, ⟨h1, h1'⟩, sem1_calls (why_n1 g b t' q m hlow) (ren_cv g b t' q m) rfl (H := [(2002, gib [wi (1 - off), a2, a3, a4])]) (s := slw 2002 0 4 capU) (fun β w hR => ll_grow (L := [wi (1 - off), a2, a3, a4]) hR rfl), sem1_calls (why_n1 g b t' q m hhigh) (ren_cv g b t' q m) rfl (H := [(2003, gib [wi (1024 + off), a2, a3, a4])]) (s := slw 2003 0 4 capU) (fun β w hR => ll_grow (L := [wi (1024 + off), a2, a3, a4]) hR rfl), sem1_calls (tot_no g b t' q m (no_mass hlow)) (ren_cv g b t' q m) rfl (H := [(2002, gib [wi (1 - off), a2, a3, a4])]) (s := slw 2002 0 4 capU) (fun β w hR => ll_grow (L := [wi (1 - off), a2, a3, a4]) hR rfl), sem1_calls (pairs_no g b t' q m (no_mass hhigh)) (ren_cv g b t' q m) rfl (H := [(2003, gib [wi (1024 + off), a2, a3, a4])]) (s := slw 2003 0 4 capU) (fun β w hR => ll_grow (L := [wi (1024 + off), a2, a3, a4]) hR rfl), sem1_calls (chk_p g b t' q m 0 [a2, a3, a4] (chk_ok okd)) (ren_cv g b t' q m) rfl (H := [(5005, gib [a2, a3, a4])]) (s := slw 5005 0 3 capU) (fun β w hR => ll_grow (L := [a2, a3, a4]) hR rfl), ⟨rfl, trivial⟩, sem1_calls (tot_yes g b t' q m okd) (ren_cv g b t' q m) rfl (H := [(5005, gib [a2, a3, a4])]) (s := slw 5005 0 3 capU) (fun β w hR => ll_grow (L := [a2, a3, a4]) hR rfl), ⟨rfl, trivial⟩, sem1_calls (tot_yes g b t' q m ok) (ren_cv g b t' q m) rfl (H := [(1, wib [a1, a2, a3, a4])]) (s := slw 1 0 4 cap1) (fun β w hR => ll_seen (L := [a1, a2, a3, a4]) hR rfl h1 h1'), ⟨rfl, trivial⟩, hsum, sem1_calls (pairs_yes g b t' q m okd) (ren_cv g b t' q m) rfl (H := [(5005, gib [a2, a3, a4])]) (s := slw 5005 0 3 capU) (fun β w hR => ll_grow (L := [a2, a3, a4]) hR rfl), ⟨rfl, trivial⟩, sem1_calls (pairs_yes g b t' q m ok) (ren_cv g b t' q m) rfl (H := [(1, wib [a1, a2, a3, a4])]) (s := slw 1 0 4 cap1) (fun β w hR => ll_seen (L := [a1, a2, a3, a4]) hR rfl h1 h1'), ⟨rfl, trivial⟩, by decide, wakes_c, trivial⟩ rfl rfl
theorem c5_41 (cap1 : Nat) (a1 a2 a3 a4 g b t' q m at' off r : Int) (h1 : 4 ≤ cap1) (h1' : cap1 ≤ maxLen) (ok : okL [a1, a2, a3, a4] g b t' q m) (ho : 1 ≤ off ∧ off ≤ 1073741824) (hr : at'.tmod 4 = r) (hk : (wi (r + 4)).tmod 4 = 1) : CallsV Try.prog (.func 5) #[cv (slw 1 0 4 cap1) g b t' q m, ii at', ii off] [(1, wib [a1, a2, a3, a4])] (rt (bb true)) [] := by
  have hp := ok_parts ok
  have hl := hp.2.1
  simp only [lightL, List.all_cons, List.all_nil, Bool.and_true, Bool.and_eq_true, inZ_iff] at hl
  have e1 : wi (1 - off) = 1 - off := by unfold wi; rw [wrapI (by omega)]
  have e2 : wi (1024 + off) = 1024 + off := by unfold wi; rw [wrapI (by omega)]
  have hlow : whyL [a1, wi (1 - off), a3, a4] g b t' q m = nMass := why_mass g b t' q m ⟨by simp, by simp⟩ (by simp only [lightL, List.all_cons, List.all_nil, e1, (show inZ (1 - off) 1 1024 = false from inZ_no (by omega)), Bool.false_and, Bool.and_false])
  have hhigh : whyL [a1, wi (1024 + off), a3, a4] g b t' q m = nMass := why_mass g b t' q m ⟨by simp, by simp⟩ (by simp only [lightL, List.all_cons, List.all_nil, e2, (show inZ (1024 + off) 1 1024 = false from inZ_no (by omega)), Bool.false_and, Bool.and_false])
  have okd : okL [a1, a3, a4] g b t' q m := ok_of ok ⟨by simp, by simp⟩ (by simp only [lightL, List.all_cons, List.all_nil, Bool.and_true, Bool.and_eq_true, inZ_iff]; omega)
  have w : ∀ z : Int, -9223372036854775808 ≤ z ∧ z < 9223372036854775808 → wi z = z := fun z h => wrapI h
  have hsum : (totL [a1, a3, a4] == wi (totL [a1, a2, a3, a4] - a2)) = true := by
    show (wi (wi (wi (0 + a1) + a3) + a4) == wi (wi (wi (wi (wi (0 + a1) + a2) + a3) + a4) - a2)) = true
    try rw [w (0 + a1) (by omega)]
    try rw [w (0 + a1 + a3) (by omega)]
    try rw [w (0 + a1 + a3 + a4) (by omega)]
    try rw [w (0 + a1) (by omega)]
    try rw [w (0 + a1 + a2) (by omega)]
    try rw [w (0 + a1 + a2 + a3) (by omega)]
    try rw [w (0 + a1 + a2 + a3 + a4) (by omega)]
    try rw [w (0 + a1 + a2 + a3 + a4 - a2) (by omega)]
    exact beq_iff_eq.2 (by omega)
  exact runF_calls mix (l5_41 cap1 a1 a2 a3 a4 g b t' q m at' off r (totL [a1, a3, a4]) (totL [a1, a2, a3, a4]) (pairsN ((3 : Nat) : Int)) (pairsN ((4 : Nat) : Int))) ⟨chk_i g b t' q m 16 (dchk_p g b t' q m) (L := [a1, a2, a3, a4]) h1 h1' (chk_ok ok), decide_eq_false (by omega), decide_eq_false (by omega), ⟨by decide, hr⟩, ⟨by decide, hk⟩, runF_calls mix (own25_4_2001 cap1 a1 a2 a3 a4 g b t' q m) trivial rfl rfl, runF_calls mix (own25_4_2002 cap1 a1 a2 a3 a4 g b t' q m) trivial rfl rfl, runF_calls mix (own25_4_2003 cap1 a1 a2 a3 a4 g b t' q m) trivial rfl rfl, ⟨h1, h1'⟩, ⟨h1, h1'⟩, sem1_calls (why_n1 g b t' q m hlow) (ren_cv g b t' q m) rfl (H := [(2002, gib [a1, wi (1 - off), a3, a4])]) (s := slw 2002 0 4 capU) (fun β w hR => ll_grow (L := [a1, wi (1 - off), a3, a4]) hR rfl), sem1_calls (why_n1 g b t' q m hhigh) (ren_cv g b t' q m) rfl (H := [(2003, gib [a1, wi (1024 + off), a3, a4])]) (s := slw 2003 0 4 capU) (fun β w hR => ll_grow (L := [a1, wi (1024 + off), a3, a4]) hR rfl), sem1_calls (tot_no g b t' q m (no_mass hlow)) (ren_cv g b t' q m) rfl (H := [(2002, gib [a1, wi (1 - off), a3, a4])]) (s := slw 2002 0 4 capU) (fun β w hR => ll_grow (L := [a1, wi (1 - off), a3, a4]) hR rfl), sem1_calls (pairs_no g b t' q m (no_mass hhigh)) (ren_cv g b t' q m) rfl (H := [(2003, gib [a1, wi (1024 + off), a3, a4])]) (s := slw 2003 0 4 capU) (fun β w hR => ll_grow (L := [a1, wi (1024 + off), a3, a4]) hR rfl), sem1_calls (chk_p g b t' q m 0 [a1, a3, a4] (chk_ok okd)) (ren_cv g b t' q m) rfl (H := [(5006, gib [a1, a3, a4])]) (s := slw 5006 0 3 capU) (fun β w hR => ll_grow (L := [a1, a3, a4]) hR rfl), ⟨rfl, trivial⟩, sem1_calls (tot_yes g b t' q m okd) (ren_cv g b t' q m) rfl (H := [(5006, gib [a1, a3, a4])]) (s := slw 5006 0 3 capU) (fun β w hR => ll_grow (L := [a1, a3, a4]) hR rfl), ⟨rfl, trivial⟩, sem1_calls (tot_yes g b t' q m ok) (ren_cv g b t' q m) rfl (H := [(1, wib [a1, a2, a3, a4])]) (s := slw 1 0 4 cap1) (fun β w hR => ll_seen (L := [a1, a2, a3, a4]) hR rfl h1 h1'), ⟨rfl, trivial⟩, hsum, sem1_calls (pairs_yes g b t' q m okd) (ren_cv g b t' q m) rfl (H := [(5006, gib [a1, a3, a4])]) (s := slw 5006 0 3 capU) (fun β w hR => ll_grow (L := [a1, a3, a4]) hR rfl), ⟨rfl, trivial⟩, sem1_calls (pairs_yes g b t' q m ok) (ren_cv g b t' q m) rfl (H := [(1, wib [a1, a2, a3, a4])]) (s := slw 1 0 4 cap1) (fun β w hR => ll_seen (L := [a1, a2, a3, a4]) hR rfl h1 h1'), ⟨rfl, trivial⟩, by decide, wakes_c, trivial⟩ rfl rfl
theorem c5_42 (cap1 : Nat) (a1 a2 a3 a4 g b t' q m at' off r : Int) (h1 : 4 ≤ cap1) (h1' : cap1 ≤ maxLen) (ok : okL [a1, a2, a3, a4] g b t' q m) (ho : 1 ≤ off ∧ off ≤ 1073741824) (hr : at'.tmod 4 = r) (hk : (wi (r + 4)).tmod 4 = 2) : CallsV Try.prog (.func 5) #[cv (slw 1 0 4 cap1) g b t' q m, ii at', ii off] [(1, wib [a1, a2, a3, a4])] (rt (bb true)) [] := by
  have hp := ok_parts ok
  have hl := hp.2.1
  simp only [lightL, List.all_cons, List.all_nil, Bool.and_true, Bool.and_eq_true, inZ_iff] at hl
  have e1 : wi (1 - off) = 1 - off := by unfold wi; rw [wrapI (by omega)]
  have e2 : wi (1024 + off) = 1024 + off := by unfold wi; rw [wrapI (by omega)]
  have hlow : whyL [a1, a2, wi (1 - off), a4] g b t' q m = nMass := why_mass g b t' q m ⟨by simp, by simp⟩ (by simp only [lightL, List.all_cons, List.all_nil, e1, (show inZ (1 - off) 1 1024 = false from inZ_no (by omega)), Bool.false_and, Bool.and_false])
  have hhigh : whyL [a1, a2, wi (1024 + off), a4] g b t' q m = nMass := why_mass g b t' q m ⟨by simp, by simp⟩ (by simp only [lightL, List.all_cons, List.all_nil, e2, (show inZ (1024 + off) 1 1024 = false from inZ_no (by omega)), Bool.false_and, Bool.and_false])
  have okd : okL [a1, a2, a4] g b t' q m := ok_of ok ⟨by simp, by simp⟩ (by simp only [lightL, List.all_cons, List.all_nil, Bool.and_true, Bool.and_eq_true, inZ_iff]; omega)
  have w : ∀ z : Int, -9223372036854775808 ≤ z ∧ z < 9223372036854775808 → wi z = z := fun z h => wrapI h
  have hsum : (totL [a1, a2, a4] == wi (totL [a1, a2, a3, a4] - a3)) = true := by
    show (wi (wi (wi (0 + a1) + a2) + a4) == wi (wi (wi (wi (wi (0 + a1) + a2) + a3) + a4) - a3)) = true
    try rw [w (0 + a1) (by omega)]
    try rw [w (0 + a1 + a2) (by omega)]
    try rw [w (0 + a1 + a2 + a4) (by omega)]
    try rw [w (0 + a1) (by omega)]
    try rw [w (0 + a1 + a2) (by omega)]
    try rw [w (0 + a1 + a2 + a3) (by omega)]
    try rw [w (0 + a1 + a2 + a3 + a4) (by omega)]
    try rw [w (0 + a1 + a2 + a3 + a4 - a3) (by omega)]
    exact beq_iff_eq.2 (by omega)
  exact runF_calls mix (l5_42 cap1 a1 a2 a3 a4 g b t' q m at' off r (totL [a1, a2, a4]) (totL [a1, a2, a3, a4]) (pairsN ((3 : Nat) : Int)) (pairsN ((4 : Nat) : Int))) ⟨chk_i g b t' q m 16 (dchk_p g b t' q m) (L := [a1, a2, a3, a4]) h1 h1' (chk_ok ok), decide_eq_false (by omega), decide_eq_false (by omega), ⟨by decide, hr⟩, ⟨by decide, hk⟩, runF_calls mix (own25_4_2001 cap1 a1 a2 a3 a4 g b t' q m) trivial rfl rfl, runF_calls mix (own25_4_2002 cap1 a1 a2 a3 a4 g b t' q m) trivial rfl rfl, runF_calls mix (own25_4_2003 cap1 a1 a2 a3 a4 g b t' q m) trivial rfl rfl, ⟨h1, h1'⟩, ⟨h1, h1'⟩, sem1_calls (why_n1 g b t' q m hlow) (ren_cv g b t' q m) rfl (H := [(2002, gib [a1, a2, wi (1 - off), a4])]) (s := slw 2002 0 4 capU) (fun β w hR => ll_grow (L := [a1, a2, wi (1 - off), a4]) hR rfl), sem1_calls (why_n1 g b t' q m hhigh) (ren_cv g b t' q m) rfl (H := [(2003, gib [a1, a2, wi (1024 + off), a4])]) (s := slw 2003 0 4 capU) (fun β w hR => ll_grow (L := [a1, a2, wi (1024 + off), a4]) hR rfl), sem1_calls (tot_no g b t' q m (no_mass hlow)) (ren_cv g b t' q m) rfl (H := [(2002, gib [a1, a2, wi (1 - off), a4])]) (s := slw 2002 0 4 capU) (fun β w hR => ll_grow (L := [a1, a2, wi (1 - off), a4]) hR rfl), sem1_calls (pairs_no g b t' q m (no_mass hhigh)) (ren_cv g b t' q m) rfl (H := [(2003, gib [a1, a2, wi (1024 + off), a4])]) (s := slw 2003 0 4 capU) (fun β w hR => ll_grow (L := [a1, a2, wi (1024 + off), a4]) hR rfl), sem1_calls (chk_p g b t' q m 0 [a1, a2, a4] (chk_ok okd)) (ren_cv g b t' q m) rfl (H := [(5006, gib [a1, a2, a4])]) (s := slw 5006 0 3 capU) (fun β w hR => ll_grow (L := [a1, a2, a4]) hR rfl), ⟨rfl, trivial⟩, sem1_calls (tot_yes g b t' q m okd) (ren_cv g b t' q m) rfl (H := [(5006, gib [a1, a2, a4])]) (s := slw 5006 0 3 capU) (fun β w hR => ll_grow (L := [a1, a2, a4]) hR rfl), ⟨rfl, trivial⟩, sem1_calls (tot_yes g b t' q m ok) (ren_cv g b t' q m) rfl (H := [(1, wib [a1, a2, a3, a4])]) (s := slw 1 0 4 cap1) (fun β w hR => ll_seen (L := [a1, a2, a3, a4]) hR rfl h1 h1'), ⟨rfl, trivial⟩, hsum, sem1_calls (pairs_yes g b t' q m okd) (ren_cv g b t' q m) rfl (H := [(5006, gib [a1, a2, a4])]) (s := slw 5006 0 3 capU) (fun β w hR => ll_grow (L := [a1, a2, a4]) hR rfl), ⟨rfl, trivial⟩, sem1_calls (pairs_yes g b t' q m ok) (ren_cv g b t' q m) rfl (H := [(1, wib [a1, a2, a3, a4])]) (s := slw 1 0 4 cap1) (fun β w hR => ll_seen (L := [a1, a2, a3, a4]) hR rfl h1 h1'), ⟨rfl, trivial⟩, by decide, wakes_c, trivial⟩ rfl rfl
theorem c5_43 (cap1 : Nat) (a1 a2 a3 a4 g b t' q m at' off r : Int) (h1 : 4 ≤ cap1) (h1' : cap1 ≤ maxLen) (ok : okL [a1, a2, a3, a4] g b t' q m) (ho : 1 ≤ off ∧ off ≤ 1073741824) (hr : at'.tmod 4 = r) (hk : (wi (r + 4)).tmod 4 = 3) : CallsV Try.prog (.func 5) #[cv (slw 1 0 4 cap1) g b t' q m, ii at', ii off] [(1, wib [a1, a2, a3, a4])] (rt (bb true)) [] := by
  have hp := ok_parts ok
  have hl := hp.2.1
  simp only [lightL, List.all_cons, List.all_nil, Bool.and_true, Bool.and_eq_true, inZ_iff] at hl
  have e1 : wi (1 - off) = 1 - off := by unfold wi; rw [wrapI (by omega)]
  have e2 : wi (1024 + off) = 1024 + off := by unfold wi; rw [wrapI (by omega)]
  have hlow : whyL [a1, a2, a3, wi (1 - off)] g b t' q m = nMass := why_mass g b t' q m ⟨by simp, by simp⟩ (by simp only [lightL, List.all_cons, List.all_nil, e1, (show inZ (1 - off) 1 1024 = false from inZ_no (by omega)), Bool.false_and, Bool.and_false])
  have hhigh : whyL [a1, a2, a3, wi (1024 + off)] g b t' q m = nMass := why_mass g b t' q m ⟨by simp, by simp⟩ (by simp only [lightL, List.all_cons, List.all_nil, e2, (show inZ (1024 + off) 1 1024 = false from inZ_no (by omega)), Bool.false_and, Bool.and_false])
  have okd : okL [a1, a2, a3] g b t' q m := ok_of ok ⟨by simp, by simp⟩ (by simp only [lightL, List.all_cons, List.all_nil, Bool.and_true, Bool.and_eq_true, inZ_iff]; omega)
  have w : ∀ z : Int, -9223372036854775808 ≤ z ∧ z < 9223372036854775808 → wi z = z := fun z h => wrapI h
  have hsum : (totL [a1, a2, a3] == wi (totL [a1, a2, a3, a4] - a4)) = true := by
    show (wi (wi (wi (0 + a1) + a2) + a3) == wi (wi (wi (wi (wi (0 + a1) + a2) + a3) + a4) - a4)) = true
    try rw [w (0 + a1) (by omega)]
    try rw [w (0 + a1 + a2) (by omega)]
    try rw [w (0 + a1 + a2 + a3) (by omega)]
    try rw [w (0 + a1) (by omega)]
    try rw [w (0 + a1 + a2) (by omega)]
    try rw [w (0 + a1 + a2 + a3) (by omega)]
    try rw [w (0 + a1 + a2 + a3 + a4) (by omega)]
    try rw [w (0 + a1 + a2 + a3 + a4 - a4) (by omega)]
    exact beq_iff_eq.2 (by omega)
  exact runF_calls mix (l5_43 cap1 a1 a2 a3 a4 g b t' q m at' off r (totL [a1, a2, a3]) (totL [a1, a2, a3, a4]) (pairsN ((3 : Nat) : Int)) (pairsN ((4 : Nat) : Int))) ⟨chk_i g b t' q m 16 (dchk_p g b t' q m) (L := [a1, a2, a3, a4]) h1 h1' (chk_ok ok), decide_eq_false (by omega), decide_eq_false (by omega), ⟨by decide, hr⟩, ⟨by decide, hk⟩, runF_calls mix (own25_4_2001 cap1 a1 a2 a3 a4 g b t' q m) trivial rfl rfl, runF_calls mix (own25_4_2002 cap1 a1 a2 a3 a4 g b t' q m) trivial rfl rfl, runF_calls mix (own25_4_2003 cap1 a1 a2 a3 a4 g b t' q m) trivial rfl rfl, ⟨h1, h1'⟩, ⟨h1, h1'⟩, sem1_calls (why_n1 g b t' q m hlow) (ren_cv g b t' q m) rfl (H := [(2002, gib [a1, a2, a3, wi (1 - off)])]) (s := slw 2002 0 4 capU) (fun β w hR => ll_grow (L := [a1, a2, a3, wi (1 - off)]) hR rfl), sem1_calls (why_n1 g b t' q m hhigh) (ren_cv g b t' q m) rfl (H := [(2003, gib [a1, a2, a3, wi (1024 + off)])]) (s := slw 2003 0 4 capU) (fun β w hR => ll_grow (L := [a1, a2, a3, wi (1024 + off)]) hR rfl), sem1_calls (tot_no g b t' q m (no_mass hlow)) (ren_cv g b t' q m) rfl (H := [(2002, gib [a1, a2, a3, wi (1 - off)])]) (s := slw 2002 0 4 capU) (fun β w hR => ll_grow (L := [a1, a2, a3, wi (1 - off)]) hR rfl), sem1_calls (pairs_no g b t' q m (no_mass hhigh)) (ren_cv g b t' q m) rfl (H := [(2003, gib [a1, a2, a3, wi (1024 + off)])]) (s := slw 2003 0 4 capU) (fun β w hR => ll_grow (L := [a1, a2, a3, wi (1024 + off)]) hR rfl), sem1_calls (chk_p g b t' q m 0 [a1, a2, a3] (chk_ok okd)) (ren_cv g b t' q m) rfl (H := [(5005, gib [a1, a2, a3])]) (s := slw 5005 0 3 capU) (fun β w hR => ll_grow (L := [a1, a2, a3]) hR rfl), ⟨rfl, trivial⟩, sem1_calls (tot_yes g b t' q m okd) (ren_cv g b t' q m) rfl (H := [(5005, gib [a1, a2, a3])]) (s := slw 5005 0 3 capU) (fun β w hR => ll_grow (L := [a1, a2, a3]) hR rfl), ⟨rfl, trivial⟩, sem1_calls (tot_yes g b t' q m ok) (ren_cv g b t' q m) rfl (H := [(1, wib [a1, a2, a3, a4])]) (s := slw 1 0 4 cap1) (fun β w hR => ll_seen (L := [a1, a2, a3, a4]) hR rfl h1 h1'), ⟨rfl, trivial⟩, hsum, sem1_calls (pairs_yes g b t' q m okd) (ren_cv g b t' q m) rfl (H := [(5005, gib [a1, a2, a3])]) (s := slw 5005 0 3 capU) (fun β w hR => ll_grow (L := [a1, a2, a3]) hR rfl), ⟨rfl, trivial⟩, sem1_calls (pairs_yes g b t' q m ok) (ren_cv g b t' q m) rfl (H := [(1, wib [a1, a2, a3, a4])]) (s := slw 1 0 4 cap1) (fun β w hR => ll_seen (L := [a1, a2, a3, a4]) hR rfl h1 h1'), ⟨rfl, trivial⟩, by decide, wakes_c, trivial⟩ rfl rfl
/-- The law, wherever its masses lie. -/
theorem law5 {W : World} {s1 : Value} {N1 : List Int} (g b t' q m at' off : Int) (u1 : LieL W s1 N1) :
    Calls Try.prog 5 #[cv s1 g b t' q m, ii at', ii off] W fun e w' => e = .returned (.bool true) ∧ Below W.heap.size W w' := by
  rcases u1 with ⟨rfl, rfl⟩ | ⟨B1, o1, cap1, rfl, h1, h1', w1⟩
  · exact pure_calls (args' := #[]) (runF_pure mix (e5_n g b t' q m at' off) ⟨n_16 g b t' q m, wakes_c, trivial⟩ rfl rfl) rfl W
  have hw : ∀ (p : Int), chk (whyL N1 g b t' q m) = p → CallsV Try.prog (.func 16) #[cv (slw 1 o1 N1.length cap1) g b t' q m] [(1, win o1 (cwx fl1 o1 N1))] (rt (ii p)) [(1, win o1 (cwx fl1 o1 N1))] := fun p hp => chk_w g b t' q m 16 (dchk_p g b t' q m) h1 h1' hp
  have go : CallsV Try.prog (.func 5) #[cv (slw 1 o1 N1.length cap1) g b t' q m, ii at', ii off] [(1, win o1 (cwx fl1 o1 N1))] (rt (bb true)) [] → Calls Try.prog 5 #[cv (slw B1 o1 N1.length cap1) g b t' q m, ii at', ii off] W fun e w' => e = .returned (.bool true) ∧ Below W.heap.size W w' := fun hc => by
    refine win_ret (β := fun i => (B1, 0)) hc rfl ?_ (lie_1 (lie_win rfl (cwx_plain _ _) w1))
    show #[cv (ren _ (slw 1 o1 N1.length cap1)) g b t' q m, ii at', ii off] = _
    rw [ren_win (i := 1) (B := B1) rfl h1']
  by_cases ok : okL N1 g b t' q m
  case neg => exact go (runF_calls mix (e5_x o1 N1.length cap1 _ g b t' q m at' off) ⟨hw 110 (chk_no ok), wakes_c, trivial⟩ rfl rfl)
  by_cases z1 : off < 1
  · exact go (runF_calls mix (e5_a o1 N1.length cap1 _ g b t' q m at' off) ⟨hw 0 (chk_ok ok), decide_eq_true z1, wakes_c, trivial⟩ rfl rfl)
  by_cases z2 : 1073741824 < off
  · exact go (runF_calls mix (e5_b o1 N1.length cap1 _ g b t' q m at' off) ⟨hw 0 (chk_ok ok), decide_eq_false z1, decide_eq_true z2, wakes_c, trivial⟩ rfl rfl)
  have ho : 1 ≤ off ∧ off ≤ 1073741824 := by omega
  clear go hw
  match N1, h1, w1, ok, (ok_parts ok).1 with
  | [a1], h1, w1, ok, _ =>
    have go : CallsV Try.prog (.func 5) #[cv (slw 1 0 1 cap1) g b t' q m, ii at', ii off] [(1, wib [a1])] (rt (bb true)) [] → Calls Try.prog 5 #[cv (slw B1 o1 1 cap1) g b t' q m, ii at', ii off] W fun e w' => e = .returned (.bool true) ∧ Below W.heap.size W w' := fun hc => by
      refine win_ret (β := fun i => (B1, capU + o1)) hc rfl ?_ (lie_1 (lie_seen rfl (fl1_plain _) (seen_of_win w1)))
      show #[cv (ren _ (slw 1 0 1 cap1)) g b t' q m, ii at', ii off] = _
      rw [ren_seen (i := 1) (B := B1) (off := o1) rfl h1']
    obtain ⟨k0, k1⟩ := at_in at' 1 (by decide) (by decide)
    exact go (c5_10 cap1 a1 g b t' q m at' off _ h1 h1' ok ho rfl (by omega))
  | [a1, a2], h1, w1, ok, _ =>
    have go : CallsV Try.prog (.func 5) #[cv (slw 1 0 2 cap1) g b t' q m, ii at', ii off] [(1, wib [a1, a2])] (rt (bb true)) [] → Calls Try.prog 5 #[cv (slw B1 o1 2 cap1) g b t' q m, ii at', ii off] W fun e w' => e = .returned (.bool true) ∧ Below W.heap.size W w' := fun hc => by
      refine win_ret (β := fun i => (B1, capU + o1)) hc rfl ?_ (lie_1 (lie_seen rfl (fl1_plain _) (seen_of_win w1)))
      show #[cv (ren _ (slw 1 0 2 cap1)) g b t' q m, ii at', ii off] = _
      rw [ren_seen (i := 1) (B := B1) (off := o1) rfl h1']
    obtain ⟨k0, k1⟩ := at_in at' 2 (by decide) (by decide)
    rcases (show (wi (at'.tmod 2 + 2)).tmod 2 = 0 ∨ (wi (at'.tmod 2 + 2)).tmod 2 = 1 by omega) with hk | hk
    · exact go (c5_20 cap1 a1 a2 g b t' q m at' off _ h1 h1' ok ho rfl hk)
    · exact go (c5_21 cap1 a1 a2 g b t' q m at' off _ h1 h1' ok ho rfl hk)
  | [a1, a2, a3], h1, w1, ok, _ =>
    have go : CallsV Try.prog (.func 5) #[cv (slw 1 0 3 cap1) g b t' q m, ii at', ii off] [(1, wib [a1, a2, a3])] (rt (bb true)) [] → Calls Try.prog 5 #[cv (slw B1 o1 3 cap1) g b t' q m, ii at', ii off] W fun e w' => e = .returned (.bool true) ∧ Below W.heap.size W w' := fun hc => by
      refine win_ret (β := fun i => (B1, capU + o1)) hc rfl ?_ (lie_1 (lie_seen rfl (fl1_plain _) (seen_of_win w1)))
      show #[cv (ren _ (slw 1 0 3 cap1)) g b t' q m, ii at', ii off] = _
      rw [ren_seen (i := 1) (B := B1) (off := o1) rfl h1']
    obtain ⟨k0, k1⟩ := at_in at' 3 (by decide) (by decide)
    rcases (show (wi (at'.tmod 3 + 3)).tmod 3 = 0 ∨ (wi (at'.tmod 3 + 3)).tmod 3 = 1 ∨ (wi (at'.tmod 3 + 3)).tmod 3 = 2 by omega) with hk | hk | hk
    · exact go (c5_30 cap1 a1 a2 a3 g b t' q m at' off _ h1 h1' ok ho rfl hk)
    · exact go (c5_31 cap1 a1 a2 a3 g b t' q m at' off _ h1 h1' ok ho rfl hk)
    · exact go (c5_32 cap1 a1 a2 a3 g b t' q m at' off _ h1 h1' ok ho rfl hk)
  | [a1, a2, a3, a4], h1, w1, ok, _ =>
    have go : CallsV Try.prog (.func 5) #[cv (slw 1 0 4 cap1) g b t' q m, ii at', ii off] [(1, wib [a1, a2, a3, a4])] (rt (bb true)) [] → Calls Try.prog 5 #[cv (slw B1 o1 4 cap1) g b t' q m, ii at', ii off] W fun e w' => e = .returned (.bool true) ∧ Below W.heap.size W w' := fun hc => by
      refine win_ret (β := fun i => (B1, capU + o1)) hc rfl ?_ (lie_1 (lie_seen rfl (fl1_plain _) (seen_of_win w1)))
      show #[cv (ren _ (slw 1 0 4 cap1)) g b t' q m, ii at', ii off] = _
      rw [ren_seen (i := 1) (B := B1) (off := o1) rfl h1']
    obtain ⟨k0, k1⟩ := at_in at' 4 (by decide) (by decide)
    rcases (show (wi (at'.tmod 4 + 4)).tmod 4 = 0 ∨ (wi (at'.tmod 4 + 4)).tmod 4 = 1 ∨ (wi (at'.tmod 4 + 4)).tmod 4 = 2 ∨ (wi (at'.tmod 4 + 4)).tmod 4 = 3 by omega) with hk | hk | hk | hk
    · exact go (c5_40 cap1 a1 a2 a3 a4 g b t' q m at' off _ h1 h1' ok ho rfl hk)
    · exact go (c5_41 cap1 a1 a2 a3 a4 g b t' q m at' off _ h1 h1' ok ho rfl hk)
    · exact go (c5_42 cap1 a1 a2 a3 a4 g b t' q m at' off _ h1 h1' ok ho rfl hk)
    · exact go (c5_43 cap1 a1 a2 a3 a4 g b t' q m at' off _ h1 h1' ok ho rfl hk)
  | [], _, _, _, h => exact absurd h.1 (by decide)
  | _ :: _ :: _ :: _ :: _ :: r, _, _, _, h => exact absurd h.2 (by simp)
end Go.Proofs.Ytelohlpjgfknoaa
