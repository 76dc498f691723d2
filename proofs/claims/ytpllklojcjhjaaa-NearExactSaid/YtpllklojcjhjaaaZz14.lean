/- Texts of the seat, joined. -/
import Derived.Test.YtpllklojcjhjaaaZz13
/- Which pairs are near: what the call answers of a state that may be. -/
namespace Go.Proofs.Ytpllklojcjhjaaa
open Go Go.RowKit
set_option linter.unusedSimpArgs false
set_option linter.unusedVariables false
set_option maxRecDepth 100000

/-- Which pairs are near. -/
def nearL (z : Int) (R : List Pr) : List Pr := R.filter fun p => decide (p.2.2 < z)
def nearV (z : Int) (ok : Bool) (R : List Pr) : List Pr := if ok = true then nearL z R else []
theorem ren_cs (st g bx to nr me : Int) : ∀ (β : Num) (s s' : Value), renA β #[cv s g bx to nr me, sv st s'] = #[cv (ren β s) g bx to nr me, sv st (ren β s')] := fun _ _ _ => rfl
theorem look_sw {a b : Obj} : ∀ i, look [(1, a), (2, b)] i = look [(2, b), (1, a)] i := fun i => by
  simp only [look]
  by_cases e1 : 1 = i <;> by_cases e2 : 2 = i <;> simp [e1, e2]
  omega
theorem look_sw3 {a b o : Obj} {k : Nat} : ∀ i, look [(k, o), (1, a), (2, b)] i = look [(k, o), (2, b), (1, a)] i := fun i => by
  by_cases e : k = i
  · simp only [look, if_pos e]
  · have := look_sw (a := a) (b := b) i
    simp only [look] at this ⊢
    rw [if_neg e, if_neg e]
    exact this
section
variable (st g bx to nr me : Int) {M : List Int}
theorem near_w1 (a : Bd) (hM : M ≠ []) (hc : chk (whyL M g bx to nr me) = 0) (h : rightV st [a] = true)  : LstB KI KB Try.prog 11 (fun s s' => #[cv s g bx to nr me, sv st s']) M [a] KP (nearL (wi (nr * nr)) []) := by
  have c1 : ∀ off cap, M.length ≤ cap → cap ≤ maxLen → chkP 0 st off M.length cap 0 (cwx fl1 off M) g bx to nr me := fun off cap hl hc' => sem1_calls (chk_p g bx to nr me 0 M hc) (ren_cv g bx to nr me) rfl (H := [(1, win off (cwx fl1 off M))]) (s := slw 1 off M.length cap) (fun β w hR => ll_win hR rfl hl hc')
  have c2 : ∀ cap2, 1 ≤ cap2 → cap2 ≤ maxLen → rgtP st cap2 [a] := fun cap2 hl hc' => right_c h (H := [(2, KB.seen [a])]) (s := slw 2 0 1 cap2) (fun β w hR => lk_seen (K := KB) (L := [a]) (k := 2) hR rfl hl hc')
  have ee : nearL (wi (nr * nr)) [] = [] := rfl
  rw [ee]
  exact ⟨fun _ => semB_ww false true hM (by simp) (ren_cs st g bx to nr me) rfl (fun off cap off2 cap2 hl hc1 hl2 hc2 => callsV_perm (runF_calls mix (near_1 st off M.length cap cap2 (cwx fl1 off M) g bx to nr me a) ⟨c1 off cap hl hc1, c2 cap2 hl2 hc2, trivial⟩ rfl rfl) look_sw), fun h => absurd rfl h⟩
theorem near_c1 (a : Bd) (hM : M ≠ []) (hc : chk (whyL M g bx to nr me) = 110) (h : rightV st [a] = true)  : SemB KI KB Try.prog 11 (fun s s' => #[cv s g bx to nr me, sv st s']) M [a] sl0 :=
  semB_ww false true hM (by simp) (ren_cs st g bx to nr me) rfl (fun off cap off2 cap2 hl hc1 hl2 hc2 => callsV_perm (runF_calls mix (nearc_1 st off M.length cap cap2 (cwx fl1 off M) g bx to nr me a) ⟨sem1_calls (chk_p g bx to nr me 110 M hc) (ren_cv g bx to nr me) rfl (H := [(1, win off (cwx fl1 off M))]) (s := slw 1 off M.length cap) (fun β w hR => ll_win hR rfl hl hc1), right_c h (H := [(2, KB.seen [a])]) (s := slw 2 0 1 cap2) (fun β w hR => lk_seen (K := KB) (L := [a]) (k := 2) hR rfl hl2 hc2), trivial⟩ rfl rfl) look_sw)
theorem near_w2 (a b : Bd) (q01 : Int) (hM : M ≠ []) (hc : chk (whyL M g bx to nr me) = 0) (h : rightV st [a, b] = true) (f01 : farP a b q01) : LstB KI KB Try.prog 11 (fun s s' => #[cv s g bx to nr me, sv st s']) M [a, b] KP (nearL (wi (nr * nr)) [(0, 1, q01)]) := by
  have c1 : ∀ off cap, M.length ≤ cap → cap ≤ maxLen → chkP 0 st off M.length cap 0 (cwx fl1 off M) g bx to nr me := fun off cap hl hc' => sem1_calls (chk_p g bx to nr me 0 M hc) (ren_cv g bx to nr me) rfl (H := [(1, win off (cwx fl1 off M))]) (s := slw 1 off M.length cap) (fun β w hR => ll_win hR rfl hl hc')
  have c2 : ∀ cap2, 2 ≤ cap2 → cap2 ≤ maxLen → rgtP st cap2 [a, b] := fun cap2 hl hc' => right_c h (H := [(2, KB.seen [a, b])]) (s := slw 2 0 2 cap2) (fun β w hR => lk_seen (K := KB) (L := [a, b]) (k := 2) hR rfl hl hc')
  cases d01 : decide (q01 < wi (nr * nr))
  · have ee : nearL (wi (nr * nr)) [(0, 1, q01)] = [] := by simp only [nearL, List.filter, d01]
    rw [ee]
    exact ⟨fun _ => semB_ww false true hM (by simp) (ren_cs st g bx to nr me) rfl (fun off cap off2 cap2 hl hc1 hl2 hc2 => callsV_perm (runF_calls mix (near_2_0 st off M.length cap cap2 (cwx fl1 off M) g bx to nr me a b q01) ⟨c1 off cap hl hc1, c2 cap2 hl2 hc2, f01, d01, trivial⟩ rfl rfl) look_sw), fun h => absurd rfl h⟩
  · have ee : nearL (wi (nr * nr)) [(0, 1, q01)] = [(0, 1, q01)] := by simp only [nearL, List.filter, d01]
    rw [ee]
    exact ⟨fun h => (by cases h), fun _ => newB_of false true (k := 2013) (ren_cs st g bx to nr me) (fun _ _ => rfl) hM (by simp) (.inl ⟨rfl, rfl⟩) ⟨by decide, by decide⟩ (fun off cap off2 cap2 hl hc1 hl2 hc2 => callsV_perm (runF_calls mix (near_2_1 st off M.length cap cap2 (cwx fl1 off M) g bx to nr me a b q01) ⟨c1 off cap hl hc1, c2 cap2 hl2 hc2, f01, d01, trivial⟩ rfl rfl) look_sw3)⟩
theorem near_c2 (a b : Bd) (q01 : Int) (hM : M ≠ []) (hc : chk (whyL M g bx to nr me) = 110) (h : rightV st [a, b] = true) (f01 : farP a b q01) : SemB KI KB Try.prog 11 (fun s s' => #[cv s g bx to nr me, sv st s']) M [a, b] sl0 :=
  semB_ww false true hM (by simp) (ren_cs st g bx to nr me) rfl (fun off cap off2 cap2 hl hc1 hl2 hc2 => callsV_perm (runF_calls mix (nearc_2 st off M.length cap cap2 (cwx fl1 off M) g bx to nr me a b q01) ⟨sem1_calls (chk_p g bx to nr me 110 M hc) (ren_cv g bx to nr me) rfl (H := [(1, win off (cwx fl1 off M))]) (s := slw 1 off M.length cap) (fun β w hR => ll_win hR rfl hl hc1), right_c h (H := [(2, KB.seen [a, b])]) (s := slw 2 0 2 cap2) (fun β w hR => lk_seen (K := KB) (L := [a, b]) (k := 2) hR rfl hl2 hc2), f01, trivial⟩ rfl rfl) look_sw)
theorem near_w3 (a b d : Bd) (q01 q02 q12 : Int) (hM : M ≠ []) (hc : chk (whyL M g bx to nr me) = 0) (h : rightV st [a, b, d] = true) (f01 : farP a b q01) (f02 : farP a d q02) (f12 : farP b d q12) : LstB KI KB Try.prog 11 (fun s s' => #[cv s g bx to nr me, sv st s']) M [a, b, d] KP (nearL (wi (nr * nr)) [(0, 1, q01), (0, 2, q02), (1, 2, q12)]) := by
  have c1 : ∀ off cap, M.length ≤ cap → cap ≤ maxLen → chkP 0 st off M.length cap 0 (cwx fl1 off M) g bx to nr me := fun off cap hl hc' => sem1_calls (chk_p g bx to nr me 0 M hc) (ren_cv g bx to nr me) rfl (H := [(1, win off (cwx fl1 off M))]) (s := slw 1 off M.length cap) (fun β w hR => ll_win hR rfl hl hc')
  have c2 : ∀ cap2, 3 ≤ cap2 → cap2 ≤ maxLen → rgtP st cap2 [a, b, d] := fun cap2 hl hc' => right_c h (H := [(2, KB.seen [a, b, d])]) (s := slw 2 0 3 cap2) (fun β w hR => lk_seen (K := KB) (L := [a, b, d]) (k := 2) hR rfl hl hc')
  cases d01 : decide (q01 < wi (nr * nr))
  · cases d02 : decide (q02 < wi (nr * nr))
    · cases d12 : decide (q12 < wi (nr * nr))
      · have ee : nearL (wi (nr * nr)) [(0, 1, q01), (0, 2, q02), (1, 2, q12)] = [] := by simp only [nearL, List.filter, d01, d02, d12]
        rw [ee]
        exact ⟨fun _ => semB_ww false true hM (by simp) (ren_cs st g bx to nr me) rfl (fun off cap off2 cap2 hl hc1 hl2 hc2 => callsV_perm (runF_calls mix (near_3_000 st off M.length cap cap2 (cwx fl1 off M) g bx to nr me a b d q01 q02 q12) ⟨c1 off cap hl hc1, c2 cap2 hl2 hc2, f01, d01, f02, d02, f12, d12, trivial⟩ rfl rfl) look_sw), fun h => absurd rfl h⟩
      · have ee : nearL (wi (nr * nr)) [(0, 1, q01), (0, 2, q02), (1, 2, q12)] = [(1, 2, q12)] := by simp only [nearL, List.filter, d01, d02, d12]
        rw [ee]
        exact ⟨fun h => (by cases h), fun _ => newB_of false true (k := 2018) (ren_cs st g bx to nr me) (fun _ _ => rfl) hM (by simp) (.inl ⟨rfl, rfl⟩) ⟨by decide, by decide⟩ (fun off cap off2 cap2 hl hc1 hl2 hc2 => callsV_perm (runF_calls mix (near_3_001 st off M.length cap cap2 (cwx fl1 off M) g bx to nr me a b d q01 q02 q12) ⟨c1 off cap hl hc1, c2 cap2 hl2 hc2, f01, d01, f02, d02, f12, d12, trivial⟩ rfl rfl) look_sw3)⟩
    · cases d12 : decide (q12 < wi (nr * nr))
      · have ee : nearL (wi (nr * nr)) [(0, 1, q01), (0, 2, q02), (1, 2, q12)] = [(0, 2, q02)] := by simp only [nearL, List.filter, d01, d02, d12]
        rw [ee]
        exact ⟨fun h => (by cases h), fun _ => newB_of false true (k := 2015) (ren_cs st g bx to nr me) (fun _ _ => rfl) hM (by simp) (.inl ⟨rfl, rfl⟩) ⟨by decide, by decide⟩ (fun off cap off2 cap2 hl hc1 hl2 hc2 => callsV_perm (runF_calls mix (near_3_010 st off M.length cap cap2 (cwx fl1 off M) g bx to nr me a b d q01 q02 q12) ⟨c1 off cap hl hc1, c2 cap2 hl2 hc2, f01, d01, f02, d02, f12, d12, trivial⟩ rfl rfl) look_sw3)⟩
      · have ee : nearL (wi (nr * nr)) [(0, 1, q01), (0, 2, q02), (1, 2, q12)] = [(0, 2, q02), (1, 2, q12)] := by simp only [nearL, List.filter, d01, d02, d12]
        rw [ee]
        exact ⟨fun h => (by cases h), fun _ => newB_of false true (k := 2020) (ren_cs st g bx to nr me) (fun _ _ => rfl) hM (by simp) (.inl ⟨rfl, rfl⟩) ⟨by decide, by decide⟩ (fun off cap off2 cap2 hl hc1 hl2 hc2 => callsV_perm (runF_calls mix (near_3_011 st off M.length cap cap2 (cwx fl1 off M) g bx to nr me a b d q01 q02 q12) ⟨c1 off cap hl hc1, c2 cap2 hl2 hc2, f01, d01, f02, d02, f12, d12, trivial⟩ rfl rfl) look_sw3)⟩
  · cases d02 : decide (q02 < wi (nr * nr))
    · cases d12 : decide (q12 < wi (nr * nr))
      · have ee : nearL (wi (nr * nr)) [(0, 1, q01), (0, 2, q02), (1, 2, q12)] = [(0, 1, q01)] := by simp only [nearL, List.filter, d01, d02, d12]
        rw [ee]
        exact ⟨fun h => (by cases h), fun _ => newB_of false true (k := 2013) (ren_cs st g bx to nr me) (fun _ _ => rfl) hM (by simp) (.inl ⟨rfl, rfl⟩) ⟨by decide, by decide⟩ (fun off cap off2 cap2 hl hc1 hl2 hc2 => callsV_perm (runF_calls mix (near_3_100 st off M.length cap cap2 (cwx fl1 off M) g bx to nr me a b d q01 q02 q12) ⟨c1 off cap hl hc1, c2 cap2 hl2 hc2, f01, d01, f02, d02, f12, d12, trivial⟩ rfl rfl) look_sw3)⟩
      · have ee : nearL (wi (nr * nr)) [(0, 1, q01), (0, 2, q02), (1, 2, q12)] = [(0, 1, q01), (1, 2, q12)] := by simp only [nearL, List.filter, d01, d02, d12]
        rw [ee]
        exact ⟨fun h => (by cases h), fun _ => newB_of false true (k := 2020) (ren_cs st g bx to nr me) (fun _ _ => rfl) hM (by simp) (.inl ⟨rfl, rfl⟩) ⟨by decide, by decide⟩ (fun off cap off2 cap2 hl hc1 hl2 hc2 => callsV_perm (runF_calls mix (near_3_101 st off M.length cap cap2 (cwx fl1 off M) g bx to nr me a b d q01 q02 q12) ⟨c1 off cap hl hc1, c2 cap2 hl2 hc2, f01, d01, f02, d02, f12, d12, trivial⟩ rfl rfl) look_sw3)⟩
    · cases d12 : decide (q12 < wi (nr * nr))
      · have ee : nearL (wi (nr * nr)) [(0, 1, q01), (0, 2, q02), (1, 2, q12)] = [(0, 1, q01), (0, 2, q02)] := by simp only [nearL, List.filter, d01, d02, d12]
        rw [ee]
        exact ⟨fun h => (by cases h), fun _ => newB_of false true (k := 2017) (ren_cs st g bx to nr me) (fun _ _ => rfl) hM (by simp) (.inl ⟨rfl, rfl⟩) ⟨by decide, by decide⟩ (fun off cap off2 cap2 hl hc1 hl2 hc2 => callsV_perm (runF_calls mix (near_3_110 st off M.length cap cap2 (cwx fl1 off M) g bx to nr me a b d q01 q02 q12) ⟨c1 off cap hl hc1, c2 cap2 hl2 hc2, f01, d01, f02, d02, f12, d12, trivial⟩ rfl rfl) look_sw3)⟩
      · have ee : nearL (wi (nr * nr)) [(0, 1, q01), (0, 2, q02), (1, 2, q12)] = [(0, 1, q01), (0, 2, q02), (1, 2, q12)] := by simp only [nearL, List.filter, d01, d02, d12]
        rw [ee]
        exact ⟨fun h => (by cases h), fun _ => newB_of false true (k := 2022) (ren_cs st g bx to nr me) (fun _ _ => rfl) hM (by simp) (.inl ⟨rfl, rfl⟩) ⟨by decide, by decide⟩ (fun off cap off2 cap2 hl hc1 hl2 hc2 => callsV_perm (runF_calls mix (near_3_111 st off M.length cap cap2 (cwx fl1 off M) g bx to nr me a b d q01 q02 q12) ⟨c1 off cap hl hc1, c2 cap2 hl2 hc2, f01, d01, f02, d02, f12, d12, trivial⟩ rfl rfl) look_sw3)⟩
theorem near_c3 (a b d : Bd) (q01 q02 q12 : Int) (hM : M ≠ []) (hc : chk (whyL M g bx to nr me) = 110) (h : rightV st [a, b, d] = true) (f01 : farP a b q01) (f02 : farP a d q02) (f12 : farP b d q12) : SemB KI KB Try.prog 11 (fun s s' => #[cv s g bx to nr me, sv st s']) M [a, b, d] sl0 :=
  semB_ww false true hM (by simp) (ren_cs st g bx to nr me) rfl (fun off cap off2 cap2 hl hc1 hl2 hc2 => callsV_perm (runF_calls mix (nearc_3 st off M.length cap cap2 (cwx fl1 off M) g bx to nr me a b d q01 q02 q12) ⟨sem1_calls (chk_p g bx to nr me 110 M hc) (ren_cv g bx to nr me) rfl (H := [(1, win off (cwx fl1 off M))]) (s := slw 1 off M.length cap) (fun β w hR => ll_win hR rfl hl hc1), right_c h (H := [(2, KB.seen [a, b, d])]) (s := slw 2 0 3 cap2) (fun β w hR => lk_seen (K := KB) (L := [a, b, d]) (k := 2) hR rfl hl2 hc2), f01, f02, f12, trivial⟩ rfl rfl) look_sw)
theorem near_w4 (a b d e : Bd) (q01 q02 q03 q12 q13 q23 : Int) (hM : M ≠ []) (hc : chk (whyL M g bx to nr me) = 0) (h : rightV st [a, b, d, e] = true) (f01 : farP a b q01) (f02 : farP a d q02) (f03 : farP a e q03) (f12 : farP b d q12) (f13 : farP b e q13) (f23 : farP d e q23) : LstB KI KB Try.prog 11 (fun s s' => #[cv s g bx to nr me, sv st s']) M [a, b, d, e] KP (nearL (wi (nr * nr)) [(0, 1, q01), (0, 2, q02), (0, 3, q03), (1, 2, q12), (1, 3, q13), (2, 3, q23)]) := by
  have c1 : ∀ off cap, M.length ≤ cap → cap ≤ maxLen → chkP 0 st off M.length cap 0 (cwx fl1 off M) g bx to nr me := fun off cap hl hc' => sem1_calls (chk_p g bx to nr me 0 M hc) (ren_cv g bx to nr me) rfl (H := [(1, win off (cwx fl1 off M))]) (s := slw 1 off M.length cap) (fun β w hR => ll_win hR rfl hl hc')
  have c2 : ∀ cap2, 4 ≤ cap2 → cap2 ≤ maxLen → rgtP st cap2 [a, b, d, e] := fun cap2 hl hc' => right_c h (H := [(2, KB.seen [a, b, d, e])]) (s := slw 2 0 4 cap2) (fun β w hR => lk_seen (K := KB) (L := [a, b, d, e]) (k := 2) hR rfl hl hc')
  cases d01 : decide (q01 < wi (nr * nr))
  · cases d02 : decide (q02 < wi (nr * nr))
    · cases d03 : decide (q03 < wi (nr * nr))
      · cases d12 : decide (q12 < wi (nr * nr))
        · cases d13 : decide (q13 < wi (nr * nr))
          · cases d23 : decide (q23 < wi (nr * nr))
            · have ee : nearL (wi (nr * nr)) [(0, 1, q01), (0, 2, q02), (0, 3, q03), (1, 2, q12), (1, 3, q13), (2, 3, q23)] = [] := by simp only [nearL, List.filter, d01, d02, d03, d12, d13, d23]
              rw [ee]
              exact ⟨fun _ => semB_ww false true hM (by simp) (ren_cs st g bx to nr me) rfl (fun off cap off2 cap2 hl hc1 hl2 hc2 => callsV_perm (runF_calls mix (near_4_000000 st off M.length cap cap2 (cwx fl1 off M) g bx to nr me a b d e q01 q02 q03 q12 q13 q23) ⟨c1 off cap hl hc1, c2 cap2 hl2 hc2, f01, d01, f02, d02, f03, d03, f12, d12, f13, d13, f23, d23, trivial⟩ rfl rfl) look_sw), fun h => absurd rfl h⟩
            · have ee : nearL (wi (nr * nr)) [(0, 1, q01), (0, 2, q02), (0, 3, q03), (1, 2, q12), (1, 3, q13), (2, 3, q23)] = [(2, 3, q23)] := by simp only [nearL, List.filter, d01, d02, d03, d12, d13, d23]
              rw [ee]
              exact ⟨fun h => (by cases h), fun _ => newB_of false true (k := 2025) (ren_cs st g bx to nr me) (fun _ _ => rfl) hM (by simp) (.inl ⟨rfl, rfl⟩) ⟨by decide, by decide⟩ (fun off cap off2 cap2 hl hc1 hl2 hc2 => callsV_perm (runF_calls mix (near_4_000001 st off M.length cap cap2 (cwx fl1 off M) g bx to nr me a b d e q01 q02 q03 q12 q13 q23) ⟨c1 off cap hl hc1, c2 cap2 hl2 hc2, f01, d01, f02, d02, f03, d03, f12, d12, f13, d13, f23, d23, trivial⟩ rfl rfl) look_sw3)⟩
          · cases d23 : decide (q23 < wi (nr * nr))
            · have ee : nearL (wi (nr * nr)) [(0, 1, q01), (0, 2, q02), (0, 3, q03), (1, 2, q12), (1, 3, q13), (2, 3, q23)] = [(1, 3, q13)] := by simp only [nearL, List.filter, d01, d02, d03, d12, d13, d23]
              rw [ee]
              exact ⟨fun h => (by cases h), fun _ => newB_of false true (k := 2022) (ren_cs st g bx to nr me) (fun _ _ => rfl) hM (by simp) (.inl ⟨rfl, rfl⟩) ⟨by decide, by decide⟩ (fun off cap off2 cap2 hl hc1 hl2 hc2 => callsV_perm (runF_calls mix (near_4_000010 st off M.length cap cap2 (cwx fl1 off M) g bx to nr me a b d e q01 q02 q03 q12 q13 q23) ⟨c1 off cap hl hc1, c2 cap2 hl2 hc2, f01, d01, f02, d02, f03, d03, f12, d12, f13, d13, f23, d23, trivial⟩ rfl rfl) look_sw3)⟩
            · have ee : nearL (wi (nr * nr)) [(0, 1, q01), (0, 2, q02), (0, 3, q03), (1, 2, q12), (1, 3, q13), (2, 3, q23)] = [(1, 3, q13), (2, 3, q23)] := by simp only [nearL, List.filter, d01, d02, d03, d12, d13, d23]
              rw [ee]
              exact ⟨fun h => (by cases h), fun _ => newB_of false true (k := 2027) (ren_cs st g bx to nr me) (fun _ _ => rfl) hM (by simp) (.inl ⟨rfl, rfl⟩) ⟨by decide, by decide⟩ (fun off cap off2 cap2 hl hc1 hl2 hc2 => callsV_perm (runF_calls mix (near_4_000011 st off M.length cap cap2 (cwx fl1 off M) g bx to nr me a b d e q01 q02 q03 q12 q13 q23) ⟨c1 off cap hl hc1, c2 cap2 hl2 hc2, f01, d01, f02, d02, f03, d03, f12, d12, f13, d13, f23, d23, trivial⟩ rfl rfl) look_sw3)⟩
        · cases d13 : decide (q13 < wi (nr * nr))
          · cases d23 : decide (q23 < wi (nr * nr))
            · have ee : nearL (wi (nr * nr)) [(0, 1, q01), (0, 2, q02), (0, 3, q03), (1, 2, q12), (1, 3, q13), (2, 3, q23)] = [(1, 2, q12)] := by simp only [nearL, List.filter, d01, d02, d03, d12, d13, d23]
              rw [ee]
              exact ⟨fun h => (by cases h), fun _ => newB_of false true (k := 2020) (ren_cs st g bx to nr me) (fun _ _ => rfl) hM (by simp) (.inl ⟨rfl, rfl⟩) ⟨by decide, by decide⟩ (fun off cap off2 cap2 hl hc1 hl2 hc2 => callsV_perm (runF_calls mix (near_4_000100 st off M.length cap cap2 (cwx fl1 off M) g bx to nr me a b d e q01 q02 q03 q12 q13 q23) ⟨c1 off cap hl hc1, c2 cap2 hl2 hc2, f01, d01, f02, d02, f03, d03, f12, d12, f13, d13, f23, d23, trivial⟩ rfl rfl) look_sw3)⟩
            · have ee : nearL (wi (nr * nr)) [(0, 1, q01), (0, 2, q02), (0, 3, q03), (1, 2, q12), (1, 3, q13), (2, 3, q23)] = [(1, 2, q12), (2, 3, q23)] := by simp only [nearL, List.filter, d01, d02, d03, d12, d13, d23]
              rw [ee]
              exact ⟨fun h => (by cases h), fun _ => newB_of false true (k := 2027) (ren_cs st g bx to nr me) (fun _ _ => rfl) hM (by simp) (.inl ⟨rfl, rfl⟩) ⟨by decide, by decide⟩ (fun off cap off2 cap2 hl hc1 hl2 hc2 => callsV_perm (runF_calls mix (near_4_000101 st off M.length cap cap2 (cwx fl1 off M) g bx to nr me a b d e q01 q02 q03 q12 q13 q23) ⟨c1 off cap hl hc1, c2 cap2 hl2 hc2, f01, d01, f02, d02, f03, d03, f12, d12, f13, d13, f23, d23, trivial⟩ rfl rfl) look_sw3)⟩
          · cases d23 : decide (q23 < wi (nr * nr))
            · have ee : nearL (wi (nr * nr)) [(0, 1, q01), (0, 2, q02), (0, 3, q03), (1, 2, q12), (1, 3, q13), (2, 3, q23)] = [(1, 2, q12), (1, 3, q13)] := by simp only [nearL, List.filter, d01, d02, d03, d12, d13, d23]
              rw [ee]
              exact ⟨fun h => (by cases h), fun _ => newB_of false true (k := 2024) (ren_cs st g bx to nr me) (fun _ _ => rfl) hM (by simp) (.inl ⟨rfl, rfl⟩) ⟨by decide, by decide⟩ (fun off cap off2 cap2 hl hc1 hl2 hc2 => callsV_perm (runF_calls mix (near_4_000110 st off M.length cap cap2 (cwx fl1 off M) g bx to nr me a b d e q01 q02 q03 q12 q13 q23) ⟨c1 off cap hl hc1, c2 cap2 hl2 hc2, f01, d01, f02, d02, f03, d03, f12, d12, f13, d13, f23, d23, trivial⟩ rfl rfl) look_sw3)⟩
            · have ee : nearL (wi (nr * nr)) [(0, 1, q01), (0, 2, q02), (0, 3, q03), (1, 2, q12), (1, 3, q13), (2, 3, q23)] = [(1, 2, q12), (1, 3, q13), (2, 3, q23)] := by simp only [nearL, List.filter, d01, d02, d03, d12, d13, d23]
              rw [ee]
              exact ⟨fun h => (by cases h), fun _ => newB_of false true (k := 2029) (ren_cs st g bx to nr me) (fun _ _ => rfl) hM (by simp) (.inl ⟨rfl, rfl⟩) ⟨by decide, by decide⟩ (fun off cap off2 cap2 hl hc1 hl2 hc2 => callsV_perm (runF_calls mix (near_4_000111 st off M.length cap cap2 (cwx fl1 off M) g bx to nr me a b d e q01 q02 q03 q12 q13 q23) ⟨c1 off cap hl hc1, c2 cap2 hl2 hc2, f01, d01, f02, d02, f03, d03, f12, d12, f13, d13, f23, d23, trivial⟩ rfl rfl) look_sw3)⟩
      · cases d12 : decide (q12 < wi (nr * nr))
        · cases d13 : decide (q13 < wi (nr * nr))
          · cases d23 : decide (q23 < wi (nr * nr))
            · have ee : nearL (wi (nr * nr)) [(0, 1, q01), (0, 2, q02), (0, 3, q03), (1, 2, q12), (1, 3, q13), (2, 3, q23)] = [(0, 3, q03)] := by simp only [nearL, List.filter, d01, d02, d03, d12, d13, d23]
              rw [ee]
              exact ⟨fun h => (by cases h), fun _ => newB_of false true (k := 2017) (ren_cs st g bx to nr me) (fun _ _ => rfl) hM (by simp) (.inl ⟨rfl, rfl⟩) ⟨by decide, by decide⟩ (fun off cap off2 cap2 hl hc1 hl2 hc2 => callsV_perm (runF_calls mix (near_4_001000 st off M.length cap cap2 (cwx fl1 off M) g bx to nr me a b d e q01 q02 q03 q12 q13 q23) ⟨c1 off cap hl hc1, c2 cap2 hl2 hc2, f01, d01, f02, d02, f03, d03, f12, d12, f13, d13, f23, d23, trivial⟩ rfl rfl) look_sw3)⟩
            · have ee : nearL (wi (nr * nr)) [(0, 1, q01), (0, 2, q02), (0, 3, q03), (1, 2, q12), (1, 3, q13), (2, 3, q23)] = [(0, 3, q03), (2, 3, q23)] := by simp only [nearL, List.filter, d01, d02, d03, d12, d13, d23]
              rw [ee]
              exact ⟨fun h => (by cases h), fun _ => newB_of false true (k := 2027) (ren_cs st g bx to nr me) (fun _ _ => rfl) hM (by simp) (.inl ⟨rfl, rfl⟩) ⟨by decide, by decide⟩ (fun off cap off2 cap2 hl hc1 hl2 hc2 => callsV_perm (runF_calls mix (near_4_001001 st off M.length cap cap2 (cwx fl1 off M) g bx to nr me a b d e q01 q02 q03 q12 q13 q23) ⟨c1 off cap hl hc1, c2 cap2 hl2 hc2, f01, d01, f02, d02, f03, d03, f12, d12, f13, d13, f23, d23, trivial⟩ rfl rfl) look_sw3)⟩
          · cases d23 : decide (q23 < wi (nr * nr))
            · have ee : nearL (wi (nr * nr)) [(0, 1, q01), (0, 2, q02), (0, 3, q03), (1, 2, q12), (1, 3, q13), (2, 3, q23)] = [(0, 3, q03), (1, 3, q13)] := by simp only [nearL, List.filter, d01, d02, d03, d12, d13, d23]
              rw [ee]
              exact ⟨fun h => (by cases h), fun _ => newB_of false true (k := 2024) (ren_cs st g bx to nr me) (fun _ _ => rfl) hM (by simp) (.inl ⟨rfl, rfl⟩) ⟨by decide, by decide⟩ (fun off cap off2 cap2 hl hc1 hl2 hc2 => callsV_perm (runF_calls mix (near_4_001010 st off M.length cap cap2 (cwx fl1 off M) g bx to nr me a b d e q01 q02 q03 q12 q13 q23) ⟨c1 off cap hl hc1, c2 cap2 hl2 hc2, f01, d01, f02, d02, f03, d03, f12, d12, f13, d13, f23, d23, trivial⟩ rfl rfl) look_sw3)⟩
            · have ee : nearL (wi (nr * nr)) [(0, 1, q01), (0, 2, q02), (0, 3, q03), (1, 2, q12), (1, 3, q13), (2, 3, q23)] = [(0, 3, q03), (1, 3, q13), (2, 3, q23)] := by simp only [nearL, List.filter, d01, d02, d03, d12, d13, d23]
              rw [ee]
              exact ⟨fun h => (by cases h), fun _ => newB_of false true (k := 2029) (ren_cs st g bx to nr me) (fun _ _ => rfl) hM (by simp) (.inl ⟨rfl, rfl⟩) ⟨by decide, by decide⟩ (fun off cap off2 cap2 hl hc1 hl2 hc2 => callsV_perm (runF_calls mix (near_4_001011 st off M.length cap cap2 (cwx fl1 off M) g bx to nr me a b d e q01 q02 q03 q12 q13 q23) ⟨c1 off cap hl hc1, c2 cap2 hl2 hc2, f01, d01, f02, d02, f03, d03, f12, d12, f13, d13, f23, d23, trivial⟩ rfl rfl) look_sw3)⟩
        · cases d13 : decide (q13 < wi (nr * nr))
          · cases d23 : decide (q23 < wi (nr * nr))
            · have ee : nearL (wi (nr * nr)) [(0, 1, q01), (0, 2, q02), (0, 3, q03), (1, 2, q12), (1, 3, q13), (2, 3, q23)] = [(0, 3, q03), (1, 2, q12)] := by simp only [nearL, List.filter, d01, d02, d03, d12, d13, d23]
              rw [ee]
              exact ⟨fun h => (by cases h), fun _ => newB_of false true (k := 2022) (ren_cs st g bx to nr me) (fun _ _ => rfl) hM (by simp) (.inl ⟨rfl, rfl⟩) ⟨by decide, by decide⟩ (fun off cap off2 cap2 hl hc1 hl2 hc2 => callsV_perm (runF_calls mix (near_4_001100 st off M.length cap cap2 (cwx fl1 off M) g bx to nr me a b d e q01 q02 q03 q12 q13 q23) ⟨c1 off cap hl hc1, c2 cap2 hl2 hc2, f01, d01, f02, d02, f03, d03, f12, d12, f13, d13, f23, d23, trivial⟩ rfl rfl) look_sw3)⟩
            · have ee : nearL (wi (nr * nr)) [(0, 1, q01), (0, 2, q02), (0, 3, q03), (1, 2, q12), (1, 3, q13), (2, 3, q23)] = [(0, 3, q03), (1, 2, q12), (2, 3, q23)] := by simp only [nearL, List.filter, d01, d02, d03, d12, d13, d23]
              rw [ee]
              exact ⟨fun h => (by cases h), fun _ => newB_of false true (k := 2029) (ren_cs st g bx to nr me) (fun _ _ => rfl) hM (by simp) (.inl ⟨rfl, rfl⟩) ⟨by decide, by decide⟩ (fun off cap off2 cap2 hl hc1 hl2 hc2 => callsV_perm (runF_calls mix (near_4_001101 st off M.length cap cap2 (cwx fl1 off M) g bx to nr me a b d e q01 q02 q03 q12 q13 q23) ⟨c1 off cap hl hc1, c2 cap2 hl2 hc2, f01, d01, f02, d02, f03, d03, f12, d12, f13, d13, f23, d23, trivial⟩ rfl rfl) look_sw3)⟩
          · cases d23 : decide (q23 < wi (nr * nr))
            · have ee : nearL (wi (nr * nr)) [(0, 1, q01), (0, 2, q02), (0, 3, q03), (1, 2, q12), (1, 3, q13), (2, 3, q23)] = [(0, 3, q03), (1, 2, q12), (1, 3, q13)] := by simp only [nearL, List.filter, d01, d02, d03, d12, d13, d23]
              rw [ee]
              exact ⟨fun h => (by cases h), fun _ => newB_of false true (k := 2026) (ren_cs st g bx to nr me) (fun _ _ => rfl) hM (by simp) (.inl ⟨rfl, rfl⟩) ⟨by decide, by decide⟩ (fun off cap off2 cap2 hl hc1 hl2 hc2 => callsV_perm (runF_calls mix (near_4_001110 st off M.length cap cap2 (cwx fl1 off M) g bx to nr me a b d e q01 q02 q03 q12 q13 q23) ⟨c1 off cap hl hc1, c2 cap2 hl2 hc2, f01, d01, f02, d02, f03, d03, f12, d12, f13, d13, f23, d23, trivial⟩ rfl rfl) look_sw3)⟩
            · have ee : nearL (wi (nr * nr)) [(0, 1, q01), (0, 2, q02), (0, 3, q03), (1, 2, q12), (1, 3, q13), (2, 3, q23)] = [(0, 3, q03), (1, 2, q12), (1, 3, q13), (2, 3, q23)] := by simp only [nearL, List.filter, d01, d02, d03, d12, d13, d23]
              rw [ee]
              exact ⟨fun h => (by cases h), fun _ => newB_of false true (k := 2031) (ren_cs st g bx to nr me) (fun _ _ => rfl) hM (by simp) (.inl ⟨rfl, rfl⟩) ⟨by decide, by decide⟩ (fun off cap off2 cap2 hl hc1 hl2 hc2 => callsV_perm (runF_calls mix (near_4_001111 st off M.length cap cap2 (cwx fl1 off M) g bx to nr me a b d e q01 q02 q03 q12 q13 q23) ⟨c1 off cap hl hc1, c2 cap2 hl2 hc2, f01, d01, f02, d02, f03, d03, f12, d12, f13, d13, f23, d23, trivial⟩ rfl rfl) look_sw3)⟩
    · cases d03 : decide (q03 < wi (nr * nr))
      · cases d12 : decide (q12 < wi (nr * nr))
        · cases d13 : decide (q13 < wi (nr * nr))
          · cases d23 : decide (q23 < wi (nr * nr))
            · have ee : nearL (wi (nr * nr)) [(0, 1, q01), (0, 2, q02), (0, 3, q03), (1, 2, q12), (1, 3, q13), (2, 3, q23)] = [(0, 2, q02)] := by simp only [nearL, List.filter, d01, d02, d03, d12, d13, d23]
              rw [ee]
              exact ⟨fun h => (by cases h), fun _ => newB_of false true (k := 2015) (ren_cs st g bx to nr me) (fun _ _ => rfl) hM (by simp) (.inl ⟨rfl, rfl⟩) ⟨by decide, by decide⟩ (fun off cap off2 cap2 hl hc1 hl2 hc2 => callsV_perm (runF_calls mix (near_4_010000 st off M.length cap cap2 (cwx fl1 off M) g bx to nr me a b d e q01 q02 q03 q12 q13 q23) ⟨c1 off cap hl hc1, c2 cap2 hl2 hc2, f01, d01, f02, d02, f03, d03, f12, d12, f13, d13, f23, d23, trivial⟩ rfl rfl) look_sw3)⟩
            · have ee : nearL (wi (nr * nr)) [(0, 1, q01), (0, 2, q02), (0, 3, q03), (1, 2, q12), (1, 3, q13), (2, 3, q23)] = [(0, 2, q02), (2, 3, q23)] := by simp only [nearL, List.filter, d01, d02, d03, d12, d13, d23]
              rw [ee]
              exact ⟨fun h => (by cases h), fun _ => newB_of false true (k := 2027) (ren_cs st g bx to nr me) (fun _ _ => rfl) hM (by simp) (.inl ⟨rfl, rfl⟩) ⟨by decide, by decide⟩ (fun off cap off2 cap2 hl hc1 hl2 hc2 => callsV_perm (runF_calls mix (near_4_010001 st off M.length cap cap2 (cwx fl1 off M) g bx to nr me a b d e q01 q02 q03 q12 q13 q23) ⟨c1 off cap hl hc1, c2 cap2 hl2 hc2, f01, d01, f02, d02, f03, d03, f12, d12, f13, d13, f23, d23, trivial⟩ rfl rfl) look_sw3)⟩
          · cases d23 : decide (q23 < wi (nr * nr))
            · have ee : nearL (wi (nr * nr)) [(0, 1, q01), (0, 2, q02), (0, 3, q03), (1, 2, q12), (1, 3, q13), (2, 3, q23)] = [(0, 2, q02), (1, 3, q13)] := by simp only [nearL, List.filter, d01, d02, d03, d12, d13, d23]
              rw [ee]
              exact ⟨fun h => (by cases h), fun _ => newB_of false true (k := 2024) (ren_cs st g bx to nr me) (fun _ _ => rfl) hM (by simp) (.inl ⟨rfl, rfl⟩) ⟨by decide, by decide⟩ (fun off cap off2 cap2 hl hc1 hl2 hc2 => callsV_perm (runF_calls mix (near_4_010010 st off M.length cap cap2 (cwx fl1 off M) g bx to nr me a b d e q01 q02 q03 q12 q13 q23) ⟨c1 off cap hl hc1, c2 cap2 hl2 hc2, f01, d01, f02, d02, f03, d03, f12, d12, f13, d13, f23, d23, trivial⟩ rfl rfl) look_sw3)⟩
            · have ee : nearL (wi (nr * nr)) [(0, 1, q01), (0, 2, q02), (0, 3, q03), (1, 2, q12), (1, 3, q13), (2, 3, q23)] = [(0, 2, q02), (1, 3, q13), (2, 3, q23)] := by simp only [nearL, List.filter, d01, d02, d03, d12, d13, d23]
              rw [ee]
              exact ⟨fun h => (by cases h), fun _ => newB_of false true (k := 2029) (ren_cs st g bx to nr me) (fun _ _ => rfl) hM (by simp) (.inl ⟨rfl, rfl⟩) ⟨by decide, by decide⟩ (fun off cap off2 cap2 hl hc1 hl2 hc2 => callsV_perm (runF_calls mix (near_4_010011 st off M.length cap cap2 (cwx fl1 off M) g bx to nr me a b d e q01 q02 q03 q12 q13 q23) ⟨c1 off cap hl hc1, c2 cap2 hl2 hc2, f01, d01, f02, d02, f03, d03, f12, d12, f13, d13, f23, d23, trivial⟩ rfl rfl) look_sw3)⟩
        · cases d13 : decide (q13 < wi (nr * nr))
          · cases d23 : decide (q23 < wi (nr * nr))
            · have ee : nearL (wi (nr * nr)) [(0, 1, q01), (0, 2, q02), (0, 3, q03), (1, 2, q12), (1, 3, q13), (2, 3, q23)] = [(0, 2, q02), (1, 2, q12)] := by simp only [nearL, List.filter, d01, d02, d03, d12, d13, d23]
              rw [ee]
              exact ⟨fun h => (by cases h), fun _ => newB_of false true (k := 2022) (ren_cs st g bx to nr me) (fun _ _ => rfl) hM (by simp) (.inl ⟨rfl, rfl⟩) ⟨by decide, by decide⟩ (fun off cap off2 cap2 hl hc1 hl2 hc2 => callsV_perm (runF_calls mix (near_4_010100 st off M.length cap cap2 (cwx fl1 off M) g bx to nr me a b d e q01 q02 q03 q12 q13 q23) ⟨c1 off cap hl hc1, c2 cap2 hl2 hc2, f01, d01, f02, d02, f03, d03, f12, d12, f13, d13, f23, d23, trivial⟩ rfl rfl) look_sw3)⟩
            · have ee : nearL (wi (nr * nr)) [(0, 1, q01), (0, 2, q02), (0, 3, q03), (1, 2, q12), (1, 3, q13), (2, 3, q23)] = [(0, 2, q02), (1, 2, q12), (2, 3, q23)] := by simp only [nearL, List.filter, d01, d02, d03, d12, d13, d23]
              rw [ee]
              exact ⟨fun h => (by cases h), fun _ => newB_of false true (k := 2029) (ren_cs st g bx to nr me) (fun _ _ => rfl) hM (by simp) (.inl ⟨rfl, rfl⟩) ⟨by decide, by decide⟩ (fun off cap off2 cap2 hl hc1 hl2 hc2 => callsV_perm (runF_calls mix (near_4_010101 st off M.length cap cap2 (cwx fl1 off M) g bx to nr me a b d e q01 q02 q03 q12 q13 q23) ⟨c1 off cap hl hc1, c2 cap2 hl2 hc2, f01, d01, f02, d02, f03, d03, f12, d12, f13, d13, f23, d23, trivial⟩ rfl rfl) look_sw3)⟩
          · cases d23 : decide (q23 < wi (nr * nr))
            · have ee : nearL (wi (nr * nr)) [(0, 1, q01), (0, 2, q02), (0, 3, q03), (1, 2, q12), (1, 3, q13), (2, 3, q23)] = [(0, 2, q02), (1, 2, q12), (1, 3, q13)] := by simp only [nearL, List.filter, d01, d02, d03, d12, d13, d23]
              rw [ee]
              exact ⟨fun h => (by cases h), fun _ => newB_of false true (k := 2026) (ren_cs st g bx to nr me) (fun _ _ => rfl) hM (by simp) (.inl ⟨rfl, rfl⟩) ⟨by decide, by decide⟩ (fun off cap off2 cap2 hl hc1 hl2 hc2 => callsV_perm (runF_calls mix (near_4_010110 st off M.length cap cap2 (cwx fl1 off M) g bx to nr me a b d e q01 q02 q03 q12 q13 q23) ⟨c1 off cap hl hc1, c2 cap2 hl2 hc2, f01, d01, f02, d02, f03, d03, f12, d12, f13, d13, f23, d23, trivial⟩ rfl rfl) look_sw3)⟩
            · have ee : nearL (wi (nr * nr)) [(0, 1, q01), (0, 2, q02), (0, 3, q03), (1, 2, q12), (1, 3, q13), (2, 3, q23)] = [(0, 2, q02), (1, 2, q12), (1, 3, q13), (2, 3, q23)] := by simp only [nearL, List.filter, d01, d02, d03, d12, d13, d23]
              rw [ee]
              exact ⟨fun h => (by cases h), fun _ => newB_of false true (k := 2031) (ren_cs st g bx to nr me) (fun _ _ => rfl) hM (by simp) (.inl ⟨rfl, rfl⟩) ⟨by decide, by decide⟩ (fun off cap off2 cap2 hl hc1 hl2 hc2 => callsV_perm (runF_calls mix (near_4_010111 st off M.length cap cap2 (cwx fl1 off M) g bx to nr me a b d e q01 q02 q03 q12 q13 q23) ⟨c1 off cap hl hc1, c2 cap2 hl2 hc2, f01, d01, f02, d02, f03, d03, f12, d12, f13, d13, f23, d23, trivial⟩ rfl rfl) look_sw3)⟩
      · cases d12 : decide (q12 < wi (nr * nr))
        · cases d13 : decide (q13 < wi (nr * nr))
          · cases d23 : decide (q23 < wi (nr * nr))
            · have ee : nearL (wi (nr * nr)) [(0, 1, q01), (0, 2, q02), (0, 3, q03), (1, 2, q12), (1, 3, q13), (2, 3, q23)] = [(0, 2, q02), (0, 3, q03)] := by simp only [nearL, List.filter, d01, d02, d03, d12, d13, d23]
              rw [ee]
              exact ⟨fun h => (by cases h), fun _ => newB_of false true (k := 2019) (ren_cs st g bx to nr me) (fun _ _ => rfl) hM (by simp) (.inl ⟨rfl, rfl⟩) ⟨by decide, by decide⟩ (fun off cap off2 cap2 hl hc1 hl2 hc2 => callsV_perm (runF_calls mix (near_4_011000 st off M.length cap cap2 (cwx fl1 off M) g bx to nr me a b d e q01 q02 q03 q12 q13 q23) ⟨c1 off cap hl hc1, c2 cap2 hl2 hc2, f01, d01, f02, d02, f03, d03, f12, d12, f13, d13, f23, d23, trivial⟩ rfl rfl) look_sw3)⟩
            · have ee : nearL (wi (nr * nr)) [(0, 1, q01), (0, 2, q02), (0, 3, q03), (1, 2, q12), (1, 3, q13), (2, 3, q23)] = [(0, 2, q02), (0, 3, q03), (2, 3, q23)] := by simp only [nearL, List.filter, d01, d02, d03, d12, d13, d23]
              rw [ee]
              exact ⟨fun h => (by cases h), fun _ => newB_of false true (k := 2029) (ren_cs st g bx to nr me) (fun _ _ => rfl) hM (by simp) (.inl ⟨rfl, rfl⟩) ⟨by decide, by decide⟩ (fun off cap off2 cap2 hl hc1 hl2 hc2 => callsV_perm (runF_calls mix (near_4_011001 st off M.length cap cap2 (cwx fl1 off M) g bx to nr me a b d e q01 q02 q03 q12 q13 q23) ⟨c1 off cap hl hc1, c2 cap2 hl2 hc2, f01, d01, f02, d02, f03, d03, f12, d12, f13, d13, f23, d23, trivial⟩ rfl rfl) look_sw3)⟩
          · cases d23 : decide (q23 < wi (nr * nr))
            · have ee : nearL (wi (nr * nr)) [(0, 1, q01), (0, 2, q02), (0, 3, q03), (1, 2, q12), (1, 3, q13), (2, 3, q23)] = [(0, 2, q02), (0, 3, q03), (1, 3, q13)] := by simp only [nearL, List.filter, d01, d02, d03, d12, d13, d23]
              rw [ee]
              exact ⟨fun h => (by cases h), fun _ => newB_of false true (k := 2026) (ren_cs st g bx to nr me) (fun _ _ => rfl) hM (by simp) (.inl ⟨rfl, rfl⟩) ⟨by decide, by decide⟩ (fun off cap off2 cap2 hl hc1 hl2 hc2 => callsV_perm (runF_calls mix (near_4_011010 st off M.length cap cap2 (cwx fl1 off M) g bx to nr me a b d e q01 q02 q03 q12 q13 q23) ⟨c1 off cap hl hc1, c2 cap2 hl2 hc2, f01, d01, f02, d02, f03, d03, f12, d12, f13, d13, f23, d23, trivial⟩ rfl rfl) look_sw3)⟩
            · have ee : nearL (wi (nr * nr)) [(0, 1, q01), (0, 2, q02), (0, 3, q03), (1, 2, q12), (1, 3, q13), (2, 3, q23)] = [(0, 2, q02), (0, 3, q03), (1, 3, q13), (2, 3, q23)] := by simp only [nearL, List.filter, d01, d02, d03, d12, d13, d23]
              rw [ee]
              exact ⟨fun h => (by cases h), fun _ => newB_of false true (k := 2031) (ren_cs st g bx to nr me) (fun _ _ => rfl) hM (by simp) (.inl ⟨rfl, rfl⟩) ⟨by decide, by decide⟩ (fun off cap off2 cap2 hl hc1 hl2 hc2 => callsV_perm (runF_calls mix (near_4_011011 st off M.length cap cap2 (cwx fl1 off M) g bx to nr me a b d e q01 q02 q03 q12 q13 q23) ⟨c1 off cap hl hc1, c2 cap2 hl2 hc2, f01, d01, f02, d02, f03, d03, f12, d12, f13, d13, f23, d23, trivial⟩ rfl rfl) look_sw3)⟩
        · cases d13 : decide (q13 < wi (nr * nr))
          · cases d23 : decide (q23 < wi (nr * nr))
            · have ee : nearL (wi (nr * nr)) [(0, 1, q01), (0, 2, q02), (0, 3, q03), (1, 2, q12), (1, 3, q13), (2, 3, q23)] = [(0, 2, q02), (0, 3, q03), (1, 2, q12)] := by simp only [nearL, List.filter, d01, d02, d03, d12, d13, d23]
              rw [ee]
              exact ⟨fun h => (by cases h), fun _ => newB_of false true (k := 2024) (ren_cs st g bx to nr me) (fun _ _ => rfl) hM (by simp) (.inl ⟨rfl, rfl⟩) ⟨by decide, by decide⟩ (fun off cap off2 cap2 hl hc1 hl2 hc2 => callsV_perm (runF_calls mix (near_4_011100 st off M.length cap cap2 (cwx fl1 off M) g bx to nr me a b d e q01 q02 q03 q12 q13 q23) ⟨c1 off cap hl hc1, c2 cap2 hl2 hc2, f01, d01, f02, d02, f03, d03, f12, d12, f13, d13, f23, d23, trivial⟩ rfl rfl) look_sw3)⟩
            · have ee : nearL (wi (nr * nr)) [(0, 1, q01), (0, 2, q02), (0, 3, q03), (1, 2, q12), (1, 3, q13), (2, 3, q23)] = [(0, 2, q02), (0, 3, q03), (1, 2, q12), (2, 3, q23)] := by simp only [nearL, List.filter, d01, d02, d03, d12, d13, d23]
              rw [ee]
              exact ⟨fun h => (by cases h), fun _ => newB_of false true (k := 2031) (ren_cs st g bx to nr me) (fun _ _ => rfl) hM (by simp) (.inl ⟨rfl, rfl⟩) ⟨by decide, by decide⟩ (fun off cap off2 cap2 hl hc1 hl2 hc2 => callsV_perm (runF_calls mix (near_4_011101 st off M.length cap cap2 (cwx fl1 off M) g bx to nr me a b d e q01 q02 q03 q12 q13 q23) ⟨c1 off cap hl hc1, c2 cap2 hl2 hc2, f01, d01, f02, d02, f03, d03, f12, d12, f13, d13, f23, d23, trivial⟩ rfl rfl) look_sw3)⟩
          · cases d23 : decide (q23 < wi (nr * nr))
            · have ee : nearL (wi (nr * nr)) [(0, 1, q01), (0, 2, q02), (0, 3, q03), (1, 2, q12), (1, 3, q13), (2, 3, q23)] = [(0, 2, q02), (0, 3, q03), (1, 2, q12), (1, 3, q13)] := by simp only [nearL, List.filter, d01, d02, d03, d12, d13, d23]
              rw [ee]
              exact ⟨fun h => (by cases h), fun _ => newB_of false true (k := 2028) (ren_cs st g bx to nr me) (fun _ _ => rfl) hM (by simp) (.inl ⟨rfl, rfl⟩) ⟨by decide, by decide⟩ (fun off cap off2 cap2 hl hc1 hl2 hc2 => callsV_perm (runF_calls mix (near_4_011110 st off M.length cap cap2 (cwx fl1 off M) g bx to nr me a b d e q01 q02 q03 q12 q13 q23) ⟨c1 off cap hl hc1, c2 cap2 hl2 hc2, f01, d01, f02, d02, f03, d03, f12, d12, f13, d13, f23, d23, trivial⟩ rfl rfl) look_sw3)⟩
            · have ee : nearL (wi (nr * nr)) [(0, 1, q01), (0, 2, q02), (0, 3, q03), (1, 2, q12), (1, 3, q13), (2, 3, q23)] = [(0, 2, q02), (0, 3, q03), (1, 2, q12), (1, 3, q13), (2, 3, q23)] := by simp only [nearL, List.filter, d01, d02, d03, d12, d13, d23]
              rw [ee]
              exact ⟨fun h => (by cases h), fun _ => newB_of false true (k := 2033) (ren_cs st g bx to nr me) (fun _ _ => rfl) hM (by simp) (.inl ⟨rfl, rfl⟩) ⟨by decide, by decide⟩ (fun off cap off2 cap2 hl hc1 hl2 hc2 => callsV_perm (runF_calls mix (near_4_011111 st off M.length cap cap2 (cwx fl1 off M) g bx to nr me a b d e q01 q02 q03 q12 q13 q23) ⟨c1 off cap hl hc1, c2 cap2 hl2 hc2, f01, d01, f02, d02, f03, d03, f12, d12, f13, d13, f23, d23, trivial⟩ rfl rfl) look_sw3)⟩
  · cases d02 : decide (q02 < wi (nr * nr))
    · cases d03 : decide (q03 < wi (nr * nr))
      · cases d12 : decide (q12 < wi (nr * nr))
        · cases d13 : decide (q13 < wi (nr * nr))
          · cases d23 : decide (q23 < wi (nr * nr))
            · have ee : nearL (wi (nr * nr)) [(0, 1, q01), (0, 2, q02), (0, 3, q03), (1, 2, q12), (1, 3, q13), (2, 3, q23)] = [(0, 1, q01)] := by simp only [nearL, List.filter, d01, d02, d03, d12, d13, d23]
              rw [ee]
              exact ⟨fun h => (by cases h), fun _ => newB_of false true (k := 2013) (ren_cs st g bx to nr me) (fun _ _ => rfl) hM (by simp) (.inl ⟨rfl, rfl⟩) ⟨by decide, by decide⟩ (fun off cap off2 cap2 hl hc1 hl2 hc2 => callsV_perm (runF_calls mix (near_4_100000 st off M.length cap cap2 (cwx fl1 off M) g bx to nr me a b d e q01 q02 q03 q12 q13 q23) ⟨c1 off cap hl hc1, c2 cap2 hl2 hc2, f01, d01, f02, d02, f03, d03, f12, d12, f13, d13, f23, d23, trivial⟩ rfl rfl) look_sw3)⟩
            · have ee : nearL (wi (nr * nr)) [(0, 1, q01), (0, 2, q02), (0, 3, q03), (1, 2, q12), (1, 3, q13), (2, 3, q23)] = [(0, 1, q01), (2, 3, q23)] := by simp only [nearL, List.filter, d01, d02, d03, d12, d13, d23]
              rw [ee]
              exact ⟨fun h => (by cases h), fun _ => newB_of false true (k := 2027) (ren_cs st g bx to nr me) (fun _ _ => rfl) hM (by simp) (.inl ⟨rfl, rfl⟩) ⟨by decide, by decide⟩ (fun off cap off2 cap2 hl hc1 hl2 hc2 => callsV_perm (runF_calls mix (near_4_100001 st off M.length cap cap2 (cwx fl1 off M) g bx to nr me a b d e q01 q02 q03 q12 q13 q23) ⟨c1 off cap hl hc1, c2 cap2 hl2 hc2, f01, d01, f02, d02, f03, d03, f12, d12, f13, d13, f23, d23, trivial⟩ rfl rfl) look_sw3)⟩
          · cases d23 : decide (q23 < wi (nr * nr))
            · have ee : nearL (wi (nr * nr)) [(0, 1, q01), (0, 2, q02), (0, 3, q03), (1, 2, q12), (1, 3, q13), (2, 3, q23)] = [(0, 1, q01), (1, 3, q13)] := by simp only [nearL, List.filter, d01, d02, d03, d12, d13, d23]
              rw [ee]
              exact ⟨fun h => (by cases h), fun _ => newB_of false true (k := 2024) (ren_cs st g bx to nr me) (fun _ _ => rfl) hM (by simp) (.inl ⟨rfl, rfl⟩) ⟨by decide, by decide⟩ (fun off cap off2 cap2 hl hc1 hl2 hc2 => callsV_perm (runF_calls mix (near_4_100010 st off M.length cap cap2 (cwx fl1 off M) g bx to nr me a b d e q01 q02 q03 q12 q13 q23) ⟨c1 off cap hl hc1, c2 cap2 hl2 hc2, f01, d01, f02, d02, f03, d03, f12, d12, f13, d13, f23, d23, trivial⟩ rfl rfl) look_sw3)⟩
            · have ee : nearL (wi (nr * nr)) [(0, 1, q01), (0, 2, q02), (0, 3, q03), (1, 2, q12), (1, 3, q13), (2, 3, q23)] = [(0, 1, q01), (1, 3, q13), (2, 3, q23)] := by simp only [nearL, List.filter, d01, d02, d03, d12, d13, d23]
              rw [ee]
              exact ⟨fun h => (by cases h), fun _ => newB_of false true (k := 2029) (ren_cs st g bx to nr me) (fun _ _ => rfl) hM (by simp) (.inl ⟨rfl, rfl⟩) ⟨by decide, by decide⟩ (fun off cap off2 cap2 hl hc1 hl2 hc2 => callsV_perm (runF_calls mix (near_4_100011 st off M.length cap cap2 (cwx fl1 off M) g bx to nr me a b d e q01 q02 q03 q12 q13 q23) ⟨c1 off cap hl hc1, c2 cap2 hl2 hc2, f01, d01, f02, d02, f03, d03, f12, d12, f13, d13, f23, d23, trivial⟩ rfl rfl) look_sw3)⟩
        · cases d13 : decide (q13 < wi (nr * nr))
          · cases d23 : decide (q23 < wi (nr * nr))
            · have ee : nearL (wi (nr * nr)) [(0, 1, q01), (0, 2, q02), (0, 3, q03), (1, 2, q12), (1, 3, q13), (2, 3, q23)] = [(0, 1, q01), (1, 2, q12)] := by simp only [nearL, List.filter, d01, d02, d03, d12, d13, d23]
              rw [ee]
              exact ⟨fun h => (by cases h), fun _ => newB_of false true (k := 2022) (ren_cs st g bx to nr me) (fun _ _ => rfl) hM (by simp) (.inl ⟨rfl, rfl⟩) ⟨by decide, by decide⟩ (fun off cap off2 cap2 hl hc1 hl2 hc2 => callsV_perm (runF_calls mix (near_4_100100 st off M.length cap cap2 (cwx fl1 off M) g bx to nr me a b d e q01 q02 q03 q12 q13 q23) ⟨c1 off cap hl hc1, c2 cap2 hl2 hc2, f01, d01, f02, d02, f03, d03, f12, d12, f13, d13, f23, d23, trivial⟩ rfl rfl) look_sw3)⟩
            · have ee : nearL (wi (nr * nr)) [(0, 1, q01), (0, 2, q02), (0, 3, q03), (1, 2, q12), (1, 3, q13), (2, 3, q23)] = [(0, 1, q01), (1, 2, q12), (2, 3, q23)] := by simp only [nearL, List.filter, d01, d02, d03, d12, d13, d23]
              rw [ee]
              exact ⟨fun h => (by cases h), fun _ => newB_of false true (k := 2029) (ren_cs st g bx to nr me) (fun _ _ => rfl) hM (by simp) (.inl ⟨rfl, rfl⟩) ⟨by decide, by decide⟩ (fun off cap off2 cap2 hl hc1 hl2 hc2 => callsV_perm (runF_calls mix (near_4_100101 st off M.length cap cap2 (cwx fl1 off M) g bx to nr me a b d e q01 q02 q03 q12 q13 q23) ⟨c1 off cap hl hc1, c2 cap2 hl2 hc2, f01, d01, f02, d02, f03, d03, f12, d12, f13, d13, f23, d23, trivial⟩ rfl rfl) look_sw3)⟩
          · cases d23 : decide (q23 < wi (nr * nr))
            · have ee : nearL (wi (nr * nr)) [(0, 1, q01), (0, 2, q02), (0, 3, q03), (1, 2, q12), (1, 3, q13), (2, 3, q23)] = [(0, 1, q01), (1, 2, q12), (1, 3, q13)] := by simp only [nearL, List.filter, d01, d02, d03, d12, d13, d23]
              rw [ee]
              exact ⟨fun h => (by cases h), fun _ => newB_of false true (k := 2026) (ren_cs st g bx to nr me) (fun _ _ => rfl) hM (by simp) (.inl ⟨rfl, rfl⟩) ⟨by decide, by decide⟩ (fun off cap off2 cap2 hl hc1 hl2 hc2 => callsV_perm (runF_calls mix (near_4_100110 st off M.length cap cap2 (cwx fl1 off M) g bx to nr me a b d e q01 q02 q03 q12 q13 q23) ⟨c1 off cap hl hc1, c2 cap2 hl2 hc2, f01, d01, f02, d02, f03, d03, f12, d12, f13, d13, f23, d23, trivial⟩ rfl rfl) look_sw3)⟩
            · have ee : nearL (wi (nr * nr)) [(0, 1, q01), (0, 2, q02), (0, 3, q03), (1, 2, q12), (1, 3, q13), (2, 3, q23)] = [(0, 1, q01), (1, 2, q12), (1, 3, q13), (2, 3, q23)] := by simp only [nearL, List.filter, d01, d02, d03, d12, d13, d23]
              rw [ee]
              exact ⟨fun h => (by cases h), fun _ => newB_of false true (k := 2031) (ren_cs st g bx to nr me) (fun _ _ => rfl) hM (by simp) (.inl ⟨rfl, rfl⟩) ⟨by decide, by decide⟩ (fun off cap off2 cap2 hl hc1 hl2 hc2 => callsV_perm (runF_calls mix (near_4_100111 st off M.length cap cap2 (cwx fl1 off M) g bx to nr me a b d e q01 q02 q03 q12 q13 q23) ⟨c1 off cap hl hc1, c2 cap2 hl2 hc2, f01, d01, f02, d02, f03, d03, f12, d12, f13, d13, f23, d23, trivial⟩ rfl rfl) look_sw3)⟩
      · cases d12 : decide (q12 < wi (nr * nr))
        · cases d13 : decide (q13 < wi (nr * nr))
          · cases d23 : decide (q23 < wi (nr * nr))
            · have ee : nearL (wi (nr * nr)) [(0, 1, q01), (0, 2, q02), (0, 3, q03), (1, 2, q12), (1, 3, q13), (2, 3, q23)] = [(0, 1, q01), (0, 3, q03)] := by simp only [nearL, List.filter, d01, d02, d03, d12, d13, d23]
              rw [ee]
              exact ⟨fun h => (by cases h), fun _ => newB_of false true (k := 2019) (ren_cs st g bx to nr me) (fun _ _ => rfl) hM (by simp) (.inl ⟨rfl, rfl⟩) ⟨by decide, by decide⟩ (fun off cap off2 cap2 hl hc1 hl2 hc2 => callsV_perm (runF_calls mix (near_4_101000 st off M.length cap cap2 (cwx fl1 off M) g bx to nr me a b d e q01 q02 q03 q12 q13 q23) ⟨c1 off cap hl hc1, c2 cap2 hl2 hc2, f01, d01, f02, d02, f03, d03, f12, d12, f13, d13, f23, d23, trivial⟩ rfl rfl) look_sw3)⟩
            · have ee : nearL (wi (nr * nr)) [(0, 1, q01), (0, 2, q02), (0, 3, q03), (1, 2, q12), (1, 3, q13), (2, 3, q23)] = [(0, 1, q01), (0, 3, q03), (2, 3, q23)] := by simp only [nearL, List.filter, d01, d02, d03, d12, d13, d23]
              rw [ee]
              exact ⟨fun h => (by cases h), fun _ => newB_of false true (k := 2029) (ren_cs st g bx to nr me) (fun _ _ => rfl) hM (by simp) (.inl ⟨rfl, rfl⟩) ⟨by decide, by decide⟩ (fun off cap off2 cap2 hl hc1 hl2 hc2 => callsV_perm (runF_calls mix (near_4_101001 st off M.length cap cap2 (cwx fl1 off M) g bx to nr me a b d e q01 q02 q03 q12 q13 q23) ⟨c1 off cap hl hc1, c2 cap2 hl2 hc2, f01, d01, f02, d02, f03, d03, f12, d12, f13, d13, f23, d23, trivial⟩ rfl rfl) look_sw3)⟩
          · cases d23 : decide (q23 < wi (nr * nr))
            · have ee : nearL (wi (nr * nr)) [(0, 1, q01), (0, 2, q02), (0, 3, q03), (1, 2, q12), (1, 3, q13), (2, 3, q23)] = [(0, 1, q01), (0, 3, q03), (1, 3, q13)] := by simp only [nearL, List.filter, d01, d02, d03, d12, d13, d23]
              rw [ee]
              exact ⟨fun h => (by cases h), fun _ => newB_of false true (k := 2026) (ren_cs st g bx to nr me) (fun _ _ => rfl) hM (by simp) (.inl ⟨rfl, rfl⟩) ⟨by decide, by decide⟩ (fun off cap off2 cap2 hl hc1 hl2 hc2 => callsV_perm (runF_calls mix (near_4_101010 st off M.length cap cap2 (cwx fl1 off M) g bx to nr me a b d e q01 q02 q03 q12 q13 q23) ⟨c1 off cap hl hc1, c2 cap2 hl2 hc2, f01, d01, f02, d02, f03, d03, f12, d12, f13, d13, f23, d23, trivial⟩ rfl rfl) look_sw3)⟩
            · have ee : nearL (wi (nr * nr)) [(0, 1, q01), (0, 2, q02), (0, 3, q03), (1, 2, q12), (1, 3, q13), (2, 3, q23)] = [(0, 1, q01), (0, 3, q03), (1, 3, q13), (2, 3, q23)] := by simp only [nearL, List.filter, d01, d02, d03, d12, d13, d23]
              rw [ee]
              exact ⟨fun h => (by cases h), fun _ => newB_of false true (k := 2031) (ren_cs st g bx to nr me) (fun _ _ => rfl) hM (by simp) (.inl ⟨rfl, rfl⟩) ⟨by decide, by decide⟩ (fun off cap off2 cap2 hl hc1 hl2 hc2 => callsV_perm (runF_calls mix (near_4_101011 st off M.length cap cap2 (cwx fl1 off M) g bx to nr me a b d e q01 q02 q03 q12 q13 q23) ⟨c1 off cap hl hc1, c2 cap2 hl2 hc2, f01, d01, f02, d02, f03, d03, f12, d12, f13, d13, f23, d23, trivial⟩ rfl rfl) look_sw3)⟩
        · cases d13 : decide (q13 < wi (nr * nr))
          · cases d23 : decide (q23 < wi (nr * nr))
            · have ee : nearL (wi (nr * nr)) [(0, 1, q01), (0, 2, q02), (0, 3, q03), (1, 2, q12), (1, 3, q13), (2, 3, q23)] = [(0, 1, q01), (0, 3, q03), (1, 2, q12)] := by simp only [nearL, List.filter, d01, d02, d03, d12, d13, d23]
              rw [ee]
              exact ⟨fun h => (by cases h), fun _ => newB_of false true (k := 2024) (ren_cs st g bx to nr me) (fun _ _ => rfl) hM (by simp) (.inl ⟨rfl, rfl⟩) ⟨by decide, by decide⟩ (fun off cap off2 cap2 hl hc1 hl2 hc2 => callsV_perm (runF_calls mix (near_4_101100 st off M.length cap cap2 (cwx fl1 off M) g bx to nr me a b d e q01 q02 q03 q12 q13 q23) ⟨c1 off cap hl hc1, c2 cap2 hl2 hc2, f01, d01, f02, d02, f03, d03, f12, d12, f13, d13, f23, d23, trivial⟩ rfl rfl) look_sw3)⟩
            · have ee : nearL (wi (nr * nr)) [(0, 1, q01), (0, 2, q02), (0, 3, q03), (1, 2, q12), (1, 3, q13), (2, 3, q23)] = [(0, 1, q01), (0, 3, q03), (1, 2, q12), (2, 3, q23)] := by simp only [nearL, List.filter, d01, d02, d03, d12, d13, d23]
              rw [ee]
              exact ⟨fun h => (by cases h), fun _ => newB_of false true (k := 2031) (ren_cs st g bx to nr me) (fun _ _ => rfl) hM (by simp) (.inl ⟨rfl, rfl⟩) ⟨by decide, by decide⟩ (fun off cap off2 cap2 hl hc1 hl2 hc2 => callsV_perm (runF_calls mix (near_4_101101 st off M.length cap cap2 (cwx fl1 off M) g bx to nr me a b d e q01 q02 q03 q12 q13 q23) ⟨c1 off cap hl hc1, c2 cap2 hl2 hc2, f01, d01, f02, d02, f03, d03, f12, d12, f13, d13, f23, d23, trivial⟩ rfl rfl) look_sw3)⟩
          · cases d23 : decide (q23 < wi (nr * nr))
            · have ee : nearL (wi (nr * nr)) [(0, 1, q01), (0, 2, q02), (0, 3, q03), (1, 2, q12), (1, 3, q13), (2, 3, q23)] = [(0, 1, q01), (0, 3, q03), (1, 2, q12), (1, 3, q13)] := by simp only [nearL, List.filter, d01, d02, d03, d12, d13, d23]
              rw [ee]
              exact ⟨fun h => (by cases h), fun _ => newB_of false true (k := 2028) (ren_cs st g bx to nr me) (fun _ _ => rfl) hM (by simp) (.inl ⟨rfl, rfl⟩) ⟨by decide, by decide⟩ (fun off cap off2 cap2 hl hc1 hl2 hc2 => callsV_perm (runF_calls mix (near_4_101110 st off M.length cap cap2 (cwx fl1 off M) g bx to nr me a b d e q01 q02 q03 q12 q13 q23) ⟨c1 off cap hl hc1, c2 cap2 hl2 hc2, f01, d01, f02, d02, f03, d03, f12, d12, f13, d13, f23, d23, trivial⟩ rfl rfl) look_sw3)⟩
            · have ee : nearL (wi (nr * nr)) [(0, 1, q01), (0, 2, q02), (0, 3, q03), (1, 2, q12), (1, 3, q13), (2, 3, q23)] = [(0, 1, q01), (0, 3, q03), (1, 2, q12), (1, 3, q13), (2, 3, q23)] := by simp only [nearL, List.filter, d01, d02, d03, d12, d13, d23]
              rw [ee]
              exact ⟨fun h => (by cases h), fun _ => newB_of false true (k := 2033) (ren_cs st g bx to nr me) (fun _ _ => rfl) hM (by simp) (.inl ⟨rfl, rfl⟩) ⟨by decide, by decide⟩ (fun off cap off2 cap2 hl hc1 hl2 hc2 => callsV_perm (runF_calls mix (near_4_101111 st off M.length cap cap2 (cwx fl1 off M) g bx to nr me a b d e q01 q02 q03 q12 q13 q23) ⟨c1 off cap hl hc1, c2 cap2 hl2 hc2, f01, d01, f02, d02, f03, d03, f12, d12, f13, d13, f23, d23, trivial⟩ rfl rfl) look_sw3)⟩
    · cases d03 : decide (q03 < wi (nr * nr))
      · cases d12 : decide (q12 < wi (nr * nr))
        · cases d13 : decide (q13 < wi (nr * nr))
          · cases d23 : decide (q23 < wi (nr * nr))
            · have ee : nearL (wi (nr * nr)) [(0, 1, q01), (0, 2, q02), (0, 3, q03), (1, 2, q12), (1, 3, q13), (2, 3, q23)] = [(0, 1, q01), (0, 2, q02)] := by simp only [nearL, List.filter, d01, d02, d03, d12, d13, d23]
              rw [ee]
              exact ⟨fun h => (by cases h), fun _ => newB_of false true (k := 2017) (ren_cs st g bx to nr me) (fun _ _ => rfl) hM (by simp) (.inl ⟨rfl, rfl⟩) ⟨by decide, by decide⟩ (fun off cap off2 cap2 hl hc1 hl2 hc2 => callsV_perm (runF_calls mix (near_4_110000 st off M.length cap cap2 (cwx fl1 off M) g bx to nr me a b d e q01 q02 q03 q12 q13 q23) ⟨c1 off cap hl hc1, c2 cap2 hl2 hc2, f01, d01, f02, d02, f03, d03, f12, d12, f13, d13, f23, d23, trivial⟩ rfl rfl) look_sw3)⟩
            · have ee : nearL (wi (nr * nr)) [(0, 1, q01), (0, 2, q02), (0, 3, q03), (1, 2, q12), (1, 3, q13), (2, 3, q23)] = [(0, 1, q01), (0, 2, q02), (2, 3, q23)] := by simp only [nearL, List.filter, d01, d02, d03, d12, d13, d23]
              rw [ee]
              exact ⟨fun h => (by cases h), fun _ => newB_of false true (k := 2029) (ren_cs st g bx to nr me) (fun _ _ => rfl) hM (by simp) (.inl ⟨rfl, rfl⟩) ⟨by decide, by decide⟩ (fun off cap off2 cap2 hl hc1 hl2 hc2 => callsV_perm (runF_calls mix (near_4_110001 st off M.length cap cap2 (cwx fl1 off M) g bx to nr me a b d e q01 q02 q03 q12 q13 q23) ⟨c1 off cap hl hc1, c2 cap2 hl2 hc2, f01, d01, f02, d02, f03, d03, f12, d12, f13, d13, f23, d23, trivial⟩ rfl rfl) look_sw3)⟩
          · cases d23 : decide (q23 < wi (nr * nr))
            · have ee : nearL (wi (nr * nr)) [(0, 1, q01), (0, 2, q02), (0, 3, q03), (1, 2, q12), (1, 3, q13), (2, 3, q23)] = [(0, 1, q01), (0, 2, q02), (1, 3, q13)] := by simp only [nearL, List.filter, d01, d02, d03, d12, d13, d23]
              rw [ee]
              exact ⟨fun h => (by cases h), fun _ => newB_of false true (k := 2026) (ren_cs st g bx to nr me) (fun _ _ => rfl) hM (by simp) (.inl ⟨rfl, rfl⟩) ⟨by decide, by decide⟩ (fun off cap off2 cap2 hl hc1 hl2 hc2 => callsV_perm (runF_calls mix (near_4_110010 st off M.length cap cap2 (cwx fl1 off M) g bx to nr me a b d e q01 q02 q03 q12 q13 q23) ⟨c1 off cap hl hc1, c2 cap2 hl2 hc2, f01, d01, f02, d02, f03, d03, f12, d12, f13, d13, f23, d23, trivial⟩ rfl rfl) look_sw3)⟩
            · have ee : nearL (wi (nr * nr)) [(0, 1, q01), (0, 2, q02), (0, 3, q03), (1, 2, q12), (1, 3, q13), (2, 3, q23)] = [(0, 1, q01), (0, 2, q02), (1, 3, q13), (2, 3, q23)] := by simp only [nearL, List.filter, d01, d02, d03, d12, d13, d23]
              rw [ee]
              exact ⟨fun h => (by cases h), fun _ => newB_of false true (k := 2031) (ren_cs st g bx to nr me) (fun _ _ => rfl) hM (by simp) (.inl ⟨rfl, rfl⟩) ⟨by decide, by decide⟩ (fun off cap off2 cap2 hl hc1 hl2 hc2 => callsV_perm (runF_calls mix (near_4_110011 st off M.length cap cap2 (cwx fl1 off M) g bx to nr me a b d e q01 q02 q03 q12 q13 q23) ⟨c1 off cap hl hc1, c2 cap2 hl2 hc2, f01, d01, f02, d02, f03, d03, f12, d12, f13, d13, f23, d23, trivial⟩ rfl rfl) look_sw3)⟩
        · cases d13 : decide (q13 < wi (nr * nr))
          · cases d23 : decide (q23 < wi (nr * nr))
            · have ee : nearL (wi (nr * nr)) [(0, 1, q01), (0, 2, q02), (0, 3, q03), (1, 2, q12), (1, 3, q13), (2, 3, q23)] = [(0, 1, q01), (0, 2, q02), (1, 2, q12)] := by simp only [nearL, List.filter, d01, d02, d03, d12, d13, d23]
              rw [ee]
              exact ⟨fun h => (by cases h), fun _ => newB_of false true (k := 2024) (ren_cs st g bx to nr me) (fun _ _ => rfl) hM (by simp) (.inl ⟨rfl, rfl⟩) ⟨by decide, by decide⟩ (fun off cap off2 cap2 hl hc1 hl2 hc2 => callsV_perm (runF_calls mix (near_4_110100 st off M.length cap cap2 (cwx fl1 off M) g bx to nr me a b d e q01 q02 q03 q12 q13 q23) ⟨c1 off cap hl hc1, c2 cap2 hl2 hc2, f01, d01, f02, d02, f03, d03, f12, d12, f13, d13, f23, d23, trivial⟩ rfl rfl) look_sw3)⟩
            · have ee : nearL (wi (nr * nr)) [(0, 1, q01), (0, 2, q02), (0, 3, q03), (1, 2, q12), (1, 3, q13), (2, 3, q23)] = [(0, 1, q01), (0, 2, q02), (1, 2, q12), (2, 3, q23)] := by simp only [nearL, List.filter, d01, d02, d03, d12, d13, d23]
              rw [ee]
              exact ⟨fun h => (by cases h), fun _ => newB_of false true (k := 2031) (ren_cs st g bx to nr me) (fun _ _ => rfl) hM (by simp) (.inl ⟨rfl, rfl⟩) ⟨by decide, by decide⟩ (fun off cap off2 cap2 hl hc1 hl2 hc2 => callsV_perm (runF_calls mix (near_4_110101 st off M.length cap cap2 (cwx fl1 off M) g bx to nr me a b d e q01 q02 q03 q12 q13 q23) ⟨c1 off cap hl hc1, c2 cap2 hl2 hc2, f01, d01, f02, d02, f03, d03, f12, d12, f13, d13, f23, d23, trivial⟩ rfl rfl) look_sw3)⟩
          · cases d23 : decide (q23 < wi (nr * nr))
            · have ee : nearL (wi (nr * nr)) [(0, 1, q01), (0, 2, q02), (0, 3, q03), (1, 2, q12), (1, 3, q13), (2, 3, q23)] = [(0, 1, q01), (0, 2, q02), (1, 2, q12), (1, 3, q13)] := by simp only [nearL, List.filter, d01, d02, d03, d12, d13, d23]
              rw [ee]
              exact ⟨fun h => (by cases h), fun _ => newB_of false true (k := 2028) (ren_cs st g bx to nr me) (fun _ _ => rfl) hM (by simp) (.inl ⟨rfl, rfl⟩) ⟨by decide, by decide⟩ (fun off cap off2 cap2 hl hc1 hl2 hc2 => callsV_perm (runF_calls mix (near_4_110110 st off M.length cap cap2 (cwx fl1 off M) g bx to nr me a b d e q01 q02 q03 q12 q13 q23) ⟨c1 off cap hl hc1, c2 cap2 hl2 hc2, f01, d01, f02, d02, f03, d03, f12, d12, f13, d13, f23, d23, trivial⟩ rfl rfl) look_sw3)⟩
            · have ee : nearL (wi (nr * nr)) [(0, 1, q01), (0, 2, q02), (0, 3, q03), (1, 2, q12), (1, 3, q13), (2, 3, q23)] = [(0, 1, q01), (0, 2, q02), (1, 2, q12), (1, 3, q13), (2, 3, q23)] := by simp only [nearL, List.filter, d01, d02, d03, d12, d13, d23]
              rw [ee]
              exact ⟨fun h => (by cases h), fun _ => newB_of false true (k := 2033) (ren_cs st g bx to nr me) (fun _ _ => rfl) hM (by simp) (.inl ⟨rfl, rfl⟩) ⟨by decide, by decide⟩ (fun off cap off2 cap2 hl hc1 hl2 hc2 => callsV_perm (runF_calls mix (near_4_110111 st off M.length cap cap2 (cwx fl1 off M) g bx to nr me a b d e q01 q02 q03 q12 q13 q23) ⟨c1 off cap hl hc1, c2 cap2 hl2 hc2, f01, d01, f02, d02, f03, d03, f12, d12, f13, d13, f23, d23, trivial⟩ rfl rfl) look_sw3)⟩
      · cases d12 : decide (q12 < wi (nr * nr))
        · cases d13 : decide (q13 < wi (nr * nr))
          · cases d23 : decide (q23 < wi (nr * nr))
            · have ee : nearL (wi (nr * nr)) [(0, 1, q01), (0, 2, q02), (0, 3, q03), (1, 2, q12), (1, 3, q13), (2, 3, q23)] = [(0, 1, q01), (0, 2, q02), (0, 3, q03)] := by simp only [nearL, List.filter, d01, d02, d03, d12, d13, d23]
              rw [ee]
              exact ⟨fun h => (by cases h), fun _ => newB_of false true (k := 2021) (ren_cs st g bx to nr me) (fun _ _ => rfl) hM (by simp) (.inl ⟨rfl, rfl⟩) ⟨by decide, by decide⟩ (fun off cap off2 cap2 hl hc1 hl2 hc2 => callsV_perm (runF_calls mix (near_4_111000 st off M.length cap cap2 (cwx fl1 off M) g bx to nr me a b d e q01 q02 q03 q12 q13 q23) ⟨c1 off cap hl hc1, c2 cap2 hl2 hc2, f01, d01, f02, d02, f03, d03, f12, d12, f13, d13, f23, d23, trivial⟩ rfl rfl) look_sw3)⟩
            · have ee : nearL (wi (nr * nr)) [(0, 1, q01), (0, 2, q02), (0, 3, q03), (1, 2, q12), (1, 3, q13), (2, 3, q23)] = [(0, 1, q01), (0, 2, q02), (0, 3, q03), (2, 3, q23)] := by simp only [nearL, List.filter, d01, d02, d03, d12, d13, d23]
              rw [ee]
              exact ⟨fun h => (by cases h), fun _ => newB_of false true (k := 2031) (ren_cs st g bx to nr me) (fun _ _ => rfl) hM (by simp) (.inl ⟨rfl, rfl⟩) ⟨by decide, by decide⟩ (fun off cap off2 cap2 hl hc1 hl2 hc2 => callsV_perm (runF_calls mix (near_4_111001 st off M.length cap cap2 (cwx fl1 off M) g bx to nr me a b d e q01 q02 q03 q12 q13 q23) ⟨c1 off cap hl hc1, c2 cap2 hl2 hc2, f01, d01, f02, d02, f03, d03, f12, d12, f13, d13, f23, d23, trivial⟩ rfl rfl) look_sw3)⟩
          · cases d23 : decide (q23 < wi (nr * nr))
            · have ee : nearL (wi (nr * nr)) [(0, 1, q01), (0, 2, q02), (0, 3, q03), (1, 2, q12), (1, 3, q13), (2, 3, q23)] = [(0, 1, q01), (0, 2, q02), (0, 3, q03), (1, 3, q13)] := by simp only [nearL, List.filter, d01, d02, d03, d12, d13, d23]
              rw [ee]
              exact ⟨fun h => (by cases h), fun _ => newB_of false true (k := 2028) (ren_cs st g bx to nr me) (fun _ _ => rfl) hM (by simp) (.inl ⟨rfl, rfl⟩) ⟨by decide, by decide⟩ (fun off cap off2 cap2 hl hc1 hl2 hc2 => callsV_perm (runF_calls mix (near_4_111010 st off M.length cap cap2 (cwx fl1 off M) g bx to nr me a b d e q01 q02 q03 q12 q13 q23) ⟨c1 off cap hl hc1, c2 cap2 hl2 hc2, f01, d01, f02, d02, f03, d03, f12, d12, f13, d13, f23, d23, trivial⟩ rfl rfl) look_sw3)⟩
            · have ee : nearL (wi (nr * nr)) [(0, 1, q01), (0, 2, q02), (0, 3, q03), (1, 2, q12), (1, 3, q13), (2, 3, q23)] = [(0, 1, q01), (0, 2, q02), (0, 3, q03), (1, 3, q13), (2, 3, q23)] := by simp only [nearL, List.filter, d01, d02, d03, d12, d13, d23]
              rw [ee]
              exact ⟨fun h => (by cases h), fun _ => newB_of false true (k := 2033) (ren_cs st g bx to nr me) (fun _ _ => rfl) hM (by simp) (.inl ⟨rfl, rfl⟩) ⟨by decide, by decide⟩ (fun off cap off2 cap2 hl hc1 hl2 hc2 => callsV_perm (runF_calls mix (near_4_111011 st off M.length cap cap2 (cwx fl1 off M) g bx to nr me a b d e q01 q02 q03 q12 q13 q23) ⟨c1 off cap hl hc1, c2 cap2 hl2 hc2, f01, d01, f02, d02, f03, d03, f12, d12, f13, d13, f23, d23, trivial⟩ rfl rfl) look_sw3)⟩
        · cases d13 : decide (q13 < wi (nr * nr))
          · cases d23 : decide (q23 < wi (nr * nr))
            · have ee : nearL (wi (nr * nr)) [(0, 1, q01), (0, 2, q02), (0, 3, q03), (1, 2, q12), (1, 3, q13), (2, 3, q23)] = [(0, 1, q01), (0, 2, q02), (0, 3, q03), (1, 2, q12)] := by simp only [nearL, List.filter, d01, d02, d03, d12, d13, d23]
              rw [ee]
              exact ⟨fun h => (by cases h), fun _ => newB_of false true (k := 2026) (ren_cs st g bx to nr me) (fun _ _ => rfl) hM (by simp) (.inl ⟨rfl, rfl⟩) ⟨by decide, by decide⟩ (fun off cap off2 cap2 hl hc1 hl2 hc2 => callsV_perm (runF_calls mix (near_4_111100 st off M.length cap cap2 (cwx fl1 off M) g bx to nr me a b d e q01 q02 q03 q12 q13 q23) ⟨c1 off cap hl hc1, c2 cap2 hl2 hc2, f01, d01, f02, d02, f03, d03, f12, d12, f13, d13, f23, d23, trivial⟩ rfl rfl) look_sw3)⟩
            · have ee : nearL (wi (nr * nr)) [(0, 1, q01), (0, 2, q02), (0, 3, q03), (1, 2, q12), (1, 3, q13), (2, 3, q23)] = [(0, 1, q01), (0, 2, q02), (0, 3, q03), (1, 2, q12), (2, 3, q23)] := by simp only [nearL, List.filter, d01, d02, d03, d12, d13, d23]
              rw [ee]
              exact ⟨fun h => (by cases h), fun _ => newB_of false true (k := 2033) (ren_cs st g bx to nr me) (fun _ _ => rfl) hM (by simp) (.inl ⟨rfl, rfl⟩) ⟨by decide, by decide⟩ (fun off cap off2 cap2 hl hc1 hl2 hc2 => callsV_perm (runF_calls mix (near_4_111101 st off M.length cap cap2 (cwx fl1 off M) g bx to nr me a b d e q01 q02 q03 q12 q13 q23) ⟨c1 off cap hl hc1, c2 cap2 hl2 hc2, f01, d01, f02, d02, f03, d03, f12, d12, f13, d13, f23, d23, trivial⟩ rfl rfl) look_sw3)⟩
          · cases d23 : decide (q23 < wi (nr * nr))
            · have ee : nearL (wi (nr * nr)) [(0, 1, q01), (0, 2, q02), (0, 3, q03), (1, 2, q12), (1, 3, q13), (2, 3, q23)] = [(0, 1, q01), (0, 2, q02), (0, 3, q03), (1, 2, q12), (1, 3, q13)] := by simp only [nearL, List.filter, d01, d02, d03, d12, d13, d23]
              rw [ee]
              exact ⟨fun h => (by cases h), fun _ => newB_of false true (k := 2030) (ren_cs st g bx to nr me) (fun _ _ => rfl) hM (by simp) (.inl ⟨rfl, rfl⟩) ⟨by decide, by decide⟩ (fun off cap off2 cap2 hl hc1 hl2 hc2 => callsV_perm (runF_calls mix (near_4_111110 st off M.length cap cap2 (cwx fl1 off M) g bx to nr me a b d e q01 q02 q03 q12 q13 q23) ⟨c1 off cap hl hc1, c2 cap2 hl2 hc2, f01, d01, f02, d02, f03, d03, f12, d12, f13, d13, f23, d23, trivial⟩ rfl rfl) look_sw3)⟩
            · have ee : nearL (wi (nr * nr)) [(0, 1, q01), (0, 2, q02), (0, 3, q03), (1, 2, q12), (1, 3, q13), (2, 3, q23)] = [(0, 1, q01), (0, 2, q02), (0, 3, q03), (1, 2, q12), (1, 3, q13), (2, 3, q23)] := by simp only [nearL, List.filter, d01, d02, d03, d12, d13, d23]
              rw [ee]
              exact ⟨fun h => (by cases h), fun _ => newB_of false true (k := 2035) (ren_cs st g bx to nr me) (fun _ _ => rfl) hM (by simp) (.inl ⟨rfl, rfl⟩) ⟨by decide, by decide⟩ (fun off cap off2 cap2 hl hc1 hl2 hc2 => callsV_perm (runF_calls mix (near_4_111111 st off M.length cap cap2 (cwx fl1 off M) g bx to nr me a b d e q01 q02 q03 q12 q13 q23) ⟨c1 off cap hl hc1, c2 cap2 hl2 hc2, f01, d01, f02, d02, f03, d03, f12, d12, f13, d13, f23, d23, trivial⟩ rfl rfl) look_sw3)⟩
theorem near_c4 (a b d e : Bd) (q01 q02 q03 q12 q13 q23 : Int) (hM : M ≠ []) (hc : chk (whyL M g bx to nr me) = 110) (h : rightV st [a, b, d, e] = true) (f01 : farP a b q01) (f02 : farP a d q02) (f03 : farP a e q03) (f12 : farP b d q12) (f13 : farP b e q13) (f23 : farP d e q23) : SemB KI KB Try.prog 11 (fun s s' => #[cv s g bx to nr me, sv st s']) M [a, b, d, e] sl0 :=
  semB_ww false true hM (by simp) (ren_cs st g bx to nr me) rfl (fun off cap off2 cap2 hl hc1 hl2 hc2 => callsV_perm (runF_calls mix (nearc_4 st off M.length cap cap2 (cwx fl1 off M) g bx to nr me a b d e q01 q02 q03 q12 q13 q23) ⟨sem1_calls (chk_p g bx to nr me 110 M hc) (ren_cv g bx to nr me) rfl (H := [(1, win off (cwx fl1 off M))]) (s := slw 1 off M.length cap) (fun β w hR => ll_win hR rfl hl hc1), right_c h (H := [(2, KB.seen [a, b, d, e])]) (s := slw 2 0 4 cap2) (fun β w hR => lk_seen (K := KB) (L := [a, b, d, e]) (k := 2) hR rfl hl2 hc2), f01, f02, f03, f12, f13, f23, trivial⟩ rfl rfl) look_sw)
end

end Go.Proofs.Ytpllklojcjhjaaa
