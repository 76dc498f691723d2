/- Texts of the seat, joined. -/
import Derived.Test.YtpllklojcjhjaaaZz20
import Derived.Test.YtpllklojcjhjaaaZz22
/- NearOrder, wherever masses and bodies lie. -/
namespace Go.Proofs.Ytpllklojcjhjaaa
open Go Go.RowKit
set_option linter.unusedSimpArgs false
set_option linter.unusedVariables false
set_option maxRecDepth 100000

theorem orb_all (st g bx to nr me : Int) (M : List Int) (L : List Bd)
    (go : M ≠ [] → chk (whyL M g bx to nr me) = 0 → rightV st L = true → SemB KI KB Try.prog 6 (fun s s' => #[cv s g bx to nr me, sv st s']) M L (bb true)) : SemB KI KB Try.prog 6 (fun s s' => #[cv s g bx to nr me, sv st s']) M L (bb true) := by
  have hcs := fun (off cap : Nat) (hl : M.length ≤ cap) (hc' : cap ≤ maxLen) (p : Int) (hp : chk (whyL M g bx to nr me) = p) => sem1_calls (dchk_p g bx to nr me p M hp) (ren_cv g bx to nr me) rfl (H := [(1, win off (cwx fl1 off M))]) (s := slw 1 off M.length cap) (fun β w hR => ll_win hR rfl hl hc')
  have ra := ren_cs st g bx to nr me
  rcases chk_01 (whyL M g bx to nr me) with h0 | h0
  · have hM : M ≠ [] := fun e => nil_not_ok (e ▸ h0)
    cases h : rightV st L
    · refine semB_law false false ra rfl (fun e => absurd e hM) (fun e => absurd e hM) (fun e off cap hl hc => ⟨[], ?_⟩) (fun off cap off' cap' hl hc hl' hc' => ⟨[], ?_⟩)
      · exact runF_calls mix (orb_rn st off M.length cap 0 0 0 (cwx fl1 off M) #[] g bx to nr me) ⟨hcs off cap hl hc 0 h0, rright_nil st, wakes_c, trivial⟩ rfl rfl
      · exact runF_calls mix (orb_rw st off M.length cap off' L.length cap' (cwx fl1 off M) (cwx KB.fl off' L) g bx to nr me) ⟨hcs off cap hl hc 0 h0, rright_c h (H := [(2, KB.win off' L)]) (s := slw 2 off' L.length cap') (fun β w hR => lk_win (K := KB) hR rfl hl' hc'), wakes_c, trivial⟩ rfl rfl
    · exact go hM h0 h
  · refine semB_law false false ra rfl (fun e e' => ?_) (fun e off cap hl hc => ⟨[], ?_⟩) (fun e off cap hl hc => ⟨[], ?_⟩) (fun off cap off' cap' hl hc hl' hc' => ⟨[], ?_⟩)
    · exact runF_pure mix (orb_nn st 0 0 0 0 0 0 #[] #[] g bx to nr me) ⟨chk_nil16 g bx to nr me, wakes_c, trivial⟩ rfl rfl
    · exact runF_calls mix (orb_nw st 0 0 0 off L.length cap #[] (cwx KB.fl off L) g bx to nr me) ⟨chk_nil16 g bx to nr me, wakes_c, trivial⟩ rfl rfl
    · exact runF_calls mix (orb_wn st off M.length cap 0 0 0 (cwx fl1 off M) #[] g bx to nr me) ⟨hcs off cap hl hc 110 h0, wakes_c, trivial⟩ rfl rfl
    · exact runF_calls mix (orb_ww st off M.length cap off' L.length cap' (cwx fl1 off M) (cwx KB.fl off' L) g bx to nr me) ⟨hcs off cap hl hc 110 h0, wakes_c, trivial⟩ rfl rfl
theorem sqd_c (a b : P3) : sqd a b = sqd b a := by
  unfold sqd
  rw [show a.1 - b.1 = -(b.1 - a.1) by omega, show a.2.1 - b.2.1 = -(b.2.1 - a.2.1) by omega, show a.2.2 - b.2.2 = -(b.2.2 - a.2.2) by omega, Int.neg_mul_neg, Int.neg_mul_neg, Int.neg_mul_neg]
def b2n (b : Bool) : Nat := if b then 1 else 0
theorem near_len (z : Int) (p : Pr) (R : List Pr) : (nearL z (p :: R)).length = b2n (decide (p.2.2 < z)) + (nearL z R).length := by
  unfold nearL b2n
  rw [List.filter_cons]
  cases decide (p.2.2 < z)
  · simp
  · simp; omega
theorem leastP_spec : ∀ (r : List Pr) (m : Pr), (∃ p ∈ m :: r, (leastP m r).2.2 = p.2.2) ∧ ∀ p ∈ m :: r, (leastP m r).2.2 ≤ p.2.2
  | [], m => ⟨⟨m, by simp, rfl⟩, fun p hp => by simp at hp; rw [hp]; exact Int.le_refl _⟩
  | x :: r, m => by
    show (∃ p ∈ m :: x :: r, (leastP (bif decide (x.2.2 < m.2.2) then x else m) r).2.2 = p.2.2) ∧ ∀ p ∈ m :: x :: r, (leastP (bif decide (x.2.2 < m.2.2) then x else m) r).2.2 ≤ p.2.2
    by_cases h : x.2.2 < m.2.2
    · rw [decide_eq_true h, cond_true]
      obtain ⟨⟨p, hp, e⟩, h2⟩ := leastP_spec r x
      refine ⟨⟨p, List.mem_cons_of_mem _ hp, e⟩, fun q hq => ?_⟩
      rcases List.mem_cons.1 hq with rfl | hq
      · have := h2 x List.mem_cons_self
        omega
      · exact h2 q hq
    · rw [decide_eq_false h, cond_false]
      obtain ⟨⟨p, hp, e⟩, h2⟩ := leastP_spec r m
      refine ⟨⟨p, ?_, e⟩, fun q hq => ?_⟩
      · rcases List.mem_cons.1 hp with rfl | hp
        · exact List.mem_cons_self
        · exact List.mem_cons_of_mem _ (List.mem_cons_of_mem _ hp)
      · rcases List.mem_cons.1 hq with rfl | hq
        · exact h2 _ List.mem_cons_self
        · rcases List.mem_cons.1 hq with rfl | hq
          · have := h2 m List.mem_cons_self
            omega
          · exact h2 q (List.mem_cons_of_mem _ hq)
theorem least_same {P Q : List Pr} (h : ∀ p ∈ P, ∃ q ∈ Q, q.2.2 = p.2.2) (g : ∀ q ∈ Q, ∃ p ∈ P, p.2.2 = q.2.2) : (leastQ P).1.2.2 = (leastQ Q).1.2.2 ∧ (leastQ P).2 = (leastQ Q).2 := by
  cases P with
  | nil =>
    cases Q with
    | nil => exact ⟨rfl, rfl⟩
    | cons q Q => obtain ⟨p, hp, -⟩ := g q List.mem_cons_self; cases hp
  | cons p P =>
    cases Q with
    | nil => obtain ⟨q, hq, -⟩ := h p List.mem_cons_self; cases hq
    | cons q Q =>
      obtain ⟨⟨x, hx, ex⟩, h1⟩ := leastP_spec P p
      obtain ⟨⟨y, hy, ey⟩, h2⟩ := leastP_spec Q q
      refine ⟨?_, rfl⟩
      show (leastP p P).2.2 = (leastP q Q).2.2
      obtain ⟨x', hx', e'⟩ := h x hx
      obtain ⟨y', hy', f'⟩ := g y hy
      have a1 := h1 y' hy'
      have a2 := h2 x' hx'
      omega
theorem pairs_new {st : Int} {L : List Bd} (h : rightV st L = true) (hR : prsL L ≠ []) : NewA KB Try.prog 10 (fun s => #[sv st s]) L KP (fun s => s) (prsL L) := by
  have := (pairs_s st L).2
  rw [prsV_ok h] at this
  exact this hR
theorem pairs_none {st : Int} {a : Bd} (h : rightV st [a] = true) : SemA KB Try.prog 10 (fun s => #[sv st s]) [a] sl0 := by
  have := (pairs_s st [a]).1
  rw [prsV_ok h] at this
  exact this rfl
theorem least_r {st : Int} {L : List Bd} (h : rightV st L = true) : SemA KB Try.prog 13 (fun s => #[sv st s]) L (tpQ (leastQ (prsL L))) := by
  have := least_s st L
  rwa [prsV_ok h] at this
theorem right_rev {st : Int} {L : List Bd} (h : rightV st L = true) : rightV st L.reverse = true := by
  obtain ⟨h1, h2, h3⟩ := rightV_iff.1 h
  exact rightV_iff.2 ⟨h1, by rw [List.length_reverse]; exact h2, fun b hb => h3 b (List.mem_reverse.1 hb)⟩
section
variable {st g bx to nr me : Int} {M : List Int}
theorem prs_rev1 (a : Bd) : prsL [a] = [] := by
  rfl
theorem ord_1 (a : Bd) (hM : M ≠ []) (hc : chk (whyL M g bx to nr me) = 0) (h : rightV st [a] = true) (off cap cap2 : Nat) (hl : M.length ≤ cap) (hcp : cap ≤ maxLen) (hl2 : 1 ≤ cap2) (hc2 : cap2 ≤ maxLen) :
    CallsV Try.prog (.func 6) #[cv (slw 1 off M.length cap) g bx to nr me, sv st (slw 2 0 1 cap2)] [(1, KI.win off M), (2, KB.seen [a])] (rt (bb true)) [] := by
  have hr : rightV st [a] = true := right_rev h
  have hs2 : ∀ β w, Rel (rng β [(2, KB.seen [a])]) w β [(2, KB.seen [a])] w → LieK KB w (ren β (slw 2 0 1 cap2)) [a] := fun β w hR => lk_seen (K := KB) (L := [a]) (k := 2) hR rfl hl2 hc2
  have hs5 : ∀ β w, Rel (rng β [(5, KB.own [a])]) w β [(5, KB.own [a])] w → LieK KB w (ren β (slw 5 0 1 capU)) [a] := fun β w hR => lk_own (K := KB) (L := [a]) (k := 5) hR rfl
  have hsa : ∀ β w, Rel (rng β [(2, KB.seen [a]), (1, KI.win off M)]) w β [(2, KB.seen [a]), (1, KI.win off M)] w → LieK KI w (ren β (slw 1 off M.length cap)) M ∧ LieK KB w (ren β (slw 2 0 1 cap2)) [a] := fun β w hR => ⟨lk_win (K := KI) (k := 1) hR rfl hl hcp, lk_seen (K := KB) (L := [a]) (k := 2) hR rfl hl2 hc2⟩
  have hsb : ∀ β w, Rel (rng β [(1, KI.win off M), (5, KB.own [a])]) w β [(1, KI.win off M), (5, KB.own [a])] w → LieK KI w (ren β (slw 1 off M.length cap)) M ∧ LieK KB w (ren β (slw 5 0 1 capU)) [a] := fun β w hR => ⟨lk_win (K := KI) (k := 1) hR rfl hl hcp, lk_own (K := KB) (L := [a]) (k := 5) hR rfl⟩
  have w7 := sem1_calls (dchk_p g bx to nr me 0 M hc) (ren_cv g bx to nr me) rfl (H := [(1, KI.win off M)]) (s := slw 1 off M.length cap) (fun β w hR => lk_win (K := KI) (k := 1) hR rfl hl hcp)
  have w8 := rright_c h hs2
  have w18 := newA_calls (down_new st (L := [a]) (by simp) (by simp)) true (ren_sv st) (fun _ _ => rfl) (H := [(2, KB.seen [a])]) (k := 5) rfl hs2
  have n1 := near_ok hM hc h
  have n2 := near_ok hM hc hr
  have l1 := semA_calls (least_r h) (ren_sv st) (tpQ_ok _) hs2
  have l2 := semA_calls (least_r hr) (ren_sv st) (tpQ_ok _) hs5
  have er := prs_rev1 a
  have p1 := semA_calls (pairs_none h) (ren_sv st) rfl hs2
  have p2 := semA_calls (pairs_none hr) (ren_sv st) rfl hs5
  have z1 := semB_calls (n1.1 rfl) (ren_cs st g bx to nr me) rfl hsa
  have z2 := semB_calls (n2.1 rfl) (ren_cs st g bx to nr me) rfl hsb
  exact runF_calls mix (orl_1 st off M.length cap cap2 (cwx fl1 off M) g bx to nr me a (leastQ (prsL [a])).1 (leastQ (prsL [a])).1 (leastQ (prsL [a])).2 (leastQ (prsL [a])).2 [] []) ⟨w7, w8, w18, p1, p2, z1, z2, l1, l2, rfl, rfl, wakes_c, trivial⟩ rfl rfl
theorem prs_rev2 (a b : Bd) : prsL [b, a] = [(0, 1, sqd a.1 b.1)] := by
  simp only [prsL]
  rw [sqd_c b.1 a.1]
theorem ord_2 (a b : Bd) (hM : M ≠ []) (hc : chk (whyL M g bx to nr me) = 0) (h : rightV st [a, b] = true) (off cap cap2 : Nat) (hl : M.length ≤ cap) (hcp : cap ≤ maxLen) (hl2 : 2 ≤ cap2) (hc2 : cap2 ≤ maxLen) :
    CallsV Try.prog (.func 6) #[cv (slw 1 off M.length cap) g bx to nr me, sv st (slw 2 0 2 cap2)] [(1, KI.win off M), (2, KB.seen [a, b])] (rt (bb true)) [] := by
  have hr : rightV st [b, a] = true := right_rev h
  have hs2 : ∀ β w, Rel (rng β [(2, KB.seen [a, b])]) w β [(2, KB.seen [a, b])] w → LieK KB w (ren β (slw 2 0 2 cap2)) [a, b] := fun β w hR => lk_seen (K := KB) (L := [a, b]) (k := 2) hR rfl hl2 hc2
  have hs5 : ∀ β w, Rel (rng β [(5, KB.own [b, a])]) w β [(5, KB.own [b, a])] w → LieK KB w (ren β (slw 5 0 2 capU)) [b, a] := fun β w hR => lk_own (K := KB) (L := [b, a]) (k := 5) hR rfl
  have hsa : ∀ β w, Rel (rng β [(2, KB.seen [a, b]), (1, KI.win off M)]) w β [(2, KB.seen [a, b]), (1, KI.win off M)] w → LieK KI w (ren β (slw 1 off M.length cap)) M ∧ LieK KB w (ren β (slw 2 0 2 cap2)) [a, b] := fun β w hR => ⟨lk_win (K := KI) (k := 1) hR rfl hl hcp, lk_seen (K := KB) (L := [a, b]) (k := 2) hR rfl hl2 hc2⟩
  have hsb : ∀ β w, Rel (rng β [(1, KI.win off M), (5, KB.own [b, a])]) w β [(1, KI.win off M), (5, KB.own [b, a])] w → LieK KI w (ren β (slw 1 off M.length cap)) M ∧ LieK KB w (ren β (slw 5 0 2 capU)) [b, a] := fun β w hR => ⟨lk_win (K := KI) (k := 1) hR rfl hl hcp, lk_own (K := KB) (L := [b, a]) (k := 5) hR rfl⟩
  have w7 := sem1_calls (dchk_p g bx to nr me 0 M hc) (ren_cv g bx to nr me) rfl (H := [(1, KI.win off M)]) (s := slw 1 off M.length cap) (fun β w hR => lk_win (K := KI) (k := 1) hR rfl hl hcp)
  have w8 := rright_c h hs2
  have w18 := newA_calls (down_new st (L := [a, b]) (by simp) (by simp)) true (ren_sv st) (fun _ _ => rfl) (H := [(2, KB.seen [a, b])]) (k := 5) rfl hs2
  have n1 := near_ok hM hc h
  have n2 := near_ok hM hc hr
  have l1 := semA_calls (least_r h) (ren_sv st) (tpQ_ok _) hs2
  have l2 := semA_calls (least_r hr) (ren_sv st) (tpQ_ok _) hs5
  have er := prs_rev2 a b
  have p1 := newA_calls (pairs_new h (by simp [prsL])) true (ren_sv st) (fun _ _ => rfl) (H := [(2, KB.seen [a, b])]) (k := 6) rfl hs2
  have p2 := newA_calls (pairs_new hr (by simp [prsL])) true (ren_sv st) (fun _ _ => rfl) (H := [(5, KB.own [b, a])]) (k := 7) rfl hs5
  have ls := least_same (P := prsL [a, b]) (Q := prsL [b, a]) (by rw [er]; simp [prsL]) (by rw [er]; simp [prsL])
  have e1 := beq_iff_eq.2 ls.1
  have e2 : ((leastQ (prsL [a, b])).2 == (leastQ (prsL [b, a])).2) = true := beq_iff_eq.2 ls.2
  have hlen : (nearL (wi (nr * nr)) (prsL [a, b])).length = (nearL (wi (nr * nr)) (prsL [b, a])).length := by
    rw [er]
    simp only [prsL, near_len]
    try omega
  rw [er] at p2
  by_cases e0 : nearL (wi (nr * nr)) (prsL [a, b]) = []
  · have e0' : nearL (wi (nr * nr)) (prsL [b, a]) = [] := List.length_eq_zero_iff.1 (by rw [← hlen, e0]; rfl)
    have z1 := semB_calls (n1.1 e0) (ren_cs st g bx to nr me) rfl hsa
    have z2 := semB_calls (n2.1 e0') (ren_cs st g bx to nr me) rfl hsb
    exact runF_calls mix (orl_2 st off M.length cap cap2 (cwx fl1 off M) g bx to nr me a b (leastQ (prsL [a, b])).1 (leastQ (prsL [b, a])).1 (leastQ (prsL [a, b])).2 (leastQ (prsL [b, a])).2 [] [] (sqd a.1 b.1)) ⟨w7, w8, w18, p1, p2, z1, z2, by simp, l1, l2, e1, e2, wakes_c, trivial⟩ rfl rfl
  · have e0' : nearL (wi (nr * nr)) (prsL [b, a]) ≠ [] := fun e => e0 (List.length_eq_zero_iff.1 (by rw [hlen, e]; rfl))
    have z1 := newB_calls (n1.2 e0) false (ren_cs st g bx to nr me) (fun _ _ => rfl) (H := [(2, KB.seen [a, b]), (1, KI.win off M)]) (k := 8) rfl hsa
    have z2 := newB_calls (n2.2 e0') false (ren_cs st g bx to nr me) (fun _ _ => rfl) (H := [(1, KI.win off M), (5, KB.own [b, a])]) (k := 9) rfl hsb
    have hl3 : (((nearL (wi (nr * nr)) (prsL [a, b])).length : Int) != ((nearL (wi (nr * nr)) (prsL [b, a])).length : Int)) = false := by rw [hlen]; exact bne_self_eq_false _
    exact runF_calls mix (orl_2b st off M.length cap cap2 (cwx fl1 off M) g bx to nr me a b (leastQ (prsL [a, b])).1 (leastQ (prsL [b, a])).1 (leastQ (prsL [a, b])).2 (leastQ (prsL [b, a])).2 (nearL (wi (nr * nr)) (prsL [a, b])) (nearL (wi (nr * nr)) (prsL [b, a])) (sqd a.1 b.1)) ⟨w7, w8, w18, p1, p2, z1, z2, hl3, by simp, l1, l2, e1, e2, wakes_c, trivial⟩ rfl rfl
theorem prs_rev3 (a b d : Bd) : prsL [d, b, a] = [(0, 1, sqd b.1 d.1), (0, 2, sqd a.1 d.1), (1, 2, sqd a.1 b.1)] := by
  simp only [prsL]
  rw [sqd_c d.1 b.1, sqd_c d.1 a.1, sqd_c b.1 a.1]
theorem ord_3 (a b d : Bd) (hM : M ≠ []) (hc : chk (whyL M g bx to nr me) = 0) (h : rightV st [a, b, d] = true) (off cap cap2 : Nat) (hl : M.length ≤ cap) (hcp : cap ≤ maxLen) (hl2 : 3 ≤ cap2) (hc2 : cap2 ≤ maxLen) :
    CallsV Try.prog (.func 6) #[cv (slw 1 off M.length cap) g bx to nr me, sv st (slw 2 0 3 cap2)] [(1, KI.win off M), (2, KB.seen [a, b, d])] (rt (bb true)) [] := by
  have hr : rightV st [d, b, a] = true := right_rev h
  have hs2 : ∀ β w, Rel (rng β [(2, KB.seen [a, b, d])]) w β [(2, KB.seen [a, b, d])] w → LieK KB w (ren β (slw 2 0 3 cap2)) [a, b, d] := fun β w hR => lk_seen (K := KB) (L := [a, b, d]) (k := 2) hR rfl hl2 hc2
  have hs5 : ∀ β w, Rel (rng β [(5, KB.own [d, b, a])]) w β [(5, KB.own [d, b, a])] w → LieK KB w (ren β (slw 5 0 3 capU)) [d, b, a] := fun β w hR => lk_own (K := KB) (L := [d, b, a]) (k := 5) hR rfl
  have hsa : ∀ β w, Rel (rng β [(2, KB.seen [a, b, d]), (1, KI.win off M)]) w β [(2, KB.seen [a, b, d]), (1, KI.win off M)] w → LieK KI w (ren β (slw 1 off M.length cap)) M ∧ LieK KB w (ren β (slw 2 0 3 cap2)) [a, b, d] := fun β w hR => ⟨lk_win (K := KI) (k := 1) hR rfl hl hcp, lk_seen (K := KB) (L := [a, b, d]) (k := 2) hR rfl hl2 hc2⟩
  have hsb : ∀ β w, Rel (rng β [(1, KI.win off M), (5, KB.own [d, b, a])]) w β [(1, KI.win off M), (5, KB.own [d, b, a])] w → LieK KI w (ren β (slw 1 off M.length cap)) M ∧ LieK KB w (ren β (slw 5 0 3 capU)) [d, b, a] := fun β w hR => ⟨lk_win (K := KI) (k := 1) hR rfl hl hcp, lk_own (K := KB) (L := [d, b, a]) (k := 5) hR rfl⟩
  have w7 := sem1_calls (dchk_p g bx to nr me 0 M hc) (ren_cv g bx to nr me) rfl (H := [(1, KI.win off M)]) (s := slw 1 off M.length cap) (fun β w hR => lk_win (K := KI) (k := 1) hR rfl hl hcp)
  have w8 := rright_c h hs2
  have w18 := newA_calls (down_new st (L := [a, b, d]) (by simp) (by simp)) true (ren_sv st) (fun _ _ => rfl) (H := [(2, KB.seen [a, b, d])]) (k := 5) rfl hs2
  have n1 := near_ok hM hc h
  have n2 := near_ok hM hc hr
  have l1 := semA_calls (least_r h) (ren_sv st) (tpQ_ok _) hs2
  have l2 := semA_calls (least_r hr) (ren_sv st) (tpQ_ok _) hs5
  have er := prs_rev3 a b d
  have p1 := newA_calls (pairs_new h (by simp [prsL])) true (ren_sv st) (fun _ _ => rfl) (H := [(2, KB.seen [a, b, d])]) (k := 6) rfl hs2
  have p2 := newA_calls (pairs_new hr (by simp [prsL])) true (ren_sv st) (fun _ _ => rfl) (H := [(5, KB.own [d, b, a])]) (k := 7) rfl hs5
  have ls := least_same (P := prsL [a, b, d]) (Q := prsL [d, b, a]) (by rw [er]; simp [prsL]) (by rw [er]; simp [prsL])
  have e1 := beq_iff_eq.2 ls.1
  have e2 : ((leastQ (prsL [a, b, d])).2 == (leastQ (prsL [d, b, a])).2) = true := beq_iff_eq.2 ls.2
  have hlen : (nearL (wi (nr * nr)) (prsL [a, b, d])).length = (nearL (wi (nr * nr)) (prsL [d, b, a])).length := by
    rw [er]
    simp only [prsL, near_len]
    try omega
  rw [er] at p2
  by_cases e0 : nearL (wi (nr * nr)) (prsL [a, b, d]) = []
  · have e0' : nearL (wi (nr * nr)) (prsL [d, b, a]) = [] := List.length_eq_zero_iff.1 (by rw [← hlen, e0]; rfl)
    have z1 := semB_calls (n1.1 e0) (ren_cs st g bx to nr me) rfl hsa
    have z2 := semB_calls (n2.1 e0') (ren_cs st g bx to nr me) rfl hsb
    exact runF_calls mix (orl_3 st off M.length cap cap2 (cwx fl1 off M) g bx to nr me a b d (leastQ (prsL [a, b, d])).1 (leastQ (prsL [d, b, a])).1 (leastQ (prsL [a, b, d])).2 (leastQ (prsL [d, b, a])).2 [] [] (sqd a.1 b.1) (sqd a.1 d.1) (sqd b.1 d.1)) ⟨w7, w8, w18, p1, p2, z1, z2, by simp, by simp, by simp, l1, l2, e1, e2, wakes_c, trivial⟩ rfl rfl
  · have e0' : nearL (wi (nr * nr)) (prsL [d, b, a]) ≠ [] := fun e => e0 (List.length_eq_zero_iff.1 (by rw [hlen, e]; rfl))
    have z1 := newB_calls (n1.2 e0) false (ren_cs st g bx to nr me) (fun _ _ => rfl) (H := [(2, KB.seen [a, b, d]), (1, KI.win off M)]) (k := 8) rfl hsa
    have z2 := newB_calls (n2.2 e0') false (ren_cs st g bx to nr me) (fun _ _ => rfl) (H := [(1, KI.win off M), (5, KB.own [d, b, a])]) (k := 9) rfl hsb
    have hl3 : (((nearL (wi (nr * nr)) (prsL [a, b, d])).length : Int) != ((nearL (wi (nr * nr)) (prsL [d, b, a])).length : Int)) = false := by rw [hlen]; exact bne_self_eq_false _
    exact runF_calls mix (orl_3b st off M.length cap cap2 (cwx fl1 off M) g bx to nr me a b d (leastQ (prsL [a, b, d])).1 (leastQ (prsL [d, b, a])).1 (leastQ (prsL [a, b, d])).2 (leastQ (prsL [d, b, a])).2 (nearL (wi (nr * nr)) (prsL [a, b, d])) (nearL (wi (nr * nr)) (prsL [d, b, a])) (sqd a.1 b.1) (sqd a.1 d.1) (sqd b.1 d.1)) ⟨w7, w8, w18, p1, p2, z1, z2, hl3, by simp, by simp, by simp, l1, l2, e1, e2, wakes_c, trivial⟩ rfl rfl
theorem prs_rev4 (a b d e : Bd) : prsL [e, d, b, a] = [(0, 1, sqd d.1 e.1), (0, 2, sqd b.1 e.1), (0, 3, sqd a.1 e.1), (1, 2, sqd b.1 d.1), (1, 3, sqd a.1 d.1), (2, 3, sqd a.1 b.1)] := by
  simp only [prsL]
  rw [sqd_c e.1 d.1, sqd_c e.1 b.1, sqd_c e.1 a.1, sqd_c d.1 b.1, sqd_c d.1 a.1, sqd_c b.1 a.1]
theorem ord_4 (a b d e : Bd) (hM : M ≠ []) (hc : chk (whyL M g bx to nr me) = 0) (h : rightV st [a, b, d, e] = true) (off cap cap2 : Nat) (hl : M.length ≤ cap) (hcp : cap ≤ maxLen) (hl2 : 4 ≤ cap2) (hc2 : cap2 ≤ maxLen) :
    CallsV Try.prog (.func 6) #[cv (slw 1 off M.length cap) g bx to nr me, sv st (slw 2 0 4 cap2)] [(1, KI.win off M), (2, KB.seen [a, b, d, e])] (rt (bb true)) [] := by
  have hr : rightV st [e, d, b, a] = true := right_rev h
  have hs2 : ∀ β w, Rel (rng β [(2, KB.seen [a, b, d, e])]) w β [(2, KB.seen [a, b, d, e])] w → LieK KB w (ren β (slw 2 0 4 cap2)) [a, b, d, e] := fun β w hR => lk_seen (K := KB) (L := [a, b, d, e]) (k := 2) hR rfl hl2 hc2
  have hs5 : ∀ β w, Rel (rng β [(5, KB.own [e, d, b, a])]) w β [(5, KB.own [e, d, b, a])] w → LieK KB w (ren β (slw 5 0 4 capU)) [e, d, b, a] := fun β w hR => lk_own (K := KB) (L := [e, d, b, a]) (k := 5) hR rfl
  have hsa : ∀ β w, Rel (rng β [(2, KB.seen [a, b, d, e]), (1, KI.win off M)]) w β [(2, KB.seen [a, b, d, e]), (1, KI.win off M)] w → LieK KI w (ren β (slw 1 off M.length cap)) M ∧ LieK KB w (ren β (slw 2 0 4 cap2)) [a, b, d, e] := fun β w hR => ⟨lk_win (K := KI) (k := 1) hR rfl hl hcp, lk_seen (K := KB) (L := [a, b, d, e]) (k := 2) hR rfl hl2 hc2⟩
  have hsb : ∀ β w, Rel (rng β [(1, KI.win off M), (5, KB.own [e, d, b, a])]) w β [(1, KI.win off M), (5, KB.own [e, d, b, a])] w → LieK KI w (ren β (slw 1 off M.length cap)) M ∧ LieK KB w (ren β (slw 5 0 4 capU)) [e, d, b, a] := fun β w hR => ⟨lk_win (K := KI) (k := 1) hR rfl hl hcp, lk_own (K := KB) (L := [e, d, b, a]) (k := 5) hR rfl⟩
  have w7 := sem1_calls (dchk_p g bx to nr me 0 M hc) (ren_cv g bx to nr me) rfl (H := [(1, KI.win off M)]) (s := slw 1 off M.length cap) (fun β w hR => lk_win (K := KI) (k := 1) hR rfl hl hcp)
  have w8 := rright_c h hs2
  have w18 := newA_calls (down_new st (L := [a, b, d, e]) (by simp) (by simp)) true (ren_sv st) (fun _ _ => rfl) (H := [(2, KB.seen [a, b, d, e])]) (k := 5) rfl hs2
  have n1 := near_ok hM hc h
  have n2 := near_ok hM hc hr
  have l1 := semA_calls (least_r h) (ren_sv st) (tpQ_ok _) hs2
  have l2 := semA_calls (least_r hr) (ren_sv st) (tpQ_ok _) hs5
  have er := prs_rev4 a b d e
  have p1 := newA_calls (pairs_new h (by simp [prsL])) true (ren_sv st) (fun _ _ => rfl) (H := [(2, KB.seen [a, b, d, e])]) (k := 6) rfl hs2
  have p2 := newA_calls (pairs_new hr (by simp [prsL])) true (ren_sv st) (fun _ _ => rfl) (H := [(5, KB.own [e, d, b, a])]) (k := 7) rfl hs5
  have ls := least_same (P := prsL [a, b, d, e]) (Q := prsL [e, d, b, a]) (by rw [er]; simp [prsL]) (by rw [er]; simp [prsL])
  have e1 := beq_iff_eq.2 ls.1
  have e2 : ((leastQ (prsL [a, b, d, e])).2 == (leastQ (prsL [e, d, b, a])).2) = true := beq_iff_eq.2 ls.2
  have hlen : (nearL (wi (nr * nr)) (prsL [a, b, d, e])).length = (nearL (wi (nr * nr)) (prsL [e, d, b, a])).length := by
    rw [er]
    simp only [prsL, near_len]
    try omega
  rw [er] at p2
  by_cases e0 : nearL (wi (nr * nr)) (prsL [a, b, d, e]) = []
  · have e0' : nearL (wi (nr * nr)) (prsL [e, d, b, a]) = [] := List.length_eq_zero_iff.1 (by rw [← hlen, e0]; rfl)
    have z1 := semB_calls (n1.1 e0) (ren_cs st g bx to nr me) rfl hsa
    have z2 := semB_calls (n2.1 e0') (ren_cs st g bx to nr me) rfl hsb
    exact runF_calls mix (orl_4 st off M.length cap cap2 (cwx fl1 off M) g bx to nr me a b d e (leastQ (prsL [a, b, d, e])).1 (leastQ (prsL [e, d, b, a])).1 (leastQ (prsL [a, b, d, e])).2 (leastQ (prsL [e, d, b, a])).2 [] [] (sqd a.1 b.1) (sqd a.1 d.1) (sqd a.1 e.1) (sqd b.1 d.1) (sqd b.1 e.1) (sqd d.1 e.1)) ⟨w7, w8, w18, p1, p2, z1, z2, by simp, by simp, by simp, by simp, by simp, by simp, l1, l2, e1, e2, wakes_c, trivial⟩ rfl rfl
  · have e0' : nearL (wi (nr * nr)) (prsL [e, d, b, a]) ≠ [] := fun e => e0 (List.length_eq_zero_iff.1 (by rw [hlen, e]; rfl))
    have z1 := newB_calls (n1.2 e0) false (ren_cs st g bx to nr me) (fun _ _ => rfl) (H := [(2, KB.seen [a, b, d, e]), (1, KI.win off M)]) (k := 8) rfl hsa
    have z2 := newB_calls (n2.2 e0') false (ren_cs st g bx to nr me) (fun _ _ => rfl) (H := [(1, KI.win off M), (5, KB.own [e, d, b, a])]) (k := 9) rfl hsb
    have hl3 : (((nearL (wi (nr * nr)) (prsL [a, b, d, e])).length : Int) != ((nearL (wi (nr * nr)) (prsL [e, d, b, a])).length : Int)) = false := by rw [hlen]; exact bne_self_eq_false _
    exact runF_calls mix (orl_4b st off M.length cap cap2 (cwx fl1 off M) g bx to nr me a b d e (leastQ (prsL [a, b, d, e])).1 (leastQ (prsL [e, d, b, a])).1 (leastQ (prsL [a, b, d, e])).2 (leastQ (prsL [e, d, b, a])).2 (nearL (wi (nr * nr)) (prsL [a, b, d, e])) (nearL (wi (nr * nr)) (prsL [e, d, b, a])) (sqd a.1 b.1) (sqd a.1 d.1) (sqd a.1 e.1) (sqd b.1 d.1) (sqd b.1 e.1) (sqd d.1 e.1)) ⟨w7, w8, w18, p1, p2, z1, z2, hl3, by simp, by simp, by simp, by simp, by simp, by simp, l1, l2, e1, e2, wakes_c, trivial⟩ rfl rfl
theorem law6 (L : List Bd) : SemB KI KB Try.prog 6 (fun s s' => #[cv s g bx to nr me, sv st s']) M L (bb true) := by
  refine orb_all st g bx to nr me M L (fun hM hc h => ?_)
  have hL : L ≠ [] := fun e => by rw [e, right_0] at h; cases h
  obtain ⟨-, ⟨h1, h4⟩, -⟩ := rightV_iff.1 h
  refine semB_law false true (ren_cs st g bx to nr me) rfl (fun e _ => absurd e hM) (fun e => absurd e hM) (fun e => absurd e hL) (fun off cap off' cap' hl hcp hl' hc' => ⟨[], ?_⟩)
  rcases shapes h1 h4 with ⟨a, rfl⟩ | ⟨a, b, rfl⟩ | ⟨a, b, d, rfl⟩ | ⟨a, b, d, e, rfl⟩
  · exact ord_1 a hM hc h off cap cap' hl hcp hl' hc'
  · exact ord_2 a b hM hc h off cap cap' hl hcp hl' hc'
  · exact ord_3 a b d hM hc h off cap cap' hl hcp hl' hc'
  · exact ord_4 a b d e hM hc h off cap cap' hl hcp hl' hc'
end

end Go.Proofs.Ytpllklojcjhjaaa
