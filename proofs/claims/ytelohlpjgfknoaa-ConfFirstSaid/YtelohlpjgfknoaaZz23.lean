/- Texts of the seat, joined. -/
import Derived.Test.YtelohlpjgfknoaaZz12
import Derived.Test.YtelohlpjgfknoaaZz22
import Derived.Test.YtelohlpjgfknoaaZz19
/- ConfFirst, wherever its masses lie. -/
namespace Go.Proofs.Ytelohlpjgfknoaa
open Go Go.RowKit
set_option linter.unusedSimpArgs false
set_option linter.unusedVariables false
set_option maxRecDepth 100000

theorem inZ_n {x lo hi : Int} (h : ¬ (lo ≤ x ∧ x ≤ hi)) : inZ x lo hi = false := by
  cases e : inZ x lo hi
  · rfl
  · exact absurd (inZ_iff.1 e) h
theorem len_i {L : List Int} (h : 1 ≤ L.length ∧ L.length ≤ 4) : inZ (L.length : Int) 1 4 = true := inZ_iff.2 (by omega)
theorem own25_s (g b t' q m : Int) {L : List Int} (h : 1 ≤ L.length ∧ L.length ≤ 4) : New1 Try.prog 25 (fun s => #[cv s g b t' q m]) L (fun s => cv s g b t' q m) L := by
  match L, h with
  | [a1], _ => exact new1_of (k := 2001) (cc := capU) (ren_cv g b t' q m) (fun _ _ => rfl) (by simp) (.inl ⟨rfl, rfl⟩) (by decide) (fun cap hl hc => runF_calls mix (own25_1_2001 cap a1 g b t' q m) trivial rfl rfl)
  | [a1, a2], _ => exact new1_of (k := 2001) (cc := capU) (ren_cv g b t' q m) (fun _ _ => rfl) (by simp) (.inl ⟨rfl, rfl⟩) (by decide) (fun cap hl hc => runF_calls mix (own25_2_2001 cap a1 a2 g b t' q m) trivial rfl rfl)
  | [a1, a2, a3], _ => exact new1_of (k := 2001) (cc := capU) (ren_cv g b t' q m) (fun _ _ => rfl) (by simp) (.inl ⟨rfl, rfl⟩) (by decide) (fun cap hl hc => runF_calls mix (own25_3_2001 cap a1 a2 a3 g b t' q m) trivial rfl rfl)
  | [a1, a2, a3, a4], _ => exact new1_of (k := 2001) (cc := capU) (ren_cv g b t' q m) (fun _ _ => rfl) (by simp) (.inl ⟨rfl, rfl⟩) (by decide) (fun cap hl hc => runF_calls mix (own25_4_2001 cap a1 a2 a3 a4 g b t' q m) trivial rfl rfl)
  | [], h => exact absurd h.1 (by decide)
  | _ :: _ :: _ :: _ :: _ :: r, h => exact absurd h.2 (by simp)
/-- What holds ahead of a round: the laws that are not touched yet, and the name of the first that is not so. -/
structure I6 (k : Nat) (L : List Int) (g b t' q m : Int) (s : List UInt8) : Prop where
  why : whyL L g b t' q m = s
  len : k ≤ 6 → 1 ≤ L.length ∧ L.length ≤ 4
  lig : k ≤ 5 → lightL L = true
  cg : k ≤ 4 → inZ g 1 1048576 = true
  cb : k ≤ 3 → inZ b 1 1048576 = true
  ct : k ≤ 2 → inZ t' 1 65536 = true
  cq : k ≤ 1 → inZ q 1 (wi (2 * b)) = true
theorem I6.up {k : Nat} {L : List Int} {g b t' q m : Int} {s : List UInt8} (h : I6 k L g b t' q m s) : I6 (k + 1) L g b t' q m s :=
  ⟨h.why, fun e => h.len (by omega), fun e => h.lig (by omega), fun e => h.cg (by omega), fun e => h.cb (by omega), fun e => h.ct (by omega), fun e => h.cq (by omega)⟩
/-- What is so at the loop's end. -/
def Fin (n : Nat) (d : Obj) (A : Array Value) (s : List UInt8) : Prop :=
  (∃ (L : List Int) (g b t' q m : Int), d = cfO (slw 2001 0 n capU) g b t' q m ∧ A = ⟨L.flatMap fl1⟩ ∧ L.length = n ∧ whyL L g b t' q m = s) ∨ (∃ g b t' q m : Int, d = cfO sl0 g b t' q m ∧ s = nBodies)
def Reach (C : Value) (y : Int) (ob w : Obj) (n : Nat) (i : Int) (s : List UInt8) (d : Obj) (A : Array Value) (X : Nat → Value) : Prop :=
  ∃ r s' d' A' Y, LoopN Try.prog L6 r (FS C y s i X) [] (HR ob w d A) (.exit 0) (FS C y s' 7 Y) [] (HR ob w d' A') ∧ Fin n d' A' s'
theorem Reach.round {C : Value} {y : Int} {ob w : Obj} {n : Nat} {i i' : Int} {s s1 : List UInt8} {d d1 : Obj} {A A1 : Array Value} {X X1 : Nat → Value}
    (h : StepV Try.prog L6 (FS C y s i X) [] (HR ob w d A) .normal (FS C y s1 i' X1) [] (HR ob w d1 A1)) (g : Reach C y ob w n i' s1 d1 A1 X1) : Reach C y ob w n i s d A X := by
  obtain ⟨r, s', d', A', Y, hl, hF⟩ := g
  exact ⟨r + 1, s', d', A', Y, LoopN.round h hl, hF⟩
section
variable {C : Value} {y : Int} {ob w : Obj} {n : Nat} {s : List UInt8} {g b t' q m : Int} {L : List Int}
theorem g6_7 {d : Obj} {A : Array Value} (X : Nat → Value) (hF : Fin n d A s) : Reach C y ob w n 7 s d A X := by
  obtain ⟨Y, h⟩ := x6 A y s X C ob w d
  exact ⟨1, s, d, A, Y, LoopN.last (runLS_step mix h trivial), hF⟩
theorem g6_6 (X : Nat → Value) (hn : L.length = n) (h : I6 6 L g b t' q m s) : Reach C y ob w n 6 s (cfO (slw 2001 0 n capU) g b t' q m) ⟨L.flatMap fl1⟩ X := by
  cases hb : bitT 6 y
  · obtain ⟨Y, hY⟩ := t6_6 ⟨L.flatMap fl1⟩ g b t' q m y s X C (slw 2001 0 n capU) ob w
    exact Reach.round (runLS_step mix hY ⟨hb, trivial⟩) (g6_7 Y (.inr ⟨g, b, t', q, m, rfl, rfl⟩))
  · obtain ⟨Y, hY⟩ := s6_6 ⟨L.flatMap fl1⟩ y s X C ob w (cfO (slw 2001 0 n capU) g b t' q m)
    exact Reach.round (runLS_step mix hY ⟨hb, trivial⟩) (g6_7 Y (.inl ⟨L, g, b, t', q, m, rfl, rfl, hn, h.why⟩))
theorem g6_5 (X : Nat → Value) (hn : L.length = n) (h : I6 5 L g b t' q m s) : Reach C y ob w n 5 s (cfO (slw 2001 0 n capU) g b t' q m) ⟨L.flatMap fl1⟩ X := by
  cases hb : bitT 5 y
  · match L, hn, h with
    | [], _, h => exact absurd (h.len (by decide)).1 (by decide)
    | x :: r, hn, h =>
      obtain ⟨Y, hY⟩ := t6_5 n ⟨(x :: r).flatMap fl1⟩ g b t' q m y s X C ob w
      have st := runLS_step mix hY ⟨hb, ⟨by decide, by rw [← hn, List.length_cons]; omega⟩, by show 0 + 1 ≤ ((x :: r).flatMap fl1).length; rw [fl1_len, List.length_cons]; omega, trivial⟩
      have hA : setC ⟨(x :: r).flatMap fl1⟩ 0 [ii 0] = ⟨((0 : Int) :: r).flatMap fl1⟩ := by
        apply Array.ext'
        simp [setC, fl1]
      rw [hA] at st
      have st' := st.perm (G := HR ob w (cfO (slw 2001 0 n capU) g b t' q m) ⟨((0 : Int) :: r).flatMap fl1⟩) (fun i => by
        simp only [look]
        by_cases e1 : 5002 = i
        · subst e1; simp
        · by_cases e2 : 2001 = i
          · subst e2; simp
          · simp [e1, e2])
      refine Reach.round st' (g6_6 (L := (0 : Int) :: r) Y (by rw [← hn]; rfl) ⟨?_, fun _ => h.len (by decide), fun e => absurd e (by decide), fun e => absurd e (by decide), fun e => absurd e (by decide), fun e => absurd e (by decide), fun e => absurd e (by decide)⟩)
      have hl : inZ ((((0 : Int) :: r).length : Nat) : Int) 1 4 = true := len_i (h.len (by decide))
      have h0 : lightL ((0 : Int) :: r) = false := by simp [lightL, inZ]
      simp only [whyL, hl, h0, Bool.true_eq_false, if_false, if_true, reduceIte]
  · obtain ⟨Y, hY⟩ := s6_5 ⟨L.flatMap fl1⟩ y s X C ob w (cfO (slw 2001 0 n capU) g b t' q m)
    exact Reach.round (runLS_step mix hY ⟨hb, trivial⟩) (g6_6 Y hn h.up)
theorem g6_4 (X : Nat → Value) (hn : L.length = n) (h : I6 4 L g b t' q m s) : Reach C y ob w n 4 s (cfO (slw 2001 0 n capU) g b t' q m) ⟨L.flatMap fl1⟩ X := by
  cases hb : bitT 4 y
  · obtain ⟨Y, hY⟩ := t6_4 ⟨L.flatMap fl1⟩ g b t' q m y s X C (slw 2001 0 n capU) ob w
    refine Reach.round (runLS_step mix hY ⟨hb, trivial⟩) (g6_5 Y hn ⟨?_, fun _ => h.len (by decide), fun e => h.lig (by decide), fun e => absurd e (by decide), fun e => absurd e (by decide), fun e => absurd e (by decide), fun e => absurd e (by decide)⟩)
    simp only [whyL, len_i (h.len (by decide)), h.lig (by decide), (show inZ 0 1 1048576 = false from rfl), Bool.true_eq_false, if_false, if_true, reduceIte]
  · obtain ⟨Y, hY⟩ := s6_4 ⟨L.flatMap fl1⟩ y s X C ob w (cfO (slw 2001 0 n capU) g b t' q m)
    exact Reach.round (runLS_step mix hY ⟨hb, trivial⟩) (g6_5 Y hn h.up)
theorem g6_3 (X : Nat → Value) (hn : L.length = n) (h : I6 3 L g b t' q m s) : Reach C y ob w n 3 s (cfO (slw 2001 0 n capU) g b t' q m) ⟨L.flatMap fl1⟩ X := by
  cases hb : bitT 3 y
  · obtain ⟨Y, hY⟩ := t6_3 ⟨L.flatMap fl1⟩ g b t' q m y s X C (slw 2001 0 n capU) ob w
    refine Reach.round (runLS_step mix hY ⟨hb, trivial⟩) (g6_4 Y hn ⟨?_, fun _ => h.len (by decide), fun e => h.lig (by decide), fun e => h.cg (by omega), fun e => absurd e (by decide), fun e => absurd e (by decide), fun e => absurd e (by decide)⟩)
    simp only [whyL, len_i (h.len (by decide)), h.lig (by decide), h.cg (by decide), (show inZ 1048577 1 1048576 = false from rfl), Bool.true_eq_false, if_false, if_true, reduceIte]
  · obtain ⟨Y, hY⟩ := s6_3 ⟨L.flatMap fl1⟩ y s X C ob w (cfO (slw 2001 0 n capU) g b t' q m)
    exact Reach.round (runLS_step mix hY ⟨hb, trivial⟩) (g6_4 Y hn h.up)
theorem g6_2 (X : Nat → Value) (hn : L.length = n) (h : I6 2 L g b t' q m s) : Reach C y ob w n 2 s (cfO (slw 2001 0 n capU) g b t' q m) ⟨L.flatMap fl1⟩ X := by
  cases hb : bitT 2 y
  · obtain ⟨Y, hY⟩ := t6_2 ⟨L.flatMap fl1⟩ g b t' q m y s X C (slw 2001 0 n capU) ob w
    refine Reach.round (runLS_step mix hY ⟨hb, trivial⟩) (g6_3 Y hn ⟨?_, fun _ => h.len (by decide), fun e => h.lig (by decide), fun e => h.cg (by omega), fun e => h.cb (by omega), fun e => absurd e (by decide), fun e => absurd e (by decide)⟩)
    simp only [whyL, len_i (h.len (by decide)), h.lig (by decide), h.cg (by decide), h.cb (by decide), (show inZ (-1) 1 65536 = false from rfl), Bool.true_eq_false, if_false, if_true, reduceIte]
  · obtain ⟨Y, hY⟩ := s6_2 ⟨L.flatMap fl1⟩ y s X C ob w (cfO (slw 2001 0 n capU) g b t' q m)
    exact Reach.round (runLS_step mix hY ⟨hb, trivial⟩) (g6_3 Y hn h.up)
theorem g6_1 (X : Nat → Value) (hn : L.length = n) (h : I6 1 L g b t' q m s) : Reach C y ob w n 1 s (cfO (slw 2001 0 n capU) g b t' q m) ⟨L.flatMap fl1⟩ X := by
  cases hb : bitT 1 y
  · obtain ⟨Y, hY⟩ := t6_1 ⟨L.flatMap fl1⟩ g b t' q m y s X C (slw 2001 0 n capU) ob w
    refine Reach.round (runLS_step mix hY ⟨hb, trivial⟩) (g6_2 Y hn ⟨?_, fun _ => h.len (by decide), fun e => h.lig (by decide), fun e => h.cg (by omega), fun e => h.cb (by omega), fun e => h.ct (by omega), fun e => absurd e (by decide)⟩)
    simp only [whyL, len_i (h.len (by decide)), h.lig (by decide), h.cg (by decide), h.cb (by decide), h.ct (by decide), (show inZ 0 1 (wi (2 * b)) = false from inZ_n (by omega)), Bool.true_eq_false, if_false, if_true, reduceIte]
  · obtain ⟨Y, hY⟩ := s6_1 ⟨L.flatMap fl1⟩ y s X C ob w (cfO (slw 2001 0 n capU) g b t' q m)
    exact Reach.round (runLS_step mix hY ⟨hb, trivial⟩) (g6_2 Y hn h.up)
theorem g6_0 (X : Nat → Value) (hn : L.length = n) (h : I6 0 L g b t' q m s) : Reach C y ob w n 0 s (cfO (slw 2001 0 n capU) g b t' q m) ⟨L.flatMap fl1⟩ X := by
  cases hb : bitT 0 y
  · obtain ⟨Y, hY⟩ := t6_0 ⟨L.flatMap fl1⟩ g b t' q m y s X C (slw 2001 0 n capU) ob w
    refine Reach.round (runLS_step mix hY ⟨hb, trivial⟩) (g6_1 Y hn ⟨?_, fun _ => h.len (by decide), fun e => h.lig (by decide), fun e => h.cg (by omega), fun e => h.cb (by omega), fun e => h.ct (by omega), fun e => h.cq (by omega)⟩)
    simp only [whyL, len_i (h.len (by decide)), h.lig (by decide), h.cg (by decide), h.cb (by decide), h.ct (by decide), h.cq (by decide), (show inZ 5 0 4 = false from rfl), Bool.true_eq_false, if_false, if_true, reduceIte]
  · obtain ⟨Y, hY⟩ := s6_0 ⟨L.flatMap fl1⟩ y s X C ob w (cfO (slw 2001 0 n capU) g b t' q m)
    exact Reach.round (runLS_step mix hY ⟨hb, trivial⟩) (g6_1 Y hn h.up)
end
/-- The tail. -/
theorem tail6 {C : Value} {y : Int} {ob w d : Obj} {n : Nat} {s : List UInt8} {A : Array Value} (X : Nat → Value) (hF : Fin n d A s) :
    ∃ T H, StepV Try.prog Z6 (FS C y s 7 X) [] (HR ob w d A) .ret T [] H ∧ vresults Try.prog Try.f6 T H = some (bb true) := by
  rcases hF with ⟨L, g, b, t', q, m, rfl, rfl, hn, hw⟩ | ⟨g, b, t', q, m, rfl, rfl⟩
  · have w17 := sem1_calls (why_s g b t' q m L) (ren_cv g b t' q m) rfl (H := [(2001, .chan 1 ⟨L.flatMap fl1⟩ false 3 0 false)]) (s := slw 2001 0 L.length capU) (fun β w hR => ll_opq hR rfl rfl)
    have w15 := sem1_calls (chk_s g b t' q m L) (ren_cv g b t' q m) rfl (H := [(2001, .chan 1 ⟨L.flatMap fl1⟩ false 3 0 false)]) (s := slw 2001 0 L.length capU) (fun β w hR => ll_opq hR rfl rfl)
    rw [hw] at w17 w15
    subst hn
    rcases whyL_cases L g b t' q m with h | h | h | h | h | h | h | h <;> rw [hw] at h <;> subst h
    · obtain ⟨T, H, h1, h2⟩ := z6_0 L.length ⟨L.flatMap fl1⟩ g b t' q m y X C ob w
      exact ⟨T, H, runLS_step mix h1 ⟨w17, w15, wakes_c, trivial⟩, h2⟩
    · obtain ⟨T, H, h1, h2⟩ := z6_1 L.length ⟨L.flatMap fl1⟩ g b t' q m y X C ob w
      exact ⟨T, H, runLS_step mix h1 ⟨w17, w15, wakes_c, trivial⟩, h2⟩
    · obtain ⟨T, H, h1, h2⟩ := z6_2 L.length ⟨L.flatMap fl1⟩ g b t' q m y X C ob w
      exact ⟨T, H, runLS_step mix h1 ⟨w17, w15, wakes_c, trivial⟩, h2⟩
    · obtain ⟨T, H, h1, h2⟩ := z6_3 L.length ⟨L.flatMap fl1⟩ g b t' q m y X C ob w
      exact ⟨T, H, runLS_step mix h1 ⟨w17, w15, wakes_c, trivial⟩, h2⟩
    · obtain ⟨T, H, h1, h2⟩ := z6_4 L.length ⟨L.flatMap fl1⟩ g b t' q m y X C ob w
      exact ⟨T, H, runLS_step mix h1 ⟨w17, w15, wakes_c, trivial⟩, h2⟩
    · obtain ⟨T, H, h1, h2⟩ := z6_5 L.length ⟨L.flatMap fl1⟩ g b t' q m y X C ob w
      exact ⟨T, H, runLS_step mix h1 ⟨w17, w15, wakes_c, trivial⟩, h2⟩
    · obtain ⟨T, H, h1, h2⟩ := z6_6 L.length ⟨L.flatMap fl1⟩ g b t' q m y X C ob w
      exact ⟨T, H, runLS_step mix h1 ⟨w17, w15, wakes_c, trivial⟩, h2⟩
    · obtain ⟨T, H, h1, h2⟩ := z6_7 L.length ⟨L.flatMap fl1⟩ g b t' q m y X C ob w
      exact ⟨T, H, runLS_step mix h1 ⟨w17, w15, wakes_c, trivial⟩, h2⟩
  · obtain ⟨T, H, h1, h2⟩ := z6_n A g b t' q m y X C ob w
    exact ⟨T, H, runLS_step mix h1 ⟨n_17 g b t' q m, n_15 g b t' q m, wakes_c, trivial⟩, h2⟩
theorem first_ok {o1 cap1 : Nat} {L : List Int} (g b t' q m y : Int) (h1 : L.length ≤ cap1) (h1' : cap1 ≤ maxLen) (ok : okL L g b t' q m) :
    CallsV Try.prog (.func 6) #[cv (slw 1 o1 L.length cap1) g b t' q m, .int .u8 y] [(1, win o1 (cwx fl1 o1 L))] (rt (bb true)) [] := by
  obtain ⟨hlen, hlig, k1, k2, k3, k4, k5⟩ := ok_parts ok
  obtain ⟨Y0, e0⟩ := a6_0 o1 L.length cap1 (cwx fl1 o1 L) g b t' q m y
  obtain ⟨Y1, e1⟩ := a6_1 o1 L.length cap1 (cwx fl1 o1 L) g b t' q m y Y0
  obtain ⟨Y2, e2⟩ := a6_2 o1 L.length cap1 (cwx fl1 o1 L) g b t' q m y Y1
  obtain ⟨Y3, e3⟩ := a6_3 o1 L.length cap1 (cwx fl1 o1 L) ⟨L.flatMap fl1⟩ g b t' q m y Y2
  obtain ⟨Y4, e4⟩ := a6_4 ⟨L.flatMap fl1⟩ y Y3 (cv (slw 1 o1 L.length cap1) g b t' q m) (win o1 (cwx fl1 o1 L)) (cfO (slw 1 o1 L.length cap1) g b t' q m) (cfO (slw 2001 0 L.length capU) g b t' q m)
  obtain ⟨Y5, e5⟩ := a6_5 ⟨L.flatMap fl1⟩ y [] Y4 (cv (slw 1 o1 L.length cap1) g b t' q m) (win o1 (cwx fl1 o1 L)) (cfO (slw 1 o1 L.length cap1) g b t' q m) (cfO (slw 2001 0 L.length capU) g b t' q m)
  have s0 := runLS_step mix e0 trivial
  have s1 := runLS_step mix e1 ⟨chk_w g b t' q m 16 (dchk_p g b t' q m) h1 h1' (chk_ok ok), trivial⟩
  have s2 := runLS_step mix e2 trivial
  have s3 := runLS_step mix e3 ⟨new1_calls (own25_s g b t' q m hlen) (ren_cv g b t' q m) (fun _ _ => rfl) (H := [(1, win o1 (cwx fl1 o1 L))]) (s := slw 1 o1 L.length cap1) (k := 2001) rfl (fun β w hR => ll_win hR rfl h1 h1'), trivial⟩
  have s4 := runLS_step mix e4 trivial
  have s5 := runLS_step mix e5 trivial
  obtain ⟨r, s', d', A', Y, hl, hF⟩ := g6_0 (C := cv (slw 1 o1 L.length cap1) g b t' q m) (y := y) (ob := win o1 (cwx fl1 o1 L)) (w := cfO (slw 1 o1 L.length cap1) g b t' q m) (s := []) (L := L) (n := L.length) (g := g) (b := b) (t' := t') (q := q) (m := m) Y5 rfl ⟨ok, fun _ => hlen, fun _ => hlig, fun _ => k1, fun _ => k2, fun _ => k3, fun _ => k4⟩
  obtain ⟨T, H, hT, hv⟩ := tail6 (C := cv (slw 1 o1 L.length cap1) g b t' q m) (y := y) (ob := win o1 (cwx fl1 o1 L)) (w := cfO (slw 1 o1 L.length cap1) g b t' q m) Y hF
  exact callsV_step Try.func6 b6_eq (StepV.seq s0 (StepV.seq s1 (StepV.seq s2 (StepV.seq s3 (StepV.seq s4 (StepV.seq (StepV.seq s5 (LoopN.loop hl).block) hT)))))) rfl hv rfl (fun _ _ h => by cases h) rfl
/-- The law, wherever its masses lie. -/
theorem law6 {W : World} {s1 : Value} {N1 : List Int} (g b t' q m y : Int) (u1 : LieL W s1 N1) :
    Calls Try.prog 6 #[cv s1 g b t' q m, .int .u8 y] W fun e w' => e = .returned (.bool true) ∧ Below W.heap.size W w' := by
  rcases u1 with ⟨rfl, rfl⟩ | ⟨B1, o1, cap1, rfl, h1, h1', w1⟩
  · exact pure_calls (args' := #[]) (runF_pure mix (e6_n g b t' q m y) ⟨n_16 g b t' q m, wakes_c, trivial⟩ rfl rfl) rfl W
  have go : CallsV Try.prog (.func 6) #[cv (slw 1 o1 N1.length cap1) g b t' q m, .int .u8 y] [(1, win o1 (cwx fl1 o1 N1))] (rt (bb true)) [] → Calls Try.prog 6 #[cv (slw B1 o1 N1.length cap1) g b t' q m, .int .u8 y] W fun e w' => e = .returned (.bool true) ∧ Below W.heap.size W w' := fun hc => by
    refine win_ret (β := fun i => (B1, 0)) hc rfl ?_ (lie_1 (lie_win rfl (cwx_plain _ _) w1))
    show #[cv (ren _ (slw 1 o1 N1.length cap1)) g b t' q m, .int .u8 y] = _
    rw [ren_win (i := 1) (B := B1) rfl h1']
  by_cases ok : okL N1 g b t' q m
  · exact go (first_ok g b t' q m y h1 h1' ok)
  · exact go (runF_calls mix (e6_x o1 N1.length cap1 _ g b t' q m y) ⟨chk_w g b t' q m 16 (dchk_p g b t' q m) h1 h1' (chk_no ok), wakes_c, trivial⟩ rfl rfl)
end Go.Proofs.Ytelohlpjgfknoaa
