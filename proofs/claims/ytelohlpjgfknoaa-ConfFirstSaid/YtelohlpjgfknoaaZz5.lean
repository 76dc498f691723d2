/- Texts of the seat, joined. -/
import Derived.Test.YtelohlpjgfknoaaZz3
import Derived.Test.YtelohlpjgfknoaaZz4
/- Intervals, as values and in blocks; calls by other numbers of blocks. -/
namespace Go.Proofs.Ytelohlpjgfknoaa
open Go Go.RowKit
set_option linter.unusedSimpArgs false
set_option linter.unusedVariables false

abbrev ii (x : Int) : Value := .int .i64 x
def iv (l h : Int) (b : Bool) : Value := .agg ⟨[.int .i64 l, .int .i64 h, .bool b]⟩
abbrev bad : Value := iv 0 0 true
/-- May an interval be? -/
def okI (l h : Int) (b : Bool) : Bool := !b && decide (-1152921504606846976 ≤ l) && decide (l ≤ h) && decide (h ≤ 1152921504606846976)

/-- Blocks by other numbers. -/
def renH (ρ : Nat → Nat) (H : Hp) : Hp := H.map fun e => (ρ e.1, renO ρ e.2)
theorem look_renH {ρ : Nat → Nat} {i : Nat} : ∀ {H : Hp}, (∀ e ∈ H, ρ e.1 = ρ i → e.1 = i) → look (renH ρ H) (ρ i) = (look H i).map (renO ρ)
  | [], _ => rfl
  | (k, o) :: r, hi => by
    have ih := look_renH (ρ := ρ) (i := i) (H := r) (fun e he => hi e (List.mem_cons_of_mem _ he))
    simp only [renH, List.map_cons, look] at ih ⊢
    by_cases h : k = i
    · subst h; simp
    · rw [if_neg h, if_neg (fun e => h (hi (k, o) List.mem_cons_self e))]
      exact ih
theorem live_renO {ρ : Nat → Nat} {o : Obj} : isLive (renO ρ o) = isLive o := by cases o <;> rfl
theorem win_renO {ρ : Nat → Nat} {o : Obj} : winO (renO ρ o) = winO o := by cases o <;> rfl
theorem mem_domB {H : Hp} {e : Nat × Obj} (h : e ∈ H) : domB H e.1 = true := by
  induction H with
  | nil => cases h
  | cons x r ih =>
    obtain ⟨k, o⟩ := x
    unfold domB
    simp only [look]
    by_cases hk : k = e.1
    · simp [hk]
    · rw [if_neg hk]
      rcases List.mem_cons.1 h with rfl | h
      · exact absurd rfl hk
      · exact ih h
theorem comp_lies {β : Num} {ρ : Nat → Nat} {o : Obj} {cap : Nat} {x : Option Obj} (h : LiesO (fun i => β (ρ i)) cap o x) : LiesO β cap (renO ρ o) x := by
  cases o with
  | cells c T fr =>
    simp only [renO, LiesO, renA_comp] at h ⊢
    exact h
  | loop r =>
    simp only [renO, LiesO, renA_comp] at h ⊢
    exact h
  | map es clock =>
    simp only [renO, LiesO, renEs_comp] at h ⊢
    exact h
  | _ => exact h
theorem CallsV.num {P : Program} {f : Nat} {args : Array Value} {H H' : Hp} {r : Res} (h : CallsV P (.func f) args H r H') (ρ : Nat → Nat) (hi : ∀ i j, domB H i = true → domB H j = true → ρ i = ρ j → i = j)
    (hd : ∀ i, domB H' i = true → domB H i = true) (hc : closedH H = true) (hc' : closedH (renH ρ H') = true) (hr : resOK noB r = true) :
    CallsV P (.func f) (renA (rnm ρ) args) (renH ρ H) r (renH ρ H') := by
  intro β w hR
  have inj : ∀ {G : Hp}, (∀ i, domB G i = true → domB H i = true) → ∀ i, domB H i = true → ∀ e ∈ G, ρ e.1 = ρ i → e.1 = i := fun hG i hi' e he hh => hi _ _ (hG _ (mem_domB he)) hi' hh
  have lk : ∀ i, domB H i = true → look (renH ρ H) (ρ i) = (look H i).map (renO ρ) := fun i hi' => look_renH (inj (fun _ h => h) i hi')
  have lv : ∀ i, liveB H i = true → liveB (renH ρ H) (ρ i) = true := fun i hl => by
    obtain ⟨o, ho, hl'⟩ := liveB_iff.1 hl
    refine liveB_of (o := renO ρ o) ?_ (by rw [live_renO]; exact hl')
    rw [lk i (domB_of ho), ho]
    rfl
  have wn : ∀ i, domB H i = true → winB (renH ρ H) (ρ i) = winB H i := fun i hi' => by
    unfold winB
    rw [lk i hi']
    cases look H i with
    | none => rfl
    | some o => exact win_renO
  have ofR : ∀ j, liveB (renH ρ H) j = true → ∃ i, liveB H i = true ∧ ρ i = j := by
    intro j hj
    obtain ⟨e, he, hej⟩ := memK _ _ (liveB_dom hj)
    simp only [renH, List.mem_map] at he
    obtain ⟨x, hx, rfl⟩ := he
    simp only at hej
    subst hej
    refine ⟨x.1, ?_, rfl⟩
    obtain ⟨o, ho, hl⟩ := liveB_iff.1 hj
    rw [lk x.1 (mem_domB hx)] at ho
    cases hlx : look H x.1 with
    | none => rw [hlx] at ho; cases ho
    | some y =>
      rw [hlx] at ho
      simp only [Option.map_some, Option.some.injEq] at ho
      subst ho
      rw [live_renO] at hl
      exact liveB_of hlx hl
  have hR1 : Rel (rng (fun i => β (ρ i)) H) w (fun i => β (ρ i)) H w := by
    refine ⟨fun i o ho => lies_comp (hR.lies _ _ (by rw [lk i (domB_of ho), ho]; rfl)), fun i j h1 h2 hw e => hi i j (liveB_dom h1) (liveB_dom h2) (hR.inj _ _ (lv i h1) (lv j h2) (by rw [wn i (liveB_dom h1)]; exact hw) e), fun i h1 => .inl (rng_own.2 ⟨i, h1, rfl⟩), fun i h1 => ⟨fun hw => ⟨hR.lt (lv i h1), rng_win.2 ⟨i, h1, hw, rfl⟩⟩, fun hw => ?_⟩, closedH_spec hc, Kp.refl _ _⟩
    obtain ⟨j, hj, hjw, e⟩ := rng_win.1 hw.2
    rw [← wn i (liveB_dom h1), ← hR.win_eq (lv j hj) (lv i h1) e, wn j (liveB_dom hj)]
    exact hjw
  have k1 := h (fun i => β (ρ i)) w hR1
  simp only at k1 ⊢
  rw [renA_comp]
  refine k1.mono ?_
  rintro e w' ⟨γ, hγ, rfl, hR'⟩
  refine ⟨β, fun _ _ => rfl, ?_, ?_⟩
  · cases r with
    | ret v =>
      simp only [Res.out]
      rw [ren_plain γ hr, ren_plain β hr]
    | pan ch => rfl
  · have hR2 := hR'.congr (γ := fun i => β (ρ i)) (G := H') (fun i hi' => (hγ i (hd i hi')).symm) (fun _ => rfl)
    have ofN : ∀ j, domB (renH ρ H') j = true → ∃ i, domB H' i = true ∧ ρ i = j := fun j hj => by
      obtain ⟨e, he, hej⟩ := memK _ _ hj
      simp only [renH, List.mem_map] at he
      obtain ⟨x, hx, rfl⟩ := he
      exact ⟨x.1, mem_domB hx, hej⟩
    have lk' : ∀ i, domB H' i = true → look (renH ρ H') (ρ i) = (look H' i).map (renO ρ) := fun i hi' => look_renH (inj hd i (hd i hi'))
    have lv' : ∀ i, domB H' i = true → liveB (renH ρ H') (ρ i) = true → liveB H' i = true := fun i hi' hl => by
      obtain ⟨o, ho, hl'⟩ := liveB_iff.1 hl
      rw [lk' i hi'] at ho
      cases hlx : look H' i with
      | none => rw [hlx] at ho; cases ho
      | some y =>
        rw [hlx] at ho
        simp only [Option.map_some, Option.some.injEq] at ho
        subst ho
        rw [live_renO] at hl'
        exact liveB_of hlx hl'
    have wn' : ∀ i, domB H' i = true → winB (renH ρ H') (ρ i) = winB H' i := fun i hi' => by
      unfold winB
      rw [lk' i hi']
      cases look H' i with
      | none => rfl
      | some o => exact win_renO
    have rgo : ∀ k, rng (fun i => β (ρ i)) H (2 * k) ↔ rng β (renH ρ H) (2 * k) := fun k => by
      rw [rng_own, rng_own]
      constructor
      · rintro ⟨i, h1, e⟩; exact ⟨ρ i, lv i h1, e⟩
      · rintro ⟨j, hj, e⟩
        obtain ⟨i, h1, rfl⟩ := ofR j hj
        exact ⟨i, h1, e⟩
    have rgw : ∀ k, rng (fun i => β (ρ i)) H (2 * k + 1) ↔ rng β (renH ρ H) (2 * k + 1) := fun k => by
      rw [rng_win, rng_win]
      constructor
      · rintro ⟨i, h1, hw, e⟩; exact ⟨ρ i, lv i h1, by rw [wn i (liveB_dom h1)]; exact hw, e⟩
      · rintro ⟨j, hj, hw, e⟩
        obtain ⟨i, h1, rfl⟩ := ofR j hj
        rw [wn i (liveB_dom h1)] at hw
        exact ⟨i, h1, hw, e⟩
    refine ⟨fun j o ho => ?_, fun j1 j2 h1 h2 hw e => ?_, fun j hj => ?_, fun j hj => ?_, closedH_spec hc', ?_⟩
    · obtain ⟨i, hi', rfl⟩ := ofN j (domB_of ho)
      rw [lk' i hi'] at ho
      cases hlx : look H' i with
      | none => rw [hlx] at ho; cases ho
      | some y =>
        rw [hlx] at ho
        simp only [Option.map_some, Option.some.injEq] at ho
        subst ho
        exact comp_lies (hR2.lies i y hlx)
    · obtain ⟨i1, hi1, rfl⟩ := ofN j1 (liveB_dom h1)
      obtain ⟨i2, hi2, rfl⟩ := ofN j2 (liveB_dom h2)
      rw [hR2.inj i1 i2 (lv' i1 hi1 h1) (lv' i2 hi2 h2) (by rw [← wn' i1 hi1]; exact hw) e]
    · obtain ⟨i, hi', rfl⟩ := ofN j (liveB_dom hj)
      exact (hR2.own i (lv' i hi' hj)).imp_left (rgo _).1
    · obtain ⟨i, hi', rfl⟩ := ofN j (liveB_dom hj)
      rw [wn' i hi', ← rgw]
      exact hR2.win i (lv' i hi' hj)
    · refine ⟨hR2.kp.os, hR2.kp.tape, hR2.kp.output, hR2.kp.size, fun k hk hA => hR2.kp.block k hk (by rw [rgo, rgw]; exact hA)⟩

/-- .. told by what comes. -/
theorem CallsV.num2 {P : Program} {f : Nat} {args args2 : Array Value} {H H' H2 H2' : Hp} {r : Res} (h : CallsV P (.func f) args H r H') (ρ : Nat → Nat) (hi : ∀ i j, domB H i = true → domB H j = true → ρ i = ρ j → i = j)
    (hd : ∀ i, domB H' i = true → domB H i = true) (hc : closedH H = true) (hc' : closedH (renH ρ H') = true) (hr : resOK noB r = true) (ea : renA (rnm ρ) args = args2) (eh : renH ρ H = H2) (eh' : renH ρ H' = H2') :
    CallsV P (.func f) args2 H2 r H2' := by
  subst ea
  subst eh
  subst eh'
  exact h.num ρ hi hd hc hc' hr
end Go.Proofs.Ytelohlpjgfknoaa
