/- Texts of the seat, joined. -/
import Derived.Test.YtcjjckokaiobcaaDoorZz5
import Derived.WalkKit
import Derived.TacticsIn
/- The names of methods. -/
namespace Go.Proofs.YtcjjckokaiobcaaDoor
open Go Go.RowKit
set_option linter.unusedSimpArgs false
set_option linter.unusedVariables false
set_option maxRecDepth 100000

theorem nm_cell {w : World} (h : GL w) {k : Nat} {v : Value} (hk : nmsC[k]? = some v) : w.cell? ⟨0, k, none⟩ = some v := by
  obtain ⟨T, fr, e⟩ := h.n
  unfold World.cell?
  simp [e, hk]
theorem nm_0 (w : World) (hg : GL w) : Calls Tryd.prog 21 #[.int .i64 0] w fun e w' => e = .returned (.string ⟨⟨[108, 101, 97, 112, 102, 114, 111, 103]⟩⟩) ∧ w = w' := by
  have c0 : w.cell? ⟨0, 0, none⟩ = some (.string ⟨⟨[108, 101, 97, 112, 102, 114, 111, 103]⟩⟩) := nm_cell hg rfl
  clear hg
  go_enter Tryd.func21, Tryd.ntmps21
  go_wp2
  go_ret
  exact ⟨rfl, rfl⟩
theorem name_0 : PureX Tryd.prog 21 #[ii 0] (rt (.string ⟨⟨[108, 101, 97, 112, 102, 114, 111, 103]⟩⟩)) := fun w hg => (nm_0 w hg).mono fun e w' h => ⟨h.1, h.2 ▸ Below.refl _ w⟩
theorem nm_1 (w : World) (hg : GL w) : Calls Tryd.prog 21 #[.int .i64 1] w fun e w' => e = .returned (.string ⟨⟨[116, 104, 114, 101, 101]⟩⟩) ∧ w = w' := by
  have c0 : w.cell? ⟨0, 1, none⟩ = some (.string ⟨⟨[116, 104, 114, 101, 101]⟩⟩) := nm_cell hg rfl
  clear hg
  go_enter Tryd.func21, Tryd.ntmps21
  go_wp2
  go_ret
  exact ⟨rfl, rfl⟩
theorem name_1 : PureX Tryd.prog 21 #[ii 1] (rt (.string ⟨⟨[116, 104, 114, 101, 101]⟩⟩)) := fun w hg => (nm_1 w hg).mono fun e w' h => ⟨h.1, h.2 ▸ Below.refl _ w⟩
theorem nm_2 (w : World) (hg : GL w) : Calls Tryd.prog 21 #[.int .i64 2] w fun e w' => e = .returned (.string ⟨⟨[115, 101, 118, 101, 110]⟩⟩) ∧ w = w' := by
  have c0 : w.cell? ⟨0, 2, none⟩ = some (.string ⟨⟨[115, 101, 118, 101, 110]⟩⟩) := nm_cell hg rfl
  clear hg
  go_enter Tryd.func21, Tryd.ntmps21
  go_wp2
  go_ret
  exact ⟨rfl, rfl⟩
theorem name_2 : PureX Tryd.prog 21 #[ii 2] (rt (.string ⟨⟨[115, 101, 118, 101, 110]⟩⟩)) := fun w hg => (nm_2 w hg).mono fun e w' h => ⟨h.1, h.2 ▸ Below.refl _ w⟩
theorem nm_3 (w : World) (hg : GL w) : Calls Tryd.prog 21 #[.int .i64 3] w fun e w' => e = .returned (.string ⟨⟨[102, 105, 102, 116, 101, 101, 110]⟩⟩) ∧ w = w' := by
  have c0 : w.cell? ⟨0, 3, none⟩ = some (.string ⟨⟨[102, 105, 102, 116, 101, 101, 110]⟩⟩) := nm_cell hg rfl
  clear hg
  go_enter Tryd.func21, Tryd.ntmps21
  go_wp2
  go_ret
  exact ⟨rfl, rfl⟩
theorem name_3 : PureX Tryd.prog 21 #[ii 3] (rt (.string ⟨⟨[102, 105, 102, 116, 101, 101, 110]⟩⟩)) := fun w hg => (nm_3 w hg).mono fun e w' h => ⟨h.1, h.2 ▸ Below.refl _ w⟩
theorem nm_4 (w : World) (hg : GL w) : Calls Tryd.prog 21 #[.int .i64 4] w fun e w' => e = .returned (.string ⟨⟨[116, 117, 114, 110, 105, 110, 103]⟩⟩) ∧ w = w' := by
  have c0 : w.cell? ⟨0, 4, none⟩ = some (.string ⟨⟨[116, 117, 114, 110, 105, 110, 103]⟩⟩) := nm_cell hg rfl
  clear hg
  go_enter Tryd.func21, Tryd.ntmps21
  go_wp2
  go_ret
  exact ⟨rfl, rfl⟩
theorem name_4 : PureX Tryd.prog 21 #[ii 4] (rt (.string ⟨⟨[116, 117, 114, 110, 105, 110, 103]⟩⟩)) := fun w hg => (nm_4 w hg).mono fun e w' h => ⟨h.1, h.2 ▸ Below.refl _ w⟩
theorem name_no (a : Int) (h : (decide (0 ≤ a) && decide (a ≤ 4)) = false) : PureX Tryd.prog 21 #[ii a] (rt (.string ⟨⟨[]⟩⟩)) := by
  have : runF Tryd.prog 1000 [] 21 #[ii a] [] [n] [(23, rt (bb false))] [] [] = some (rt (.string ⟨⟨[]⟩⟩), [], [PureX Tryd.prog 23 #[ii a] (rt (bb false))]) := by kernel_rfl
  exact runF_pure mix this ⟨(is_v a).is (by rw [h]), trivial⟩ rfl rfl

end Go.Proofs.YtcjjckokaiobcaaDoor

/- The table of turns, read. -/
namespace Go.Proofs.YtcjjckokaiobcaaDoor
open Go Go.RowKit
set_option linter.unusedSimpArgs false
set_option linter.unusedVariables false
set_option maxRecDepth 100000

noncomputable def b41 : Code := match Tryd.f41.body with | some c => c | none => .skip
noncomputable def L41 : Code := cK (cK (cB b41))
theorem b41_eq : Tryd.f41.body = some (.seq (cA b41) (.block 0 (.loop L41))) := by kernel_rfl
def turV : Value := .agg turC
theorem wpl_val {n : Nat} {P : Program} {ops : Array Oper} {Q : Exit → Act → World → Prop} {o : Oper} {rest : List Oper} {a : Act} {w : World} {v : Value} (hg : o.guard = none) (hnd : ∀ c, o.op ≠ .defer c)
    (hrun : (execOp a.eval o).run P w = .ok (.value v) w) (h : wpListIn Fence.wide n P ops Q rest (a.put o.dst v) w) : wpListIn Fence.wide n P ops Q (o :: rest) a w := by
  refine wpListIn_plain hg (fun K hK => ?_)
  unfold Oper.wpIn
  refine ⟨fun f _ => trivial, ?_⟩
  rw [Oper.semAt_eq _ _ _ hnd, hrun]
  exact hK _ _ h
/-- Blocks that are only read lie in the world. -/
theorem rel_wins {H : Hp} {β : Num} {w : World} (hg : GL w) (h : ∀ i o, look H i = some o → Lie β w i o) : Rel (rng β H) w β H w := by
  have hwb : ∀ i, liveB H i = true → winB H i = true := fun i hi => by
    obtain ⟨o, ho, hv⟩ := liveB_iff.1 hi
    rw [winB_look ho]; exact (h i o ho).1.1
  refine ⟨fun i o ho => (h i o ho).2, fun i j hi hj hw _ => absurd (hwb i hi) (by rw [hw]; decide), fun i hi => .inl (rng_own.2 ⟨i, hi, rfl⟩), fun i hi => ⟨fun _ => ⟨?_, rng_win.2 ⟨i, hi, hwb i hi, rfl⟩⟩, fun _ => hwb i hi⟩, fun i o ho => (h i o ho).1.2.2 _, Kp.refl _ _ ⟨hg, fun g _ hA => by
      obtain ⟨i, hi, e⟩ := rng_own.1 hA
      exact rng_win.2 ⟨i, hi, hwb i hi, e⟩⟩⟩
  obtain ⟨o, ho, hv⟩ := liveB_iff.1 hi
  obtain ⟨y, hy⟩ := liesO_some hv (h i o ho).2
  exact (Array.getElem?_eq_some_iff.1 hy).1
abbrev ld41 : Oper := { dst := some 4, op := .load 62 (.global 2), type := 62, pos := "methods.go:75", after := #[], guard := none }
abbrev mv41 : Oper := { dst := some 5, op := .move (.const (.int .i64 0)), type := 3, pos := "methods.go:75", after := #[], guard := none }
theorem c41_0 : cA b41 = .region 0 #[ld41, mv41] false := by kernel_rfl
def rho41 : Operand → Value | .global _ => ptr 9100 | _ => ud
theorem veff41 : veff Tryd.prog [(9100, .cells turC 0 (2, 0))] rho41 ld41 = some (.val turV) := by kernel_rfl
theorem turC_plain : wfA noB turC = true := by kernel_rfl
theorem run41 {w : World} (hg : GL w) {a : Act} : (execOp a.eval ld41).run Tryd.prog w = .ok (.value turV) w := by
  obtain ⟨T, fr, e⟩ := hg.t
  have hR : Rel (rng (fun _ => (2, capU)) [(9100, .cells turC 0 (2, 0))]) w (fun _ => (2, capU)) [(9100, .cells turC 0 (2, 0))] w :=
    rel_wins hg (lie_1 (lie_seen (B := 2) (off := 0) (T := 0) rfl turC_plain ⟨turC, T, fr, e, fun j v h => h⟩))
  have := eff_run (ρ' := a.eval) hR veff41 (fun x hx => by
    have hx : x = .global 2 := by simpa [Op.operands] using hx
    subst hx
    show Value.pointer (some ⟨2, 0, none⟩) = ren _ (ptr 9100)
    simp only [ren, renP, shf0 (x := (2, capU)) (Nat.le_refl _), Nat.add_zero])
  have h2 : (execOp a.eval ld41).run Tryd.prog w = .ok (.value (ren (fun _ => (2, capU)) turV)) w := this
  rw [h2, ren_plain _ (show wfV noB turV = true from turC_plain)]
theorem s41_0 (k : Nat) (H : Hp) : StepV Tryd.prog (cA b41) (frame0 Tryd.f41 #[yl k]) [] H .normal ([yl k, ud, ud, ud, turV, ii 0] ++ List.replicate 7 ud) [] H := by
  refine ⟨fun _ h => h, fun n0 A w0 β a w hR => ?_⟩
  have hg := hR.rel.kp.glw
  have hrel := hR.rel
  have hwt := hR.wt
  have e1 : a = { tmps := #[.func (.yield (β k).1) #[] #[], ud, ud, ud, ud, ud, ud, ud, ud, ud, ud, ud, ud], defers := [] } := by
    have h1 := hR.tm
    have h2 := hR.df
    cases a
    simp only at h1 h2
    rw [h1, h2]
    rfl
  subst e1
  clear hR
  rw [c41_0]
  refine wpIn_region_lit (l := [ld41, mv41]) (wpl_val rfl (fun c h => (by cases h)) (run41 hg) (wpl_val rfl (fun c h => (by cases h)) (v := ii 0) rfl (wpListIn_nil ?_)))
  refine ⟨rfl, β, fun _ _ => rfl, ⟨rfl, rfl, ?_, rfl, hrel⟩⟩
  exact hwt

end Go.Proofs.YtcjjckokaiobcaaDoor

/- A window on a table, for a while. -/
namespace Go.Proofs.YtcjjckokaiobcaaDoor
open Go Go.RowKit
set_option linter.unusedSimpArgs false
set_option linter.unusedVariables false
set_option maxRecDepth 100000

attribute [local irreducible] shf
/-- Of a table's block, too. -/
def AW (A : Nat → Prop) (b : Nat) (i : Nat) : Prop := A i ∨ i = 2 * b ∨ i = 2 * b + 1
theorem dom_cons {k : Nat} {o : Obj} {H : Hp} {i : Nat} : domB ((k, o) :: H) i = (decide (k = i) || domB H i) := by
  unfold domB
  simp only [look]
  by_cases h : k = i <;> simp [h]
theorem upd1_dom {β : Num} {H : Hp} {k : Nat} {x : Nat × Nat} (hk : domB H k = false) {i : Nat} (hi : domB H i = true) : upd1 β k x i = β i := upd1_ne fun e => by rw [e, hk] at hi; cases hi
/-- A number of which nothing is told. -/
theorem add_dead {A : Nat → Prop} {w0 : World} {β : Num} {H : Hp} {w : World} (hR : Rel A w0 β H w) {k : Nat} {x : Nat × Nat} (hk : domB H k = false) : Rel A w0 (upd1 β k x) ((k, deadO) :: H) w := by
  have hl : ∀ i, liveB ((k, deadO) :: H) i = true → liveB H i = true ∧ i ≠ k := fun i hi => by
    unfold liveB at hi
    simp only [look] at hi
    by_cases e : k = i
    · rw [if_pos e] at hi; cases hi
    · rw [if_neg e] at hi; exact ⟨hi, fun e2 => e e2.symm⟩
  have hw : ∀ i, i ≠ k → winB ((k, deadO) :: H) i = winB H i := fun i hi => by
    unfold winB
    simp only [look, if_neg (fun e : k = i => hi e.symm)]
  refine ⟨fun i o ho => ?_, fun i j hi hj hwi e => ?_, fun i hi => ?_, fun i hi => ?_, fun i o ho => ?_, hR.kp⟩
  · simp only [look] at ho
    by_cases e : k = i
    · rw [if_pos e] at ho
      simp only [Option.some.injEq] at ho
      subst ho
      exact trivial
    · rw [if_neg e] at ho
      rw [upd1_dom hk (domB_of ho)]
      exact liesO_congr (fun j hj => (upd1_dom hk hj).symm) (hR.wf i o ho) (hR.lies i o ho)
  · obtain ⟨h1, h2⟩ := hl i hi
    obtain ⟨g1, g2⟩ := hl j hj
    rw [hw i h2] at hwi
    rw [upd1_ne h2, upd1_ne g2] at e
    exact hR.inj i j h1 g1 hwi e
  · obtain ⟨h1, h2⟩ := hl i hi
    rw [upd1_ne h2]; exact hR.own i h1
  · obtain ⟨h1, h2⟩ := hl i hi
    rw [upd1_ne h2, hw i h2]; exact hR.win i h1
  · simp only [look] at ho
    by_cases e : k = i
    · rw [if_pos e] at ho
      simp only [Option.some.injEq] at ho
      subst ho
      rfl
    · rw [if_neg e] at ho
      exact wfO_mono (fun j hj => by rw [dom_cons, hj, Bool.or_true]) (hR.wf i o ho)
/-- A window on a table. -/
theorem add_win {A : Nat → Prop} {w0 : World} {β : Num} {H : Hp} {w : World} (hR : Rel A w0 β H w) {k b off : Nat} {cs : Array Value} (hk : domB H k = false) (hg : glB w0 b) (hpl : wfA noB cs = true)
    (hc : ∃ cur T fr, w.heap[b]? = some (.cells cur T fr) ∧ ∀ j v, cs[j]? = some v → cur[j + off]? = some v) : Rel (AW A b) w0 (upd1 β k (b, capU + off)) ((k, .cells cs 0 (2, 0)) :: H) w := by
  have hlt := hR.kp.gl.1.lt hg
  have hown : ∀ i, liveB H i = true → (β i).1 = b → winB H i = true := fun i hi e => by
    rcases hR.own i hi with h1 | h1
    · refine (hR.win i hi).2 ?_
      rw [e] at h1 ⊢
      exact ⟨hlt, hR.kp.gl.2 b hg h1⟩
    · omega
  have hl : ∀ i, liveB ((k, .cells cs 0 (2, 0)) :: H) i = true → i = k ∨ (liveB H i = true ∧ i ≠ k) := fun i hi => by
    unfold liveB at hi
    simp only [look] at hi
    by_cases e : k = i
    · exact .inl e.symm
    · rw [if_neg e] at hi; exact .inr ⟨hi, fun e2 => e e2.symm⟩
  have hw : ∀ i, i ≠ k → winB ((k, .cells cs 0 (2, 0)) :: H) i = winB H i := fun i hi => by
    unfold winB
    simp only [look, if_neg (fun e : k = i => hi e.symm)]
  have hwk : winB ((k, .cells cs 0 (2, 0)) :: H) k = true := by
    unfold winB
    simp only [look, if_true]
    rfl
  refine ⟨fun i o ho => ?_, fun i j hi hj hwi e => ?_, fun i hi => ?_, fun i hi => ?_, fun i o ho => ?_, ?_⟩
  · simp only [look] at ho
    by_cases e : k = i
    · rw [if_pos e] at ho
      simp only [Option.some.injEq] at ho
      subst ho
      subst e
      rw [upd1_self]
      refine ⟨fun h => (by cases h), fun h => (by cases h), fun _ _ => ?_⟩
      obtain ⟨cur, T, fr, h1, h2⟩ := hc
      refine ⟨cur, T, fr, h1, fun j v hv => ?_⟩
      rw [renA_plain _ hpl] at hv
      rw [Nat.add_sub_cancel_left]
      exact h2 j v hv
    · rw [if_neg e] at ho
      rw [upd1_dom hk (domB_of ho)]
      exact liesO_congr (fun j hj => (upd1_dom hk hj).symm) (hR.wf i o ho) (hR.lies i o ho)
  · rcases hl i hi with rfl | ⟨h1, h2⟩
    · rw [hwk] at hwi; cases hwi
    · rw [hw i h2] at hwi
      rw [upd1_ne h2] at e
      rcases hl j hj with rfl | ⟨g1, g2⟩
      · rw [upd1_self] at e
        rw [hown i h1 e] at hwi
        cases hwi
      · rw [upd1_ne g2] at e
        exact hR.inj i j h1 g1 hwi e
  · rcases hl i hi with rfl | ⟨h1, h2⟩
    · rw [upd1_self]; exact .inl (.inr (.inl rfl))
    · rw [upd1_ne h2]
      exact (hR.own i h1).imp_left .inl
  · rcases hl i hi with rfl | ⟨h1, h2⟩
    · rw [upd1_self]
      exact ⟨fun _ => ⟨hlt, .inr (.inr rfl)⟩, fun _ => hwk⟩
    · rw [upd1_ne h2, hw i h2]
      refine ⟨fun h => ⟨((hR.win i h1).1 h).1, .inl ((hR.win i h1).1 h).2⟩, fun h => ?_⟩
      rcases h.2 with h3 | h3 | h3
      · exact (hR.win i h1).2 ⟨h.1, h3⟩
      · omega
      · exact hown i h1 (by omega)
  · simp only [look] at ho
    have hm : ∀ j, domB H j = true → domB ((k, .cells cs 0 (2, 0)) :: H) j = true := fun j hj => by rw [dom_cons, hj, Bool.or_true]
    by_cases e : k = i
    · rw [if_pos e] at ho
      simp only [Option.some.injEq] at ho
      subst ho
      simp only [wfO, Bool.and_eq_true]
      exact ⟨wfA_mono (p := noB) (fun _ h => (by cases h)) _ hpl, by decide⟩
    · rw [if_neg e] at ho
      exact wfO_mono hm (hR.wf i o ho)
  · refine ⟨hR.kp.os, hR.kp.tape, hR.kp.output, hR.kp.size, fun i hi hA => hR.kp.block i hi fun hq => hA ⟨.inl hq.1, ?_⟩, hR.kp.gl.1, fun g hgb hA => ?_⟩
    · rintro (h3 | h3 | h3)
      · exact hq.2 h3
      · omega
      · have e : i = b := by omega
        subst e
        exact hq.2 (hR.kp.gl.2 i hg hq.1)
    · rcases hA with h3 | h3 | h3
      · exact .inl (hR.kp.gl.2 g hgb h3)
      · exact .inr (.inr (by omega))
      · omega
/-- .. and without it. -/
theorem drop_win {A : Nat → Prop} {w0 : World} {β' : Num} {H1 H' : Hp} {w' : World} {b : Nat} (hR : Rel (AW A b) w0 β' H1 w') (hs : Sub H' H1) (hc : closedH H' = true) (hgl : GlA A w0)
    (hw : ∀ i, liveB H' i = true → winB H' i = true → A (2 * (β' i).1) ∧ A (2 * (β' i).1 + 1)) : Rel A w0 β' H' w' := by
  have hwe : ∀ i, liveB H' i = true → winB H' i = winB H1 i := fun i hi => win_sub hs hi
  refine ⟨fun i o ho => hR.lies i o (hs i o ho), fun i j hi hj hwi e => hR.inj i j (live_sub hs hi) (live_sub hs hj) (by rw [← hwe i hi]; exact hwi) e, fun i hi => ?_, fun i hi => ?_, closedH_spec hc, ?_⟩
  · rcases hR.own i (live_sub hs hi) with h1 | h1
    · rcases h1 with h1 | h1 | h1
      · exact .inl h1
      · by_cases hx : (β' i).1 < w0.heap.size
        · refine .inl (hw i hi ?_).1
          rw [hwe i hi]
          exact (hR.win i (live_sub hs hi)).2 ⟨hx, .inr (.inr (by omega))⟩
        · exact .inr (by omega)
      · omega
    · exact .inr h1
  · refine ⟨fun h => ⟨?_, (hw i hi h).2⟩, fun h => ?_⟩
    · rw [hwe i hi] at h
      exact ((hR.win i (live_sub hs hi)).1 h).1
    · rw [hwe i hi]
      exact (hR.win i (live_sub hs hi)).2 ⟨h.1, .inl h.2⟩
  · refine ⟨hR.kp.os, hR.kp.tape, hR.kp.output, hR.kp.size, fun i hi hA => hR.kp.block i hi fun hq => ?_, hgl⟩
    rcases hq.1 with h3 | h3 | h3
    · exact hA ⟨h3, fun h4 => hq.2 (.inl h4)⟩
    · exact hq.2 (.inr (.inr (by omega)))
    · omega

end Go.Proofs.YtcjjckokaiobcaaDoor

/- The table of parts, read. -/
namespace Go.Proofs.YtcjjckokaiobcaaDoor
open Go Go.RowKit
set_option linter.unusedSimpArgs false
set_option linter.unusedVariables false
set_option maxRecDepth 100000

attribute [local irreducible] shf
noncomputable def b34 : Code := match Tryd.f34.body with | some c => c | none => .skip
noncomputable def R34 : Code := cB b34
abbrev o34a : Oper := { dst := some 5, op := .load 3 (.tmp 1), type := 3, pos := "methods.go:47", after := #[], guard := none }
abbrev o34b : Oper := { dst := some 6, op := .indexAddr 59 (.global 1) (.tmp 5), type := 0, pos := "methods.go:47", after := #[{ on := 0, ground := .data }], guard := none }
abbrev o34c : Oper := { dst := some 7, op := .load 26 (.tmp 6), type := 26, pos := "methods.go:47", after := #[{ on := 1, ground := .data }], guard := none }
abbrev o34d : Oper := { dst := some 8, op := .call { callee := .builtin .len, args := #[.tmp 7], argTypes := #[26] }, type := 3, pos := "methods.go:47", after := #[{ on := 2, ground := .data }], guard := none }
abbrev o34e : Oper := { dst := some 9, op := .move (.const (.int .i64 0)), type := 3, pos := "methods.go:47", after := #[], guard := none }
theorem b34_eq : Tryd.f34.body = some (.seq (.region 0 #[o34a, o34b, o34c, o34d, o34e] false) R34) := by kernel_rfl
/-- What its temporaries are behind the look into the table. -/
def t34 (q b m n : Nat) (s : Value) : List Value := [yl q, ptr b, ud, ud, ud, ii m, pto 9100 m, s, ii n, ii 0, ud, ud, ud, ud, ud, ud, ud, ud]
theorem par_cell {w : World} {cs : Array Value} {T : TypeId} {fr : Nat × Nat} (h : w.heap[1]? = some (.cells cs T fr)) {k : Nat} {v : Value} (hk : cs[k]? = some v) : w.cell? ⟨1, k, none⟩ = some v := by
  unfold World.cell?
  simp [h, hk]
/-- Region 0, in a world: the table's slice is loaded. -/
theorem r34 (m : Nat) (hm : m < 5) {yv : Value} {B : Nat} {p : Option Addr} {l c : Nat} {n0 : Nat} {w : World} {Q : Exit → Act → World → Prop} (hb : w.cell? ⟨B, 0, none⟩ = some (.int .i64 m)) (hc : w.cell? ⟨1, m, none⟩ = some (.slice p l c))
    (h : Q .normal { tmps := #[yv, .pointer (some ⟨B, 0, none⟩), undef, undef, undef, .int .i64 m, .pointer (some ⟨1, m, none⟩), .slice p l c, .int .i64 l, .int .i64 0, undef, undef, undef, undef, undef, undef, undef, undef], defers := [] } w) :
    (Code.region 0 #[o34a, o34b, o34c, o34d, o34e] false).wpIn Fence.wide n0 Tryd.prog Q { tmps := #[yv, .pointer (some ⟨B, 0, none⟩), undef, undef, undef, undef, undef, undef, undef, undef, undef, undef, undef, undef, undef, undef, undef, undef], defers := [] } w := by
  match m, hm with
  | 0, _ => gi_wp2; exact h
  | 1, _ => gi_wp2; exact h
  | 2, _ => gi_wp2; exact h
  | 3, _ => gi_wp2; exact h
  | 4, _ => gi_wp2; exact h

end Go.Proofs.YtcjjckokaiobcaaDoor

/- The iterator over a method's parts. -/
namespace Go.Proofs.YtcjjckokaiobcaaDoor
open Go Go.RowKit
set_option linter.unusedSimpArgs false
set_option linter.unusedVariables false
set_option maxRecDepth 100000

attribute [local irreducible] shf
/-- The windows of the one are windows of the other. -/
def winsIn (H' H : Hp) : Bool := H'.all fun e => !(winO e.2 && isLive e.2) || winB H e.1
theorem winsIn_ok {H' H : Hp} (h : winsIn H' H = true) {i : Nat} (hl : liveB H' i = true) (hw : winB H' i = true) : winB H i = true := by
  obtain ⟨o, ho, hlo⟩ := liveB_iff.1 hl
  rw [winB_look ho] at hw
  have key : ∀ (G : Hp), (G.all fun e => !(winO e.2 && isLive e.2) || winB H e.1) = true → look G i = some o → winB H i = true := by
    intro G
    induction G with
    | nil => intro _ h; cases h
    | cons e r ih =>
      obtain ⟨k, x⟩ := e
      intro hg hlk
      rw [List.all_cons, Bool.and_eq_true] at hg
      simp only [look] at hlk
      split at hlk
      · rename_i e
        simp only [Option.some.injEq] at hlk
        subst hlk
        have := hg.1
        simp only [hw, hlo] at this
        rw [← e]
        simpa using this
      · exact ih hg.2 hlk
  exact key H' h ho
theorem winB_live {H : Hp} {i : Nat} (h : winB H i = true) : liveB H i = true := by
  unfold winB at h
  unfold liveB
  cases hl : look H i with
  | none => rw [hl] at h; cases h
  | some o =>
    rw [hl] at h
    cases o <;> first | rfl | (cases h; done)
section
variable {q b m : Nat} {H H1 H' : Hp} {t1 : List Value} {ex : Ex}
theorem core34 {n : Nat} {s : Value} {G : Hp} {A : Nat → Prop} {β γ : Num} {w : World} (hm : m < 5) (hR : Rel (rng β H) w β H w) (hbx : look H b = some (.cells ⟨[ii m]⟩ 3 (0, 0))) (hq : domB H q = true)
    (hcell : ∃ p l c, w.cell? ⟨1, m, none⟩ = some (.slice p l c) ∧ ren γ s = .slice p l c ∧ (n : Int) = l) (hG : Rel A w γ G w) (hag : ∀ i, domB H i = true → γ i = β i) (h9 : γ 9100 = (1, capU)) (hwt : wfL (domB G) (t34 q b m n s) = true) (hdG : ∀ i, domB H i = true → domB G i = true)
    (rest : StepV Tryd.prog R34 (t34 q b m n s) [] G ex t1 [] H1) (he : exEnds ex = true) (hv : vresults Tryd.prog Tryd.f34 t1 H1 = some ud)
    (hdrop : ∀ β' w', (∀ i, domB G i = true → β' i = γ i) → Rel A w β' H1 w' → Rel (rng β H) w β' H' w') :
    Calls Tryd.prog 34 (renA β #[yl q, ptr b]) w fun e w' => ∃ β', (∀ i, domB H i = true → β' i = β i) ∧ e = (rt ud).out β' ∧ Rel (rng β H) w β' H' w' := by
  have hca := cells_at hR hbx 0
  have hsh : shf (β b) = 0 := (hca.2 rfl).1
  have hc0 : w.cell? ⟨(β b).1, 0, none⟩ = some (.int .i64 m) := by
    have := hca.1 (ii m) rfl
    rw [hsh] at this
    exact this
  obtain ⟨p, l, c, hc1, hrs, hnl⟩ := hcell
  refine (callsIn_wide (n := 0)).1 (callsIn_of_wp_marks (f := 34) (show Tryd.prog.funcs[34]? = some Tryd.f34 from rfl) b34_eq trivial ?_)
  have e0 : renA β #[yl q, ptr b] = #[.func (.yield (β q).1) #[] #[], .pointer (some ⟨(β b).1, 0, none⟩)] := by
    simp only [renA, renL, ren, renF, renP, hsh]
  rw [e0]
  have ea : ∀ (x y : Value), #[x, y] ++ Array.replicate (Tryd.f34.ntmps - (#[x, y] : Array Value).size) undef = #[x, y, undef, undef, undef, undef, undef, undef, undef, undef, undef, undef, undef, undef, undef, undef, undef, undef] := fun x y => by kernel_rfl
  rw [ea]
  refine wpIn_seq (r34 m hm hc0 hc1 ?_)
  have hRA : RelA A w γ [] (t34 q b m n s) G { tmps := #[.func (.yield (β q).1) #[] #[], .pointer (some ⟨(β b).1, 0, none⟩), undef, undef, undef, .int .i64 m, .pointer (some ⟨1, m, none⟩), .slice p l c, .int .i64 l, .int .i64 0, undef, undef, undef, undef, undef, undef, undef, undef], defers := [] } w := by
    refine ⟨?_, rfl, hwt, rfl, hG⟩
    have eb := hag b (domB_of hbx)
    have eq := hag q hq
    have e1 : ren γ (yl q) = .func (.yield (β q).1) #[] #[] := by simp only [ren, renF, eq]; rfl
    have e2 : ren γ (ptr b) = .pointer (some ⟨(β b).1, 0, none⟩) := by simp only [ren, renP, eb, hsh]
    have e3 : ren γ (pto 9100 m) = .pointer (some ⟨1, m, none⟩) := by simp only [ren, renP, h9, shf0 (x := (1, capU)) (Nat.le_refl _), Nat.add_zero]
    show _ = (renL γ (t34 q b m n s)).toArray
    unfold t34
    simp only [renL, e1, e2, e3, hrs, hnl]
    rfl
  refine wpIn_mono (rest.2 0 A w γ _ w hRA) ?_
  rintro e a' w' ⟨rfl, β', hb', hRc⟩
  have hR' : RelA A w β' [] t1 H1 a' w' := by
    cases ex with
    | pan ch => cases he
    | _ => exact hRc
  have hfin : LeavesInM Fence.wide 0 Tryd.prog Tryd.f34 a'.tmps (fun e w' => ∃ β', (∀ i, domB H i = true → β' i = β i) ∧ e = (rt ud).out β' ∧ Rel (rng β H) w β' H' w') a'.defers .returning w' := by
    rw [hR'.tm, hR'.df]
    exact ⟨ren β' ud, vresults_run hR'.rel hv, β', fun i hi => (hb' i (hdG i hi)).trans (hag i hi), rfl, hdrop β' w' hb' hR'.rel⟩
  cases ex with
  | normal => exact hfin
  | ret => exact hfin
  | _ => cases he
/-- The iterator over a method's parts, its rounds run with a window on the table. -/
theorem calls34 {L : List Int} (hm : parL[m]? = some L) (hbx : look H b = some (.cells ⟨[ii m]⟩ 3 (0, 0))) (hq : domB H q = true) (hk : domB H 9101 = false) (hk0 : domB H 9100 = false)
    (rest : StepV Tryd.prog R34 (t34 q b m L.length (slw 9101 0 L.length L.length)) [] ((9101, .cells ⟨L.map ii⟩ 0 (2, 0)) :: (9100, deadO) :: H) ex t1 [] H1) (he : exEnds ex = true) (hv : vresults Tryd.prog Tryd.f34 t1 H1 = some ud)
    (hs : Sub H' H1) (hc : closedH H' = true) (hwin : winsIn H' H = true) (hwt : wfL (domB ((9101, .cells ⟨L.map ii⟩ 0 (2, 0)) :: (9100, deadO) :: H)) (t34 q b m L.length (slw 9101 0 L.length L.length)) = true) : CallsV Tryd.prog (.func 34) #[yl q, ptr b] H (rt ud) H' := by
  intro β w hR
  have hm4 : m < 4 := (List.getElem?_eq_some_iff.1 hm).1
  obtain ⟨cs, T, fr, h1, h2, h3⟩ := hR.kp.glw.p
  obtain ⟨B, off, h4, c, T', fr', h5, h6⟩ := h3 m L hm
  have hL : L.length ≤ maxLen := by
    have : ∀ L ∈ parL, L.length ≤ 15 := by decide
    have := this L (List.mem_of_getElem? hm)
    exact Nat.le_trans this (by decide)
  have hgb : glB w B := .inr (.inr (.inr ⟨cs, T, fr, m, off, _, _, h1, hm4, h4⟩))
  have hpl : wfA noB (⟨L.map ii⟩ : Array Value) = true := by
    show wfL noB (L.map ii) = true
    rw [wfL_all]
    intro v hv
    obtain ⟨x, -, rfl⟩ := List.mem_map.1 hv
    rfl
  have hd1 := add_dead hR (k := 9100) (x := (1, capU)) hk0
  have hk1 : domB ((9100, deadO) :: H) 9101 = false := by rw [dom_cons, hk]; rfl
  have hG := add_win hd1 (k := 9101) (b := B) (off := off) (cs := ⟨L.map ii⟩) hk1 hgb hpl ⟨c, T', fr', h5, fun j v hv => by
    have hv : (L.map ii)[j]? = some v := by simpa using hv
    rw [List.getElem?_map, Option.map_eq_some_iff] at hv
    obtain ⟨x, hx, rfl⟩ := hv
    rw [Nat.add_comm]
    exact h6 j x hx⟩
  have hag : ∀ i, domB H i = true → upd1 (upd1 β 9100 (1, capU)) 9101 (B, capU + off) i = β i := fun i hi => by
    rw [upd1_ne (fun e => by rw [e, hk] at hi; cases hi), upd1_ne (fun e => by rw [e, hk0] at hi; cases hi)]
  have e9 : upd1 (upd1 β 9100 (1, capU)) 9101 (B, capU + off) 9101 = (B, capU + off) := upd1_self
  have e8 : upd1 (upd1 β 9100 (1, capU)) 9101 (B, capU + off) 9100 = (1, capU) := by rw [upd1_ne (by decide), upd1_self]
  have hdG : ∀ i, domB H i = true → domB ((9101, .cells ⟨L.map ii⟩ 0 (2, 0)) :: (9100, deadO) :: H) i = true := fun i hi => by rw [dom_cons, dom_cons, hi, Bool.or_true, Bool.or_true]
  refine core34 (n := L.length) (s := slw 9101 0 L.length L.length) (Nat.lt_of_lt_of_le hm4 (by decide)) hR hbx hq ⟨_, _, _, par_cell h1 h4, ren_seen e9 hL, rfl⟩ hG hag e8 hwt hdG rest he hv (fun β' w' hb' hR' => ?_)
  refine drop_win hR' hs hc hR.kp.gl (fun i hi hwi => ?_)
  have hwH := winsIn_ok hwin hi hwi
  have hlH := winB_live hwH
  have e : β' i = β i := (hb' i (hdG i (liveB_dom hlH))).trans (hag i (liveB_dom hlH))
  rw [e]
  have hw2 := (hR.win i hlH).1 hwH
  rcases hR.own i hlH with h | h
  · exact ⟨h, hw2.2⟩
  · omega
/-- .. over none. -/
theorem calls34_0 (hbx : look H b = some (.cells ⟨[ii 4]⟩ 3 (0, 0))) (hq : domB H q = true) (hk : domB H 9101 = false) (hk0 : domB H 9100 = false)
    (rest : ∀ off p, ∃ t1, StepV Tryd.prog R34 (t34 q b 4 0 (.slice (some ⟨9101, off, p⟩) 0 0)) [] ((9101, deadO) :: (9100, deadO) :: H) ex t1 [] ((9101, deadO) :: (9100, deadO) :: H) ∧ vresults Tryd.prog Tryd.f34 t1 ((9101, deadO) :: (9100, deadO) :: H) = some ud) (he : exEnds ex = true)
    (hc : closedH H = true) (hwt : ∀ off p, wfL (domB ((9101, deadO) :: (9100, deadO) :: H)) (t34 q b 4 0 (.slice (some ⟨9101, off, p⟩) 0 0)) = true) : CallsV Tryd.prog (.func 34) #[yl q, ptr b] H (rt ud) H := by
  intro β w hR
  obtain ⟨cs, T, fr, h1, ⟨a, h2⟩, h3⟩ := hR.kp.glw.p
  have hd1 := add_dead hR (k := 9100) (x := (1, capU)) hk0
  have hk1 : domB ((9100, deadO) :: H) 9101 = false := by rw [dom_cons, hk]; rfl
  have hG := add_dead hd1 (k := 9101) (x := (a.block, capU)) hk1
  have hag : ∀ i, domB H i = true → upd1 (upd1 β 9100 (1, capU)) 9101 (a.block, capU) i = β i := fun i hi => by
    rw [upd1_ne (fun e => by rw [e, hk] at hi; cases hi), upd1_ne (fun e => by rw [e, hk0] at hi; cases hi)]
  have e9 : upd1 (upd1 β 9100 (1, capU)) 9101 (a.block, capU) 9101 = (a.block, capU) := upd1_self
  have e8 : upd1 (upd1 β 9100 (1, capU)) 9101 (a.block, capU) 9100 = (1, capU) := by rw [upd1_ne (by decide), upd1_self]
  have hdG : ∀ i, domB H i = true → domB ((9101, deadO) :: (9100, deadO) :: H) i = true := fun i hi => by rw [dom_cons, dom_cons, hi, Bool.or_true, Bool.or_true]
  obtain ⟨bl, of, th⟩ := a
  obtain ⟨t1, hst, hv⟩ := rest of th
  refine core34 (m := 4) (n := 0) (s := .slice (some ⟨9101, of, th⟩) 0 0) (by decide) hR hbx hq ⟨_, _, _, par_cell h1 h2, ?_, rfl⟩ hG hag e8 (hwt of th) hdG hst he hv (fun β' w' hb' hR' => ?_)
  · have e5 : shf ((bl, capU) : Nat × Nat) = 0 := shf0 (Nat.le_refl _)
    simp only [ren, renP, e9, e5, Nat.add_zero]
    rfl
  · exact hR'.part (fun i o ho => by
      have hd : domB H i = true := domB_of ho
      have n1 : (9101 : Nat) ≠ i := fun e => by rw [← e, hk] at hd; cases hd
      have n2 : (9100 : Nat) ≠ i := fun e => by rw [← e, hk0] at hd; cases hd
      simp only [look, if_neg n1, if_neg n2]
      exact ho) hc
end

end Go.Proofs.YtcjjckokaiobcaaDoor

/- The iterator over a method's parts, not looked into; new lists. -/
namespace Go.Proofs.YtcjjckokaiobcaaDoor
open Go Go.RowKit
set_option linter.unusedSimpArgs false
set_option linter.unusedVariables false
set_option maxRecDepth 100000

attribute [local irreducible] shf
/-- A window of any kind on a table. -/
theorem add_winG {A : Nat → Prop} {w0 : World} {β : Num} {H : Hp} {w : World} (hR : Rel A w0 β H w) {k b cp : Nat} {ob : Obj} (hk : domB H k = false) (hg : glB w0 b) (hwo : winO ob = true) (hlo : isLive ob = true) (hwfo : ∀ p, wfO p ob = true)
    (hc : ∀ γ, LiesO γ cp ob w.heap[b]?) : Rel (AW A b) w0 (upd1 β k (b, cp)) ((k, ob) :: H) w := by
  have hlt := hR.kp.gl.1.lt hg
  have hown : ∀ i, liveB H i = true → (β i).1 = b → winB H i = true := fun i hi e => by
    rcases hR.own i hi with h1 | h1
    · refine (hR.win i hi).2 ?_
      rw [e] at h1 ⊢
      exact ⟨hlt, hR.kp.gl.2 b hg h1⟩
    · omega
  have hl : ∀ i, liveB ((k, ob) :: H) i = true → i = k ∨ (liveB H i = true ∧ i ≠ k) := fun i hi => by
    unfold liveB at hi
    simp only [look] at hi
    by_cases e : k = i
    · exact .inl e.symm
    · rw [if_neg e] at hi; exact .inr ⟨hi, fun e2 => e e2.symm⟩
  have hw : ∀ i, i ≠ k → winB ((k, ob) :: H) i = winB H i := fun i hi => by
    unfold winB
    simp only [look, if_neg (fun e : k = i => hi e.symm)]
  have hwk : winB ((k, ob) :: H) k = true := by
    unfold winB
    simp only [look, if_true]
    exact hwo
  refine ⟨fun i o ho => ?_, fun i j hi hj hwi e => ?_, fun i hi => ?_, fun i hi => ?_, fun i o ho => ?_, ?_⟩
  · simp only [look] at ho
    by_cases e : k = i
    · rw [if_pos e] at ho
      simp only [Option.some.injEq] at ho
      subst ho
      subst e
      rw [upd1_self]
      exact hc _
    · rw [if_neg e] at ho
      rw [upd1_dom hk (domB_of ho)]
      exact liesO_congr (fun j hj => (upd1_dom hk hj).symm) (hR.wf i o ho) (hR.lies i o ho)
  · rcases hl i hi with rfl | ⟨h1, h2⟩
    · rw [hwk] at hwi; cases hwi
    · rw [hw i h2] at hwi
      rw [upd1_ne h2] at e
      rcases hl j hj with rfl | ⟨g1, g2⟩
      · rw [upd1_self] at e
        rw [hown i h1 e] at hwi
        cases hwi
      · rw [upd1_ne g2] at e
        exact hR.inj i j h1 g1 hwi e
  · rcases hl i hi with rfl | ⟨h1, h2⟩
    · rw [upd1_self]; exact .inl (.inr (.inl rfl))
    · rw [upd1_ne h2]
      exact (hR.own i h1).imp_left .inl
  · rcases hl i hi with rfl | ⟨h1, h2⟩
    · rw [upd1_self]
      exact ⟨fun _ => ⟨hlt, .inr (.inr rfl)⟩, fun _ => hwk⟩
    · rw [upd1_ne h2, hw i h2]
      refine ⟨fun h => ⟨((hR.win i h1).1 h).1, .inl ((hR.win i h1).1 h).2⟩, fun h => ?_⟩
      rcases h.2 with h3 | h3 | h3
      · exact (hR.win i h1).2 ⟨h.1, h3⟩
      · omega
      · exact hown i h1 (by omega)
  · simp only [look] at ho
    have hm : ∀ j, domB H j = true → domB ((k, ob) :: H) j = true := fun j hj => by rw [dom_cons, hj, Bool.or_true]
    by_cases e : k = i
    · rw [if_pos e] at ho
      simp only [Option.some.injEq] at ho
      subst ho
      exact hwfo _
    · rw [if_neg e] at ho
      exact wfO_mono hm (hR.wf i o ho)
  · refine ⟨hR.kp.os, hR.kp.tape, hR.kp.output, hR.kp.size, fun i hi hA => hR.kp.block i hi fun hq => hA ⟨.inl hq.1, ?_⟩, hR.kp.gl.1, fun g hgb hA => ?_⟩
    · rintro (h3 | h3 | h3)
      · exact hq.2 h3
      · omega
      · have e : i = b := by omega
        subst e
        exact hq.2 (hR.kp.gl.2 i hg hq.1)
    · rcases hA with h3 | h3 | h3
      · exact .inl (hR.kp.gl.2 g hgb h3)
      · exact .inr (.inr (by omega))
      · omega
section
variable {q b m : Nat} {H H' : Hp}
/-- The iterator over a method's parts, its rounds run with a window that is not looked into. -/
theorem calls34c {L : List Int} (hm : parL[m]? = some L) (hbx : look H b = some (.cells ⟨[ii m]⟩ 3 (0, 0))) (hq : domB H q = true) (hk : domB H 9101 = false) (hk0 : domB H 9100 = false)
    (rest : ∀ off, ∃ t1 H1 ex, StepV Tryd.prog R34 (t34 q b m L.length (slw 9101 off L.length L.length)) [] ((9101, win off (cwx fl1 off L)) :: (9100, deadO) :: H) ex t1 [] H1 ∧ exEnds ex = true ∧ vresults Tryd.prog Tryd.f34 t1 H1 = some ud ∧ Sub H' H1)
    (hc : closedH H' = true) (hwin : winsIn H' H = true) (hwt : ∀ off, wfL (domB ((9101, win off (cwx fl1 off L)) :: (9100, deadO) :: H)) (t34 q b m L.length (slw 9101 off L.length L.length)) = true) : CallsV Tryd.prog (.func 34) #[yl q, ptr b] H (rt ud) H' := by
  intro β w hR
  have hm4 : m < 4 := (List.getElem?_eq_some_iff.1 hm).1
  obtain ⟨cs, T, fr, h1, h2, h3⟩ := hR.kp.glw.p
  obtain ⟨B, off, h4, c, T', fr', h5, h6⟩ := h3 m L hm
  have hL : L.length ≤ maxLen := by
    have : ∀ L ∈ parL, L.length ≤ 15 := by decide
    have := this L (List.mem_of_getElem? hm)
    exact Nat.le_trans this (by decide)
  have hgb : glB w B := .inr (.inr (.inr ⟨cs, T, fr, m, off, _, _, h1, hm4, h4⟩))
  have hd1 := add_dead hR (k := 9100) (x := (1, capU)) hk0
  have hk1 : domB ((9100, deadO) :: H) 9101 = false := by rw [dom_cons, hk]; rfl
  have hwa : WinAt off (cwx fl1 off L) w.heap[B]? := ⟨c, T', fr', h5, fun j v hj hv => by
    rw [cwx_at hj, fl1_map, List.getElem?_map, Option.map_eq_some_iff] at hv
    obtain ⟨x, hx, rfl⟩ := hv
    have := h6 (j - off) x hx
    rwa [show off + (j - off) = j by omega] at this⟩
  have hG := add_winG hd1 (k := 9101) (b := B) (cp := 0) (ob := win off (cwx fl1 off L)) hk1 hgb rfl rfl (fun _ => rfl) (fun γ => ⟨fun h => (by cases h), fun _ => ⟨Nat.zero_le _, hwa⟩, cwx_plain off L⟩)
  have hag : ∀ i, domB H i = true → upd1 (upd1 β 9100 (1, capU)) 9101 (B, 0) i = β i := fun i hi => by
    rw [upd1_ne (fun e => by rw [e, hk] at hi; cases hi), upd1_ne (fun e => by rw [e, hk0] at hi; cases hi)]
  have e9 : upd1 (upd1 β 9100 (1, capU)) 9101 (B, 0) 9101 = (B, 0) := upd1_self
  have e8 : upd1 (upd1 β 9100 (1, capU)) 9101 (B, 0) 9100 = (1, capU) := by rw [upd1_ne (by decide), upd1_self]
  have hdG : ∀ i, domB H i = true → domB ((9101, win off (cwx fl1 off L)) :: (9100, deadO) :: H) i = true := fun i hi => by rw [dom_cons, dom_cons, hi, Bool.or_true, Bool.or_true]
  obtain ⟨t1, H1, ex, hst, he, hv, hs⟩ := rest off
  refine core34 (n := L.length) (s := slw 9101 off L.length L.length) (Nat.lt_of_lt_of_le hm4 (by decide)) hR hbx hq ⟨_, _, _, par_cell h1 h4, ren_win e9 hL, rfl⟩ hG hag e8 (hwt off) hdG hst he hv (fun β' w' hb' hR' => ?_)
  refine drop_win hR' hs hc hR.kp.gl (fun i hi hwi => ?_)
  have hwH := winsIn_ok hwin hi hwi
  have hlH := winB_live hwH
  have e : β' i = β i := (hb' i (hdG i (liveB_dom hlH))).trans (hag i (liveB_dom hlH))
  rw [e]
  have hw2 := (hR.win i hlH).1 hwH
  rcases hR.own i hlH with h | h
  · exact ⟨h, hw2.2⟩
  · omega
end
/-- A new list in the answer of a call without lists. -/
theorem newA_0 {α3 : Type} {K3 : Kd α3} {P : Program} {f : Nat} {args : Array Value} {mk : Value → Value} {R : List α3} {k cc : Nat} {o : Obj} (hm : ∀ β s, ren β (mk s) = mk (ren β s)) (ha : ∀ β, renA β args = args)
    (ho : (o = K3.own R ∧ cc = capU) ∨ (o = K3.opq R ∧ cc = capU) ∨ (o = .cells ⟨R.flatMap K3.fl⟩ K3.T (0, 0) ∧ cc = R.length ∧ R.length ≤ maxLen))
    (h : CallsV P (.func f) args [] (rt (mk (slw k 0 R.length cc))) [(k, o)]) : NewA KI P f (fun _ => args) [] K3 mk R := by
  intro w s hg _
  have := calls_wins (H := []) (β := idN) hg h (ha _) (fun i o h => by cases h)
  exact this.mono fun e w' hh => new_of hm rng_live ho rfl hh (fun j hj => by cases hj) (fun j hj => liveB_dom hj) (by simp [look])

end Go.Proofs.YtcjjckokaiobcaaDoor
