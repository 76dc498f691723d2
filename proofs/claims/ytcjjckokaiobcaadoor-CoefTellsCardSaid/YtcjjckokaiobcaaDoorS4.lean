/- CoefTells answers true for every method number, every list of operations, every operation and every kind, and leaves them as they were: the card; the tables as the program's text lays them. -/
import Derived.Test.YtcjjckokaiobcaaDoorZz12
import Derived.Deep.DeepWitnessRowRef
import Derived.Test.YtcjjckokaiobcaaDoorY2
namespace Go.Proofs.YtcjjckokaiobcaaDoor.coefTells
open Go.ChangeShapes Go.WideShapes Go.ChangeAt Go.ChangeMaps Go.RowKit Go.Proofs.YtcjjckokaiobcaaDoor

set_option maxRecDepth 100000 in
/-- WHAT THE WALK GIVES. -/
theorem contract (H : Type) (enc : TypeId × Value → H) (W : World) (base : Nat) (args : Array Value) (ds gs : List (DataW H)) (before : List MemPlace)
    (hval0 : ∀ (j : Nat) t v, Tryd.f3.params[j]? = some t → args[j]? = some v → Value.okWide Tryd.prog W .any base t v)
    (hW : DataW.Whole enc Tryd.prog Tryd.f3.params.toList Rows.coefTellsSpec.vars false W args.toList ds gs before) (hL : laidMetH Tryd.prog Rows.coefTellsRow.laid W) :
    Calls Tryd.prog 3 args W fun e W' => ∃ v, e = .returned v ∧ Rows.coefTellsSpec.post enc Tryd.prog Tryd.f3 false true false false W args v W' := by
  have hval : ∀ (j : Nat) t v, Tryd.f3.params[j]? = some t → args[j]? = some v → Value.okWide Tryd.prog W .any base t v := hval0
  have hW' := hW
  obtain ⟨p, q, hA0, hV, hpq, hfz, hnd⟩ := hW
  have hA : DataW.TrodAll enc Tryd.prog W 0 (fun _ => true) true Tryd.f3.params.toList args.toList ds p := hA0
  rw [Tryd.params3] at hA hval
  obtain ⟨v0, a0, d0, b0, p0, q0, hargs0, hds0, hps0, h0, r0⟩ := trodAll_cons hA
  obtain ⟨v1, a1, d1, b1, p1, q1, hargs1, hds1, hps1, h1, r1⟩ := trodAll_cons r0
  obtain ⟨v2, a2, d2, b2, p2, q2, hargs2, hds2, hps2, h2, r2⟩ := trodAll_cons r1
  obtain ⟨v3, a3, d3, b3, p3, q3, hargs3, hds3, hps3, h3, r3⟩ := trodAll_cons r2
  obtain ⟨ha, hd, hp⟩ := trodAll_nil r3
  subst ha
  subst hd
  subst hp
  subst hargs3
  subst hds3
  subst hps3
  subst hargs2
  subst hds2
  subst hps2
  subst hargs1
  subst hds1
  subst hps1
  have hargs : args = #[v0, v1, v2, v3] := by cases args; simp_all
  subst hargs
  subst hds0
  obtain ⟨rfl, rfl⟩ := trodVars_none hV
  obtain ⟨x0, w0, rfl⟩ := open_i (hval 0 3 v0 rfl rfl) h0
  obtain ⟨L1, w1, e1⟩ := open_ops (hval 1 22 v1 rfl rfl) h1
  obtain ⟨x2, w2, rfl⟩ := open_opv (hval 2 24 v2 rfl rfl) h2
  obtain ⟨x3, w3, rfl⟩ := open_kind (hval 3 5 v3 rfl rfl) h3
  clear hA0 hval0
  simp only [List.append_nil] at hpq hW'
  have walk : Calls Tryd.prog 3 _ W (fun e W' => e = .returned (.bool true) ∧ Below W.heap.size W W') := (tells_ok x0 x3 x2 L1 W _ (gl_of_laid hL) e1)
  refine walk.mono fun e W' ⟨he, hB⟩ => ?_
  subst he
  exact ⟨_, rfl, post_of_below (pa := p) (pv := []) hW' (fun _ _ _ => trodAll_mk1 (shut_bool Tryd.und4 _))
    (fun sp hs => args_again (by decide +kernel) hA hB (fun q hq => hW'.lt q (by rw [hpq]; exact hq)) (fun q hq => hs q (by rw [hpq]; exact hq))) (fun _ _ => rfl) (by rw [List.append_nil]; exact hpq)
    hB (ok_one (by kernel_rfl) rfl (okWide_bool_mk Tryd.und4 _))⟩

/-- A WORLD FOR THE WITNESS: the listed limits laid. -/
noncomputable def laidWorld (os : Os) : World := World.laidAll Tryd.prog os Rows.coefTellsRow.laid
theorem laid_met (os : Os) : laidMet Tryd.prog Rows.coefTellsRow.laid ((laidWorld os).forCall (fun _ _ => 0) ⟨#[], #[.int .i64 0, .slice none 0 0, .agg #[.int .u8 0, .int .i64 0, .int .i64 0], .int .u8 0], []⟩).memory :=
  laidMet_laidAll _ (by kernel_rfl) (by kernel_rfl)
theorem reads (os : Os) {H : Type} (enc : TypeId × Value → H) : ∃ places, DataW.whole enc Tryd.prog ((laidWorld os).forCall (fun _ _ => 0) ⟨#[], #[.int .i64 0, .slice none 0 0, .agg #[.int .u8 0, .int .i64 0, .int .i64 0], .int .u8 0], []⟩).memory Tryd.f3.params.toList Rows.coefTellsSpec.vars false #[Value.int .i64 0, .slice none 0 0, .agg #[.int .u8 0, .int .i64 0, .int .i64 0], .int .u8 0].toList 8 = some ([.lit (.int .i64 0), .nil, .agg [.lit (.int .u8 0), .lit (.int .i64 0), .lit (.int .i64 0)], .lit (.int .u8 0)], [], places) :=
  ⟨[], by kernel_rfl⟩

set_option maxRecDepth 100000 in
theorem lifted (os : Os) (started : os.Started) (H : Type) (enc : TypeId × Value → H) (F : Stop.Interp) :
    ReturnsInHanded {} Tryd.checked os 3 .any ((OpenSpec.ofChange Rows.coefTellsSpec).preRow enc Tryd.prog Tryd.f3 Rows.coefTellsRow.domain false Rows.coefTellsRow.laid) (((OpenSpec.ofChange Rows.coefTellsSpec).at F).post enc Tryd.prog Tryd.f3 false true false false) := by
  obtain ⟨places, hx⟩ := reads os enc
  refine returnsInHanded_of_row (C := Tryd.checked) (s := OpenSpec.ofChange Rows.coefTellsSpec) Tryd.own started (by kernel_rfl) Tryd.func3
    (witness_row_atRef (enc := enc) (C := Tryd.checked) false (laidWorld os) #[.int .i64 0, .slice none 0 0, .agg #[.int .u8 0, .int .i64 0, .int .i64 0], .int .u8 0] rfl (by kernel_rfl) (by kernel_rfl) (by kernel_rfl)
      (OpenSpec.preRow_of_cond 8 hx (by kernel_rfl) (fun k hk => by cases hk) (by kernel_rfl) (laid_met os))) ?_
  intro W base args ds gs before hval hW _ _ _ hL _ _
  exact contract H enc W base args ds gs before hval hW hL

theorem said : Rows.CoefTellsSaid :=
  OpenClaim.holds_of_cond 3 Tryd.f3 rfl rfl rfl rfl rfl rfl rfl ⟨rfl, rfl, rfl, rfl, rfl⟩ rfl rfl rfl rfl rfl (by kernel_rfl) Tryd.func3 (by kernel_rfl)
    (of_decide_eq_true (by kernel_rfl)) (by unfold Func.isWrapper; first | (rw [if_pos (by decide +kernel)]; kernel_rfl) | (rw [if_neg (by decide +kernel)]; exact ⟨rfl, rfl⟩))
    (fun os started H enc _ F => by rw [OpenClaim.pre_eq_preRow]; exact lifted os started H enc F)

/-- No parameter wants a stand-in. -/
theorem plain (f : FuncId) (fn : Func) (hf : Tryd.pinned.checked.prog.funcNamed "gyre/gyrelaw14.CoefTells" = some f) (hfn : Tryd.pinned.checked.prog.funcs[f]? = some fn) :
    false = Tryd.pinned.checked.prog.looks [] ∧ ∀ (j : Nat) t, fn.params[j]? = some t → Tryd.pinned.checked.prog.wantsStandIn t = false := by
  obtain rfl : f = 3 := Option.some.inj ((show Tryd.prog.funcNamed "gyre/gyrelaw14.CoefTells" = some 3 by kernel_rfl).symm.trans hf) |>.symm
  obtain rfl : fn = Tryd.f3 := (Option.some.inj (Tryd.func3.symm.trans hfn)).symm
  refine ⟨by kernel_rfl, fun j t ht => ?_⟩
  rw [Tryd.params3] at ht
  have hm : t ∈ [3, 22, 24, 5] := by simpa using Array.mem_of_getElem? ht
  have hall : ([3, 22, 24, 5].all fun u => !Tryd.prog.wantsStandIn u) = true := by kernel_rfl
  exact (show Tryd.prog.wantsStandIn t = false by simpa using List.all_eq_true.1 hall t hm)

end Go.Proofs.YtcjjckokaiobcaaDoor.coefTells
namespace Go.Proofs.YtcjjckokaiobcaaDoor
/-- The card. -/
theorem coefTells_holds : Rows.CoefTellsCardSaid :=
  Claim7.holds_tied_plain_at .later [] _ _ _ _ coefTells.said (fun _ h => by cases h) (by kernel_rfl) (fun _ h => by cases h) coefTells_row_tie rfl ⟨rfl, rfl⟩ (by kernel_rfl) rfl coefTells.plain (by kernel_rfl)

end Go.Proofs.YtcjjckokaiobcaaDoor
