/- CoefWhole answers true for every method number, and leaves its argument as it was: the card; the tables as the program's text lays them. -/
import Derived.Test.YtcjjckokaiobcaaDoorZz12
import Derived.Deep.DeepWitnessRowRef
import Derived.Test.YtcjjckokaiobcaaDoorW6
namespace Go.Proofs.YtcjjckokaiobcaaDoor.coefWhole
open Go.ChangeShapes Go.WideShapes Go.ChangeAt Go.ChangeMaps Go.RowKit Go.Proofs.YtcjjckokaiobcaaDoor

set_option maxRecDepth 100000 in
/-- WHAT THE WALK GIVES. -/
theorem contract (H : Type) (enc : TypeId × Value → H) (W : World) (base : Nat) (args : Array Value) (ds gs : List (DataW H)) (before : List MemPlace)
    (hval0 : ∀ (j : Nat) t v, Tryd.f4.params[j]? = some t → args[j]? = some v → Value.okWide Tryd.prog W .any base t v)
    (hW : DataW.Whole enc Tryd.prog Tryd.f4.params.toList Rows.coefWholeSpec.vars false W args.toList ds gs before) (hL : laidMetH Tryd.prog Rows.coefWholeRow.laid W) :
    Calls Tryd.prog 4 args W fun e W' => ∃ v, e = .returned v ∧ Rows.coefWholeSpec.post enc Tryd.prog Tryd.f4 false true false false W args v W' := by
  have hval : ∀ (j : Nat) t v, Tryd.f4.params[j]? = some t → args[j]? = some v → Value.okWide Tryd.prog W .any base t v := hval0
  have hW' := hW
  obtain ⟨p, q, hA0, hV, hpq, hfz, hnd⟩ := hW
  have hA : DataW.TrodAll enc Tryd.prog W 0 (fun _ => true) true Tryd.f4.params.toList args.toList ds p := hA0
  rw [Tryd.params4] at hA hval
  obtain ⟨v0, a0, d0, b0, p0, q0, hargs0, hds0, hps0, h0, r0⟩ := trodAll_cons hA
  obtain ⟨ha, hd, hp⟩ := trodAll_nil r0
  subst ha
  subst hd
  subst hp
  have hargs : args = #[v0] := by cases args; simp_all
  subst hargs
  subst hds0
  obtain ⟨rfl, rfl⟩ := trodVars_none hV
  obtain ⟨x0, w0, rfl⟩ := open_i (hval 0 3 v0 rfl rfl) h0
  clear hA0 hval0
  simp only [List.append_nil] at hpq hW'
  have walk : Calls Tryd.prog 4 _ W (fun e W' => e = .returned (.bool true) ∧ Below W.heap.size W W') := (whole_ok x0 W (gl_of_laid hL)).mono fun e W' h => ⟨h.1, h.2⟩
  refine walk.mono fun e W' ⟨he, hB⟩ => ?_
  subst he
  exact ⟨_, rfl, post_of_below (pa := p) (pv := []) hW' (fun _ _ _ => trodAll_mk1 (shut_bool Tryd.und4 _))
    (fun sp hs => args_again (by decide +kernel) hA hB (fun q hq => hW'.lt q (by rw [hpq]; exact hq)) (fun q hq => hs q (by rw [hpq]; exact hq))) (fun _ _ => rfl) (by rw [List.append_nil]; exact hpq)
    hB (ok_one (by kernel_rfl) rfl (okWide_bool_mk Tryd.und4 _))⟩

/-- A WORLD FOR THE WITNESS: the listed limits laid. -/
noncomputable def laidWorld (os : Os) : World := World.laidAll Tryd.prog os Rows.coefWholeRow.laid
theorem laid_met (os : Os) : laidMet Tryd.prog Rows.coefWholeRow.laid ((laidWorld os).forCall (fun _ _ => 0) ⟨#[], #[.int .i64 0], []⟩).memory :=
  laidMet_laidAll _ (by kernel_rfl) (by kernel_rfl)
theorem reads (os : Os) {H : Type} (enc : TypeId × Value → H) : ∃ places, DataW.whole enc Tryd.prog ((laidWorld os).forCall (fun _ _ => 0) ⟨#[], #[.int .i64 0], []⟩).memory Tryd.f4.params.toList Rows.coefWholeSpec.vars false #[Value.int .i64 0].toList 8 = some ([.lit (.int .i64 0)], [], places) :=
  ⟨[], by kernel_rfl⟩

set_option maxRecDepth 100000 in
theorem lifted (os : Os) (started : os.Started) (H : Type) (enc : TypeId × Value → H) (F : Stop.Interp) :
    ReturnsInHanded {} Tryd.checked os 4 .any ((OpenSpec.ofChange Rows.coefWholeSpec).preRow enc Tryd.prog Tryd.f4 Rows.coefWholeRow.domain false Rows.coefWholeRow.laid) (((OpenSpec.ofChange Rows.coefWholeSpec).at F).post enc Tryd.prog Tryd.f4 false true false false) := by
  obtain ⟨places, hx⟩ := reads os enc
  refine returnsInHanded_of_row (C := Tryd.checked) (s := OpenSpec.ofChange Rows.coefWholeSpec) Tryd.own started (by kernel_rfl) Tryd.func4
    (witness_row_atRef (enc := enc) (C := Tryd.checked) false (laidWorld os) #[.int .i64 0] rfl (by kernel_rfl) (by kernel_rfl) (by kernel_rfl)
      (OpenSpec.preRow_of_cond 8 hx (by kernel_rfl) (fun k hk => by cases hk) (by kernel_rfl) (laid_met os))) ?_
  intro W base args ds gs before hval hW _ _ _ hL _ _
  exact contract H enc W base args ds gs before hval hW hL

theorem said : Rows.CoefWholeSaid :=
  OpenClaim.holds_of_cond 4 Tryd.f4 rfl rfl rfl rfl rfl rfl rfl ⟨rfl, rfl, rfl, rfl, rfl⟩ rfl rfl rfl rfl rfl (by kernel_rfl) Tryd.func4 (by kernel_rfl)
    (of_decide_eq_true (by kernel_rfl)) (by unfold Func.isWrapper; first | (rw [if_pos (by decide +kernel)]; kernel_rfl) | (rw [if_neg (by decide +kernel)]; exact ⟨rfl, rfl⟩))
    (fun os started H enc _ F => by rw [OpenClaim.pre_eq_preRow]; exact lifted os started H enc F)

/-- No parameter wants a stand-in. -/
theorem plain (f : FuncId) (fn : Func) (hf : Tryd.pinned.checked.prog.funcNamed "gyre/gyrelaw14.CoefWhole" = some f) (hfn : Tryd.pinned.checked.prog.funcs[f]? = some fn) :
    false = Tryd.pinned.checked.prog.looks [] ∧ ∀ (j : Nat) t, fn.params[j]? = some t → Tryd.pinned.checked.prog.wantsStandIn t = false := by
  obtain rfl : f = 4 := Option.some.inj ((show Tryd.prog.funcNamed "gyre/gyrelaw14.CoefWhole" = some 4 by kernel_rfl).symm.trans hf) |>.symm
  obtain rfl : fn = Tryd.f4 := (Option.some.inj (Tryd.func4.symm.trans hfn)).symm
  refine ⟨by kernel_rfl, fun j t ht => ?_⟩
  rw [Tryd.params4] at ht
  have hm : t ∈ [3] := by simpa using Array.mem_of_getElem? ht
  have hall : ([3].all fun u => !Tryd.prog.wantsStandIn u) = true := by kernel_rfl
  exact (show Tryd.prog.wantsStandIn t = false by simpa using List.all_eq_true.1 hall t hm)

end Go.Proofs.YtcjjckokaiobcaaDoor.coefWhole
namespace Go.Proofs.YtcjjckokaiobcaaDoor
/-- The card. -/
theorem coefWhole_holds : Rows.CoefWholeCardSaid :=
  Claim7.holds_tied_plain_at .later [] _ _ _ _ coefWhole.said (fun _ h => by cases h) (by kernel_rfl) (fun _ h => by cases h) coefWhole_row_tie rfl ⟨rfl, rfl⟩ (by kernel_rfl) rfl coefWhole.plain (by kernel_rfl)

end Go.Proofs.YtcjjckokaiobcaaDoor
