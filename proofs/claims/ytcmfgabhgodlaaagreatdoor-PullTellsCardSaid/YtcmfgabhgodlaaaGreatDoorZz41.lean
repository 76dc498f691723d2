/- Texts of the seat, joined. -/
import Derived.Test.YtcmfgabhgodlaaaGreatDoorZz7
import Derived.Test.YtcmfgabhgodlaaaGreatDoorZz13
import Derived.Test.YtcmfgabhgodlaaaGreatDoorCards
import Derived.Test.YtcmfgabhgodlaaaGreatDoorTie
import Derived.ProofKit
import Derived.Laws.IdiomArrays
import Derived.OpenShut
import Derived.LaidMore
import Derived.Lay
import Derived.Below
import Derived.ChangeSame
import Derived.Deep.DeepHandedRow
import Derived.Lib.LaidTab
import Derived.Lib.LaidU8
/- Points, ints and limits among what a law reads. -/
namespace Go.Proofs.YtcmfgabhgodlaaaGreatDoor
open Go Go.ChangeShapes Go.WideShapes Go.ChangeAt Go.ChangeMaps Go.RowKit Go.Shelf Go.Proofs
set_option linter.unusedSimpArgs false
set_option linter.unusedVariables false

theorem Tryz.own : ownKnob Tryz.prog.godebug = none := by kernel_rfl
theorem Tryz.cells3 : Tryz.prog.cellsOf 3 = 1 := by kernel_rfl
theorem Tryz.cells23 : Tryz.prog.cellsOf 23 = 3 := by kernel_rfl
theorem list3 {α : Type} (l : List α) (h : (⟨l⟩ : Array α).size = 3) : ∃ a b c, l = [a, b, c] := by
  match l, h with
  | [a, b, c], _ => exact ⟨a, b, c, rfl⟩
theorem wf_i64 {x : Int} (h : (Lit.int .i64 x).wf = true) : isI x := by
  have h1 : IntKind.i64.min = -9223372036854775808 := rfl
  have h2 : IntKind.i64.max = 9223372036854775807 := rfl
  simp [Lit.wf, h1, h2] at h
  unfold isI
  omega
theorem i64_wf {x : Int} (h : isI x) : (Lit.int .i64 x).wf = true := by
  have h1 : IntKind.i64.min = -9223372036854775808 := rfl
  have h2 : IntKind.i64.max = 9223372036854775807 := rfl
  unfold isI at h
  simp [Lit.wf, h1, h2]
  omega
def DP {H : Type} (x y z : Int) : DataW H := .agg [.lit (.int .i64 x), .lit (.int .i64 y), .lit (.int .i64 z)]
set_option maxRecDepth 100000 in
theorem open_point {H : Type} {enc : TypeId × Value → H} {W : World} {base : Nat} {v : Value} {d : DataW H} {p : List MemPlace}
    (hv : Value.okWide Tryz.prog W .any base 23 v) (h : DataW.Trod enc Tryz.prog W 0 (fun _ => true) true 23 v d p) :
    ∃ x y z : Int, (isI x ∧ isI y ∧ isI z) ∧ v = vc x y z ∧ d = DP x y z ∧ p = [] := by
  obtain ⟨cs, rfl, hsz, _⟩ : ∃ cs, v = .agg cs ∧ cs.size = Tryz.prog.cellsOf 23 ∧ Row.okWide Tryz.prog W .any base 23 cs := by
    simpa [Value.okWide, Tryz.underlying23] using hv
  rw [Tryz.cells23] at hsz
  obtain ⟨l⟩ := cs
  obtain ⟨c0, c1, c2, rfl⟩ := list3 l hsz
  obtain ⟨fuel, hf⟩ := h
  obtain ⟨y0, y1, y2, m, hx, hy0, hy1, hy2⟩ := trod_array3 Tryz.underlying23 Tryz.cells3 hf
  obtain ⟨x0, e0, rfl, w0⟩ := DataW.trod_int Tryz.underlying3 hy0
  obtain ⟨x1, e1, rfl, w1⟩ := DataW.trod_int Tryz.underlying3 hy1
  obtain ⟨x2, e2, rfl, w2⟩ := DataW.trod_int Tryz.underlying3 hy2
  simp at e0 e1 e2
  subst e0 e1 e2
  simp only [Prod.mk.injEq] at hx
  obtain ⟨rfl, rfl⟩ := hx
  exact ⟨x0, x1, x2, ⟨wf_i64 w0, wf_i64 w1, wf_i64 w2⟩, rfl, rfl, rfl⟩
theorem shut_point {H : Type} {enc : TypeId × Value → H} {W : World} {base : Nat} {spare : Nat → Bool} {held : Bool} {x y z : Int} (ha : isI x ∧ isI y ∧ isI z) :
    DataW.Trod enc Tryz.prog W base spare held 23 (vc x y z) (DP x y z) [] := by
  have w0 := i64_wf ha.1
  have w1 := i64_wf ha.2.1
  have w2 := i64_wf ha.2.2
  exact ⟨2, by simp [vc, DP, DataW.trod, Value.cells, Tryz.underlying23, Tryz.underlying3, Tryz.cells23, Tryz.cells3, w0, w1, w2, show List.range 3 = [0, 1, 2] from rfl]⟩

/-! ### The limits, as the row's list gives them -/
theorem mapM_some {α β : Type} {f : α → Option β} {a : α} {l : List α} {r : List β} (h : (a :: l).mapM f = some r) : ∃ b s, f a = some b ∧ l.mapM f = some s ∧ r = b :: s := by
  rw [List.mapM_cons] at h
  simp only [Option.pure_def, Option.bind_eq_bind, Option.bind_eq_some_iff] at h
  obtain ⟨b, hb, s, hs, hr⟩ := h
  exact ⟨b, s, hb, hs, by simpa using hr.symm⟩
theorem list12 {α : Type} (l : List α) (h : l.length = 12) : ∃ a b c d e f g h i j k m, l = [a, b, c, d, e, f, g, h, i, j, k, m] := by
  match l, h with
  | [a, b, c, d, e, f, g, h, i, j, k, m], _ => exact ⟨a, b, c, d, e, f, g, h, i, j, k, m, rfl⟩
theorem Tryz.cells66 : Tryz.prog.cellsOf 66 = 2 := by kernel_rfl
theorem Tryz.cells67 : Tryz.prog.cellsOf 67 = 12 := by kernel_rfl
theorem Tryz.und67 : Tryz.prog.underlying 67 = some (.array 6 66) := by kernel_rfl
def limF0 : Field := { name := "least", type := 3, offset := 0, embedded := false, tag := "", pkgPath := "gyre/pull", byteOffset := 0 }
def limF1 : Field := { name := "most", type := 3, offset := 1, embedded := false, tag := "", pkgPath := "gyre/pull", byteOffset := 8 }
theorem Tryz.und66 : Tryz.prog.underlying 66 = some (.struct #[limF0, limF1]) := by kernel_rfl
theorem lim_one {W : World} {fuel : Nat} {a b : Value} {x : DataW Unit × List MemPlace} (h : DataW.trod (fun _ => ()) Tryz.prog W 0 (fun _ => true) false fuel 66 [a, b] = some x) :
    ∃ p q : Int, a = .int .i64 p ∧ b = .int .i64 q ∧ x.1 = .agg [.lit (.int .i64 p), .lit (.int .i64 q)] := by
  obtain ⟨y0, y1, n, rfl, _, h0, h1⟩ := trod_struct2 Tryz.und66 h
  rw [show limF0.type = 3 from rfl, show limF0.offset = 0 from rfl, Tryz.cells3] at h0
  rw [show limF1.type = 3 from rfl, show limF1.offset = 1 from rfl, Tryz.cells3] at h1
  obtain ⟨p, e0, rfl, _⟩ := DataW.trod_int Tryz.underlying3 h0
  obtain ⟨q, e1, rfl, _⟩ := DataW.trod_int Tryz.underlying3 h1
  simp at e0 e1
  exact ⟨p, q, e0, e1, rfl⟩
theorem lim_cells {W : World} {cs : List Value} {fuel : Nat} {p : List MemPlace} (h : DataW.trod (fun _ => ()) Tryz.prog W 0 (fun _ => true) false fuel 67 cs = some (Rows.laid_gyre_pull_limits, p)) : cs = glTab.head!.2.toList := by
  cases fuel with
  | zero => cases h
  | succ k9 =>
    unfold DataW.trod at h
    simp only [Tryz.und67, Tryz.cells67, Tryz.cells66] at h
    split at h
    case isFalse => cases h
    rename_i hl
    obtain ⟨c0, c1, c2, c3, c4, c5, c6, c7, c8, c9, c10, c11, rfl⟩ := list12 cs hl
    rw [Option.map_eq_some_iff] at h
    obtain ⟨r, hr, he⟩ := h
    rw [show List.range 6 = [0, 1, 2, 3, 4, 5] from rfl] at hr
    obtain ⟨x0, r0, h0, k0, rfl⟩ := mapM_some hr
    obtain ⟨x1, r1, h1, k1, rfl⟩ := mapM_some k0
    obtain ⟨x2, r2, h2, k2, rfl⟩ := mapM_some k1
    obtain ⟨x3, r3, h3, k3, rfl⟩ := mapM_some k2
    obtain ⟨x4, r4, h4, k4, rfl⟩ := mapM_some k3
    obtain ⟨x5, r5, h5, k5, rfl⟩ := mapM_some k4
    obtain ⟨p0, q0, rfl, rfl, e0⟩ := lim_one h0
    obtain ⟨p1, q1, rfl, rfl, e1⟩ := lim_one h1
    obtain ⟨p2, q2, rfl, rfl, e2⟩ := lim_one h2
    obtain ⟨p3, q3, rfl, rfl, e3⟩ := lim_one h3
    obtain ⟨p4, q4, rfl, rfl, e4⟩ := lim_one h4
    obtain ⟨p5, q5, rfl, rfl, e5⟩ := lim_one h5
    simp only [Prod.mk.injEq, Rows.laid_gyre_pull_limits, List.map_cons, e0, e1, e2, e3, e4, e5, DataW.agg.injEq, List.cons.injEq, DataW.lit.injEq, Lit.int.injEq, and_true, true_and] at he
    obtain ⟨⟨⟨rfl, rfl⟩, ⟨rfl, rfl⟩, ⟨rfl, rfl⟩, ⟨rfl, rfl⟩, ⟨rfl, rfl⟩, ⟨rfl, rfl⟩, _⟩, _⟩ := he
    rfl
theorem gl_of_laid {W : World} (h : laidMetH Tryz.prog [("gyre/pull.limits", Rows.laid_gyre_pull_limits)] W) : GL W := by
  rw [MakeChecks.laidMetH_plain _ _ _ (by kernel_rfl)] at h
  obtain ⟨g, t', cs, fuel, p, hg, ht, hvar, hd⟩ := Lib.laidMet.reads h (n := "gyre/pull.limits") (d := Rows.laid_gyre_pull_limits) (by simp)
  obtain rfl := Option.some.inj ((show Tryz.prog.globalNamed "gyre/pull.limits" = some 0 by kernel_rfl).symm.trans hg)
  obtain rfl := Option.some.inj ((show (Tryz.prog.globals[0]?).map (·.type) = some 67 by kernel_rfl).symm.trans ht)
  have hc := lim_cells hd
  unfold World.var? at hvar
  rw [hg, Option.bind_some] at hvar
  intro e he
  obtain rfl : e = glTab.head! := List.mem_singleton.1 he
  show ∃ T fr, W.heap[0]? = _
  split at hvar
  · rename_i cs' T fr hh
    obtain rfl := Option.some.inj hvar
    obtain ⟨l⟩ := cs'
    rw [hh]
    exact ⟨T, fr, by rw [show l = glTab.head!.2.toList from hc]⟩
  · cases hvar

section
variable {H : Type} {enc : TypeId × Value → H} {P : Program}
/-- The row's last step where the call laid new memory alone. -/
theorem post_of_below {f : Func} {s : ChangeSpec} {apart fresh handsOn again : Bool} {W W' : World} {args : Array Value} {v : Value} {ds gs : List (DataW H)} {before pa pv : List MemPlace}
    (hW : DataW.Whole enc P f.params.toList s.vars apart W args.toList ds gs before)
    (hres : ∀ (b : Nat) (sp : Nat → Bool) (hd : Bool), DataW.TrodAll enc P W' b sp hd f.resultTypes.toList (v.resultList f.resultTypes.size) (s.fn H (ds ++ gs)).results [])
    (hargs : ∀ sp : Nat → Bool, (∀ p ∈ before, sp p.block = true) → DataW.TrodAll enc P W' 0 sp true f.params.toList args.toList (s.fn H (ds ++ gs)).args pa)
    (hvars : ∀ sp : Nat → Bool, (∀ p ∈ before, sp p.block = true) → DataW.TrodVars enc P W' sp s.vars (s.fn H (ds ++ gs)).vars pv)
    (hps : before = pa ++ pv) (hb : Below W.heap.size W W')
    (hok : ∀ (j : Nat) (t : TypeId) (r : Value), f.resultTypes[j]? = some t → (v.resultList f.resultTypes.size)[j]? = some r → Value.okWide P W' .any 0 t r) :
    s.post enc P f apart fresh handsOn again W args v W' := by
  have hlt : ∀ p ∈ before, p.block < W.heap.size := fun p hp => hW.lt p hp
  have hold : ∀ p ∈ before, (fun b => decide (b < W.heap.size)) p.block = true := fun p hp => by simpa using hlt p hp
  refine ⟨ds, gs, before, [], pa, pv, hW, hres _ _ _, hargs _ hold, hvars _ hold, World.keptBut_mono (fun p hp => ⟨hp, ?_⟩) (hb.frame (· ∈ before)), fun _ => ?_⟩
  · rw [hps, List.mem_append] at hp
    exact Or.inr hp
  · obtain ⟨_, _, _, _, _, hz, hn⟩ := hW
    refine ⟨hok, _, _, ([] ++ pa) ++ pv, ⟨[] ++ pa, pv, trodAll_append (hargs _ (fun _ _ => rfl)) (hres _ _ _), hvars _ (fun _ _ => rfl), rfl, ?_, ?_⟩, ?_⟩
    · intro b off hp
      have hin : MemPlace.cell b off ∈ before := by rw [hps]; simpa using hp
      rw [hb.frozen (hlt _ hin)]
      exact hz b off hin
    · intro ha
      have := hn ha
      rw [hps] at this
      simpa using this
    · intro p hp _
      rw [hps]
      simpa using hp
end

end Go.Proofs.YtcmfgabhgodlaaaGreatDoor
