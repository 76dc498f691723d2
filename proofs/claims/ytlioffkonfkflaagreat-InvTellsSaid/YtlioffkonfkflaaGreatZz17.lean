/- Texts of the seat, joined. -/
import Derived.Test.YtlioffkonfkflaaGreatZz3
import Derived.Test.YtlioffkonfkflaaGreatZz14
import Derived.Test.YtlioffkonfkflaaGreatZz16
/- Package inv: products, whole numbers, sizes; what outward is made of. -/
namespace Go.Proofs.YtlioffkonfkflaaGreat
open Go Go.RowKit
set_option linter.unusedSimpArgs false
set_option linter.unusedVariables false

section
variable {P : Program}
/-- Code from a state on, computed, with what waits for the end. -/
def runSD (P : Program) (b : Code) (t : List Value) (D : List VDef) (H : Hp) : Option (Ex × List Value × List VDef × Hp × List Prop) :=
  match vcode P (vfun P (smC P) 300 19) none 300 b t D H (ctl2 4000 [] [] []) with
  | some (ex, t', D', H', c') => some (ex, t', D', H', c'.obl.reverse)
  | _ => none
theorem runSD_step (hmix : P.follows .mixedOrders = true) {b : Code} {t t' : List Value} {D D' : List VDef} {H H' : Hp} {ex : Ex} {obl : List Prop}
    (h : runSD P b t D H = some (ex, t', D', H', obl)) (ho : AllP obl) : StepV P b t D H ex t' D' H' := by
  unfold runSD at h
  split at h
  case h_2 => cases h
  rename_i ex1 t1 D1 H1 c1 hv
  simp only [Option.some.injEq, Prod.mk.injEq] at h
  obtain ⟨rfl, rfl, rfl, rfl, rfl⟩ := h
  exact stepV_of (vfun_ok (smC_ok P) hmix 300 19) hmix hv ((allP_reverse _).1 ho)
/-- How a function is left. -/
def runL (P : Program) (fc : Func) (t : List Value) (D : List VDef) (u : FrameMode) (H : Hp) : Option (Res × Hp × List Prop) :=
  match vleave P noSm 1 fc t D u H (ctl0 []) with
  | some (r, H', c') => some (r, H', c'.obl)
  | none => none
theorem callsV_stepL {f : Nat} {fc : Func} {body : Code} (hf : P.funcs[f]? = some fc) (hb : fc.body = some body) {args : Array Value} {t1 : List Value} {D1 : List VDef} {H H1 G H' : Hp} {ex : Ex} {u : FrameMode} {r : Res}
    (hmix : P.follows .mixedOrders = true) (h : StepF P f body (frame0 fc args) [] H ex t1 D1 H1) (hu : modeOf ex = some u) (hD : D1 ≠ []) (hv : runL P fc t1 D1 u H1 = some (r, H', [])) (ha : wfA (domB H) args = true)
    (hs : Sub G H') (hc : closedH G = true) : CallsV P (.func f) args H r G := by
  unfold runL at hv
  split at hv
  case h_2 => cases hv
  rename_i r1 H1 c1 hl
  simp only [Option.some.injEq, Prod.mk.injEq] at hv
  obtain ⟨rfl, rfl, ho⟩ := hv
  exact callsV_stepF hf hb hmix h hu hD hl (by rw [ho]; trivial) ha hs hc
theorem sub_tail {e : Nat × Obj} {G H : Hp} (h : Sub G H) (hn : domB G e.1 = false) : Sub G (e :: H) := by
  intro i o ho
  obtain ⟨k, x⟩ := e
  simp only [look]
  rw [if_neg (fun e => by rw [← e] at ho; simp only at hn; rw [domB_of ho] at hn; cases hn)]
  exact h i o ho
end

theorem prod_raw (x y : Int) (a b c : Nat) (q : Bool) : runB Tryz.prog 103 #[ii x, ii y] [] [] [(78, rt (wv a)), (78, rt (wv b)), (123, rt (tp [wv c, bb q]))] [] =
    some (rt (wv c), [], [PureX Tryz.prog 78 #[ii x] (rt (wv a)), PureX Tryz.prog 78 #[ii y] (rt (wv b)), PureX Tryz.prog 123 #[wv a, wv b] (rt (tp [wv c, bb q]))]) := by kernel_rfl
theorem prod_v {x y : Int} (hx : isI x) (hy : isI y) : PureX Tryz.prog 103 #[ii x, ii y] (rt (wz (x * y))) :=
  runB_pure mix (prod_raw x y (nz x) (nz y) (nz (x * y)) _) ⟨of_z hx, of_z hy, mul_z (isI_in hx) (isI_in hy), trivial⟩ rfl rfl
/-- Who leaves by the bad interval. -/
def pbad : Res := .pan [{ v := .iface 23 (iv 0 0 true), recovered := false }]
theorem whole_t (a : Nat) (m : Int) : runB Tryz.prog 101 #[wv a, ii 0] [] [] [(138, rt (tp [ii m, bb true]))] [] = some (rt (ii m), [], [PureX Tryz.prog 138 #[wv a] (rt (tp [ii m, bb true]))]) := by kernel_rfl
theorem whole_f (a : Nat) (m : Int) : runB Tryz.prog 101 #[wv a, ii 0] [] [] [(138, rt (tp [ii m, bb false]))] [] = some (pbad, [], [PureX Tryz.prog 138 #[wv a] (rt (tp [ii m, bb false]))]) := by kernel_rfl
theorem whole_e (a : Nat) (m e : Int) (q : Bool) : runB Tryz.prog 101 #[wv a, ii e] [] [t] [(138, rt (tp [ii m, bb q]))] [] = some (pbad, [], [PureX Tryz.prog 138 #[wv a] (rt (tp [ii m, bb q])), (e != 0) = true]) := by kernel_rfl
theorem whole_ok {x : Int} (h : inR x) (hi : isI x) : PureX Tryz.prog 101 #[wz x, ii 0] (rt (ii x)) := by
  have k := int_z h
  rw [decide_eq_true hi, if_pos hi] at k
  exact runB_pure mix (whole_t (nz x) x) ⟨k, trivial⟩ rfl rfl
theorem whole_no {x : Int} (h : inR x) (hi : ¬ isI x) : PureX Tryz.prog 101 #[wz x, ii 0] pbad := by
  have k := int_z h
  rw [decide_eq_false hi, if_neg hi] at k
  exact runB_pure mix (whole_f (nz x) 0) ⟨k, trivial⟩ rfl rfl
theorem whole_err {x e : Int} (h : inR x) (he : e ≠ 0) : PureX Tryz.prog 101 #[wz x, ii e] pbad :=
  runB_pure mix (whole_e (nz x) _ e _) ⟨int_z h, by simpa using he, trivial⟩ rfl rfl

/-! ### outward -/
noncomputable def A80 : Code := ((Tryz.f91.body.bind rfc).map (·.1)).getD .skip
noncomputable def B80 : Code := ((Tryz.f91.body.bind rfc).map (·.2)).getD .skip
noncomputable def R80a : Code := match Tryz.f91.body with | some (.seq r _) => r | _ => .skip
noncomputable def R80b : Code := match Tryz.f91.body with | some (.seq _ (.seq r _)) => r | _ => .skip
noncomputable def R80c : Code := match Tryz.f91.body with | some (.seq _ (.seq _ (.seq (.seq r _) _))) => r | _ => .skip
noncomputable def R80d : Code := match Tryz.f91.body with | some (.seq _ (.seq _ (.seq _ r))) => r | _ => .skip
theorem body80 : Tryz.f91.body = some (.seq R80a (.seq R80b (.seq (.seq R80c (.block 0 (.rangeFunc (.tmp 6) #[7, 8] A80 B80))) R80d))) := by kernel_rfl
def T80f (g : Value) : List Value := [g, undef, undef, undef, undef, undef, undef, undef, undef, undef, undef, undef, undef, undef, undef, undef, undef, undef, undef, undef, undef, undef, undef, undef, undef, undef, undef]
def T80a (g : Value) : List Value := [g, undef, pt 3000, pt 3001, undef, undef, undef, undef, undef, undef, undef, undef, undef, undef, undef, undef, undef, undef, undef, undef, undef, undef, undef, undef, undef, undef, undef]
def T80 (g : Value) : List Value := [g, undef, pt 3000, pt 3001, undef, undef, g, undef, undef, undef, undef, undef, undef, undef, undef, undef, undef, undef, undef, undef, undef, undef, undef, undef, undef, undef, undef]
abbrev oi (x : Int) : Obj := .cells ⟨[.int .i64 x]⟩ 3 (0, 0)
noncomputable def L80 (g : Value) (st : LoopState) : Obj := .loop { state := st, pending := none, fn := 91, tmps := (T80 g).toArray, params := #[7, 8], assign := A80, body := B80, defers := 3002 }
/-- The blocks of outward while it goes round: the ends as they stand, the iterator's own. -/
noncomputable def HO (g : Value) (lo hi : Int) (G : Hp) (st : LoopState) : Hp := (3001, oi hi) :: (3000, oi lo) :: (G ++ [(3002, .deferred (some [])), (3003, L80 g st)])
abbrev mxN : Int := 9223372036854775807
abbrev mnN : Int := -9223372036854775808
abbrev yv3 : Value := .func (.yield 3003) #[] #[]

end Go.Proofs.YtlioffkonfkflaaGreat

/- outward: over the quotients of two intervals, over the squares of two numbers. -/
namespace Go.Proofs.YtlioffkonfkflaaGreat
open Go Go.RowKit
set_option linter.unusedSimpArgs false
set_option linter.unusedVariables false

theorem domB_keys : ∀ {G H : Hp}, G.map (·.1) = H.map (·.1) → ∀ i, domB G i = domB H i
  | [], [], _, _ => rfl
  | [], _ :: _, h, _ => by cases h
  | _ :: _, [], h, _ => by cases h
  | (a, x) :: G, (b, y) :: H, h, i => by
    simp only [List.map_cons, List.cons.injEq] at h
    obtain ⟨rfl, h2⟩ := h
    have := domB_keys h2 i
    unfold domB at this ⊢
    simp only [look]
    split
    · rfl
    · exact this
theorem sub_app {G R : Hp} : Sub G (G ++ R) := fun i o h => by rw [look_append, h]

abbrev T80e : Ex := .ret
def T80z (g : Value) (lo hi : Int) : List Value := [g, undef, pt 3000, pt 3001, undef, undef, g, undef, undef, undef, undef, undef, undef, undef, undef, undef, undef, undef, undef, undef, undef, undef, undef, undef, undef, ii lo, ii hi]
abbrev GQ (l h : Int) (p : Bool) (m k : Int) (q : Bool) : Hp := [(1, oiv [(m, k, q)]), (0, oiv [(l, h, p)])]
abbrev gQ : Value := (.func (.func 136) #[] #[pt 0, pt 1])
theorem oQ_a (l h : Int) (p : Bool) (m k : Int) (q : Bool) : runS Tryz.prog R80a (T80f gQ) (GQ l h p m k q) [] [] [] = some (.normal, T80a gQ, (3001, oi 0) :: (3000, oi 0) :: (GQ l h p m k q), []) := by kernel_rfl
theorem oQ_b (l h : Int) (p : Bool) (m k : Int) (q : Bool) : runS Tryz.prog R80b (T80a gQ) ((3001, oi 0) :: (3000, oi 0) :: (GQ l h p m k q)) [] [] [] = some (.normal, T80a gQ, (3001, oi mnN) :: (3000, oi mxN) :: (GQ l h p m k q), []) := by kernel_rfl
theorem oQ_c (l h : Int) (p : Bool) (m k : Int) (q : Bool) : runS Tryz.prog R80c (T80a gQ) ((3001, oi mnN) :: (3000, oi mxN) :: (GQ l h p m k q)) [] [] [] = some (.normal, T80 gQ, (3001, oi mnN) :: (3000, oi mxN) :: (GQ l h p m k q), []) := by kernel_rfl
theorem oQ_d (l h : Int) (p : Bool) (m k : Int) (q : Bool) (lo hi : Int) : runSD Tryz.prog R80d (T80 gQ) [.mark 3002] (HO gQ (lo) (hi) (GQ l h p m k q) .exhausted) = some (T80e, T80z gQ lo hi, [.mark 3002], (HO gQ (lo) (hi) (GQ l h p m k q) .exhausted), []) := by kernel_rfl
theorem oQ_l (l h : Int) (p : Bool) (m k : Int) (q : Bool) (lo hi : Int) : runL Tryz.prog Tryz.f91 (T80z gQ lo hi) [.mark 3002] .returning (HO gQ (lo) (hi) (GQ l h p m k q) .exhausted) = some (rt (tp [ii lo, ii hi]), ((3001, oi (hi)) :: (3000, oi (lo)) :: ((GQ l h p m k q) ++ [(3002, .deferred none), (3003, L80 gQ .exhausted)])), []) := by kernel_rfl
theorem oQ_p (l h : Int) (p : Bool) (m k : Int) (q : Bool) (lo hi : Int) (ch : List PanicEntry) : runL Tryz.prog Tryz.f91 (T80 gQ) [.mark 3002] (.panicking ch) (HO gQ (lo) (hi) (GQ l h p m k q) .busy) = some (.pan ch, ((3001, oi (hi)) :: (3000, oi (lo)) :: ((GQ l h p m k q) ++ [(3002, .deferred none), (3003, L80 gQ .busy)])), []) := by kernel_rfl
theorem iQ_ok (l h : Int) (p : Bool) (m k : Int) (q : Bool) (n1 d1 f1 c1 : Nat) (x1 y1 : Int) (n2 d2 f2 c2 : Nat) (x2 y2 : Int) (n3 d3 f3 c3 : Nat) (x3 y3 : Int) (n4 d4 f4 c4 : Nat) (x4 y4 : Int) : runB Tryz.prog 136 #[yv3, pt 0, pt 1] (HO gQ (mxN) (mnN) (GQ l h p m k q) .ready) [] [(103, rt (wv n1)), (78, rt (wv d1)), (116, rt (tp [wv f1, ii 0])), (101, rt (ii x1)), (119, rt (tp [wv c1, ii 0])), (101, rt (ii y1)), (103, rt (wv n2)), (78, rt (wv d2)), (116, rt (tp [wv f2, ii 0])), (101, rt (ii x2)), (119, rt (tp [wv c2, ii 0])), (101, rt (ii y2)), (103, rt (wv n3)), (78, rt (wv d3)), (116, rt (tp [wv f3, ii 0])), (101, rt (ii x3)), (119, rt (tp [wv c3, ii 0])), (101, rt (ii y3)), (103, rt (wv n4)), (78, rt (wv d4)), (116, rt (tp [wv f4, ii 0])), (101, rt (ii x4)), (119, rt (tp [wv c4, ii 0])), (101, rt (ii y4))] [] =
    some (rt undef, (HO gQ (mnI (mnI (mnI (mnI (mxN) x1) x2) x3) x4) (mxI (mxI (mxI (mxI (mnN) y1) y2) y3) y4) (GQ l h p m k q) .ready), [PureX Tryz.prog 103 #[ii l, ii 1073741824] (rt (wv n1)), PureX Tryz.prog 78 #[ii m] (rt (wv d1)), PureX Tryz.prog 116 #[wv n1, wv d1] (rt (tp [wv f1, ii 0])), PureX Tryz.prog 101 #[wv f1, ii 0] (rt (ii x1)), PureX Tryz.prog 119 #[wv n1, wv d1] (rt (tp [wv c1, ii 0])), PureX Tryz.prog 101 #[wv c1, ii 0] (rt (ii y1)), PureX Tryz.prog 103 #[ii l, ii 1073741824] (rt (wv n2)), PureX Tryz.prog 78 #[ii k] (rt (wv d2)), PureX Tryz.prog 116 #[wv n2, wv d2] (rt (tp [wv f2, ii 0])), PureX Tryz.prog 101 #[wv f2, ii 0] (rt (ii x2)), PureX Tryz.prog 119 #[wv n2, wv d2] (rt (tp [wv c2, ii 0])), PureX Tryz.prog 101 #[wv c2, ii 0] (rt (ii y2)), PureX Tryz.prog 103 #[ii h, ii 1073741824] (rt (wv n3)), PureX Tryz.prog 78 #[ii m] (rt (wv d3)), PureX Tryz.prog 116 #[wv n3, wv d3] (rt (tp [wv f3, ii 0])), PureX Tryz.prog 101 #[wv f3, ii 0] (rt (ii x3)), PureX Tryz.prog 119 #[wv n3, wv d3] (rt (tp [wv c3, ii 0])), PureX Tryz.prog 101 #[wv c3, ii 0] (rt (ii y3)), PureX Tryz.prog 103 #[ii h, ii 1073741824] (rt (wv n4)), PureX Tryz.prog 78 #[ii k] (rt (wv d4)), PureX Tryz.prog 116 #[wv n4, wv d4] (rt (tp [wv f4, ii 0])), PureX Tryz.prog 101 #[wv f4, ii 0] (rt (ii x4)), PureX Tryz.prog 119 #[wv n4, wv d4] (rt (tp [wv c4, ii 0])), PureX Tryz.prog 101 #[wv c4, ii 0] (rt (ii y4))]) := by kernel_rfl
theorem iQ_0 (l h : Int) (p : Bool) (m k : Int) (q : Bool) (n1 d1 f1 c1 : Nat) (x1 y1 : Int) (n2 d2 f2 c2 : Nat) (x2 y2 : Int) (n3 d3 f3 c3 : Nat) (x3 y3 : Int) (n4 d4 f4 c4 : Nat) (x4 y4 : Int) : runB Tryz.prog 136 #[yv3, pt 0, pt 1] (HO gQ (mxN) (mnN) (GQ l h p m k q) .ready) [] [(103, rt (wv n1)), (78, rt (wv d1)), (116, rt (tp [wv f1, ii 0])), (101, pbad)] [] =
    some (pbad, (HO gQ (mxN) (mnN) (GQ l h p m k q) .busy), [PureX Tryz.prog 103 #[ii l, ii 1073741824] (rt (wv n1)), PureX Tryz.prog 78 #[ii m] (rt (wv d1)), PureX Tryz.prog 116 #[wv n1, wv d1] (rt (tp [wv f1, ii 0])), PureX Tryz.prog 101 #[wv f1, ii 0] (pbad)]) := by kernel_rfl
theorem iQ_1 (l h : Int) (p : Bool) (m k : Int) (q : Bool) (n1 d1 f1 c1 : Nat) (x1 y1 : Int) (n2 d2 f2 c2 : Nat) (x2 y2 : Int) (n3 d3 f3 c3 : Nat) (x3 y3 : Int) (n4 d4 f4 c4 : Nat) (x4 y4 : Int) : runB Tryz.prog 136 #[yv3, pt 0, pt 1] (HO gQ (mxN) (mnN) (GQ l h p m k q) .ready) [] [(103, rt (wv n1)), (78, rt (wv d1)), (116, rt (tp [wv f1, ii 0])), (101, rt (ii x1)), (119, rt (tp [wv c1, ii 0])), (101, pbad)] [] =
    some (pbad, (HO gQ (mxN) (mnN) (GQ l h p m k q) .busy), [PureX Tryz.prog 103 #[ii l, ii 1073741824] (rt (wv n1)), PureX Tryz.prog 78 #[ii m] (rt (wv d1)), PureX Tryz.prog 116 #[wv n1, wv d1] (rt (tp [wv f1, ii 0])), PureX Tryz.prog 101 #[wv f1, ii 0] (rt (ii x1)), PureX Tryz.prog 119 #[wv n1, wv d1] (rt (tp [wv c1, ii 0])), PureX Tryz.prog 101 #[wv c1, ii 0] (pbad)]) := by kernel_rfl
theorem iQ_2 (l h : Int) (p : Bool) (m k : Int) (q : Bool) (n1 d1 f1 c1 : Nat) (x1 y1 : Int) (n2 d2 f2 c2 : Nat) (x2 y2 : Int) (n3 d3 f3 c3 : Nat) (x3 y3 : Int) (n4 d4 f4 c4 : Nat) (x4 y4 : Int) : runB Tryz.prog 136 #[yv3, pt 0, pt 1] (HO gQ (mxN) (mnN) (GQ l h p m k q) .ready) [] [(103, rt (wv n1)), (78, rt (wv d1)), (116, rt (tp [wv f1, ii 0])), (101, rt (ii x1)), (119, rt (tp [wv c1, ii 0])), (101, rt (ii y1)), (103, rt (wv n2)), (78, rt (wv d2)), (116, rt (tp [wv f2, ii 0])), (101, pbad)] [] =
    some (pbad, (HO gQ (mnI (mxN) x1) (mxI (mnN) y1) (GQ l h p m k q) .busy), [PureX Tryz.prog 103 #[ii l, ii 1073741824] (rt (wv n1)), PureX Tryz.prog 78 #[ii m] (rt (wv d1)), PureX Tryz.prog 116 #[wv n1, wv d1] (rt (tp [wv f1, ii 0])), PureX Tryz.prog 101 #[wv f1, ii 0] (rt (ii x1)), PureX Tryz.prog 119 #[wv n1, wv d1] (rt (tp [wv c1, ii 0])), PureX Tryz.prog 101 #[wv c1, ii 0] (rt (ii y1)), PureX Tryz.prog 103 #[ii l, ii 1073741824] (rt (wv n2)), PureX Tryz.prog 78 #[ii k] (rt (wv d2)), PureX Tryz.prog 116 #[wv n2, wv d2] (rt (tp [wv f2, ii 0])), PureX Tryz.prog 101 #[wv f2, ii 0] (pbad)]) := by kernel_rfl
theorem iQ_3 (l h : Int) (p : Bool) (m k : Int) (q : Bool) (n1 d1 f1 c1 : Nat) (x1 y1 : Int) (n2 d2 f2 c2 : Nat) (x2 y2 : Int) (n3 d3 f3 c3 : Nat) (x3 y3 : Int) (n4 d4 f4 c4 : Nat) (x4 y4 : Int) : runB Tryz.prog 136 #[yv3, pt 0, pt 1] (HO gQ (mxN) (mnN) (GQ l h p m k q) .ready) [] [(103, rt (wv n1)), (78, rt (wv d1)), (116, rt (tp [wv f1, ii 0])), (101, rt (ii x1)), (119, rt (tp [wv c1, ii 0])), (101, rt (ii y1)), (103, rt (wv n2)), (78, rt (wv d2)), (116, rt (tp [wv f2, ii 0])), (101, rt (ii x2)), (119, rt (tp [wv c2, ii 0])), (101, pbad)] [] =
    some (pbad, (HO gQ (mnI (mxN) x1) (mxI (mnN) y1) (GQ l h p m k q) .busy), [PureX Tryz.prog 103 #[ii l, ii 1073741824] (rt (wv n1)), PureX Tryz.prog 78 #[ii m] (rt (wv d1)), PureX Tryz.prog 116 #[wv n1, wv d1] (rt (tp [wv f1, ii 0])), PureX Tryz.prog 101 #[wv f1, ii 0] (rt (ii x1)), PureX Tryz.prog 119 #[wv n1, wv d1] (rt (tp [wv c1, ii 0])), PureX Tryz.prog 101 #[wv c1, ii 0] (rt (ii y1)), PureX Tryz.prog 103 #[ii l, ii 1073741824] (rt (wv n2)), PureX Tryz.prog 78 #[ii k] (rt (wv d2)), PureX Tryz.prog 116 #[wv n2, wv d2] (rt (tp [wv f2, ii 0])), PureX Tryz.prog 101 #[wv f2, ii 0] (rt (ii x2)), PureX Tryz.prog 119 #[wv n2, wv d2] (rt (tp [wv c2, ii 0])), PureX Tryz.prog 101 #[wv c2, ii 0] (pbad)]) := by kernel_rfl
theorem iQ_4 (l h : Int) (p : Bool) (m k : Int) (q : Bool) (n1 d1 f1 c1 : Nat) (x1 y1 : Int) (n2 d2 f2 c2 : Nat) (x2 y2 : Int) (n3 d3 f3 c3 : Nat) (x3 y3 : Int) (n4 d4 f4 c4 : Nat) (x4 y4 : Int) : runB Tryz.prog 136 #[yv3, pt 0, pt 1] (HO gQ (mxN) (mnN) (GQ l h p m k q) .ready) [] [(103, rt (wv n1)), (78, rt (wv d1)), (116, rt (tp [wv f1, ii 0])), (101, rt (ii x1)), (119, rt (tp [wv c1, ii 0])), (101, rt (ii y1)), (103, rt (wv n2)), (78, rt (wv d2)), (116, rt (tp [wv f2, ii 0])), (101, rt (ii x2)), (119, rt (tp [wv c2, ii 0])), (101, rt (ii y2)), (103, rt (wv n3)), (78, rt (wv d3)), (116, rt (tp [wv f3, ii 0])), (101, pbad)] [] =
    some (pbad, (HO gQ (mnI (mnI (mxN) x1) x2) (mxI (mxI (mnN) y1) y2) (GQ l h p m k q) .busy), [PureX Tryz.prog 103 #[ii l, ii 1073741824] (rt (wv n1)), PureX Tryz.prog 78 #[ii m] (rt (wv d1)), PureX Tryz.prog 116 #[wv n1, wv d1] (rt (tp [wv f1, ii 0])), PureX Tryz.prog 101 #[wv f1, ii 0] (rt (ii x1)), PureX Tryz.prog 119 #[wv n1, wv d1] (rt (tp [wv c1, ii 0])), PureX Tryz.prog 101 #[wv c1, ii 0] (rt (ii y1)), PureX Tryz.prog 103 #[ii l, ii 1073741824] (rt (wv n2)), PureX Tryz.prog 78 #[ii k] (rt (wv d2)), PureX Tryz.prog 116 #[wv n2, wv d2] (rt (tp [wv f2, ii 0])), PureX Tryz.prog 101 #[wv f2, ii 0] (rt (ii x2)), PureX Tryz.prog 119 #[wv n2, wv d2] (rt (tp [wv c2, ii 0])), PureX Tryz.prog 101 #[wv c2, ii 0] (rt (ii y2)), PureX Tryz.prog 103 #[ii h, ii 1073741824] (rt (wv n3)), PureX Tryz.prog 78 #[ii m] (rt (wv d3)), PureX Tryz.prog 116 #[wv n3, wv d3] (rt (tp [wv f3, ii 0])), PureX Tryz.prog 101 #[wv f3, ii 0] (pbad)]) := by kernel_rfl
theorem iQ_5 (l h : Int) (p : Bool) (m k : Int) (q : Bool) (n1 d1 f1 c1 : Nat) (x1 y1 : Int) (n2 d2 f2 c2 : Nat) (x2 y2 : Int) (n3 d3 f3 c3 : Nat) (x3 y3 : Int) (n4 d4 f4 c4 : Nat) (x4 y4 : Int) : runB Tryz.prog 136 #[yv3, pt 0, pt 1] (HO gQ (mxN) (mnN) (GQ l h p m k q) .ready) [] [(103, rt (wv n1)), (78, rt (wv d1)), (116, rt (tp [wv f1, ii 0])), (101, rt (ii x1)), (119, rt (tp [wv c1, ii 0])), (101, rt (ii y1)), (103, rt (wv n2)), (78, rt (wv d2)), (116, rt (tp [wv f2, ii 0])), (101, rt (ii x2)), (119, rt (tp [wv c2, ii 0])), (101, rt (ii y2)), (103, rt (wv n3)), (78, rt (wv d3)), (116, rt (tp [wv f3, ii 0])), (101, rt (ii x3)), (119, rt (tp [wv c3, ii 0])), (101, pbad)] [] =
    some (pbad, (HO gQ (mnI (mnI (mxN) x1) x2) (mxI (mxI (mnN) y1) y2) (GQ l h p m k q) .busy), [PureX Tryz.prog 103 #[ii l, ii 1073741824] (rt (wv n1)), PureX Tryz.prog 78 #[ii m] (rt (wv d1)), PureX Tryz.prog 116 #[wv n1, wv d1] (rt (tp [wv f1, ii 0])), PureX Tryz.prog 101 #[wv f1, ii 0] (rt (ii x1)), PureX Tryz.prog 119 #[wv n1, wv d1] (rt (tp [wv c1, ii 0])), PureX Tryz.prog 101 #[wv c1, ii 0] (rt (ii y1)), PureX Tryz.prog 103 #[ii l, ii 1073741824] (rt (wv n2)), PureX Tryz.prog 78 #[ii k] (rt (wv d2)), PureX Tryz.prog 116 #[wv n2, wv d2] (rt (tp [wv f2, ii 0])), PureX Tryz.prog 101 #[wv f2, ii 0] (rt (ii x2)), PureX Tryz.prog 119 #[wv n2, wv d2] (rt (tp [wv c2, ii 0])), PureX Tryz.prog 101 #[wv c2, ii 0] (rt (ii y2)), PureX Tryz.prog 103 #[ii h, ii 1073741824] (rt (wv n3)), PureX Tryz.prog 78 #[ii m] (rt (wv d3)), PureX Tryz.prog 116 #[wv n3, wv d3] (rt (tp [wv f3, ii 0])), PureX Tryz.prog 101 #[wv f3, ii 0] (rt (ii x3)), PureX Tryz.prog 119 #[wv n3, wv d3] (rt (tp [wv c3, ii 0])), PureX Tryz.prog 101 #[wv c3, ii 0] (pbad)]) := by kernel_rfl
theorem iQ_6 (l h : Int) (p : Bool) (m k : Int) (q : Bool) (n1 d1 f1 c1 : Nat) (x1 y1 : Int) (n2 d2 f2 c2 : Nat) (x2 y2 : Int) (n3 d3 f3 c3 : Nat) (x3 y3 : Int) (n4 d4 f4 c4 : Nat) (x4 y4 : Int) : runB Tryz.prog 136 #[yv3, pt 0, pt 1] (HO gQ (mxN) (mnN) (GQ l h p m k q) .ready) [] [(103, rt (wv n1)), (78, rt (wv d1)), (116, rt (tp [wv f1, ii 0])), (101, rt (ii x1)), (119, rt (tp [wv c1, ii 0])), (101, rt (ii y1)), (103, rt (wv n2)), (78, rt (wv d2)), (116, rt (tp [wv f2, ii 0])), (101, rt (ii x2)), (119, rt (tp [wv c2, ii 0])), (101, rt (ii y2)), (103, rt (wv n3)), (78, rt (wv d3)), (116, rt (tp [wv f3, ii 0])), (101, rt (ii x3)), (119, rt (tp [wv c3, ii 0])), (101, rt (ii y3)), (103, rt (wv n4)), (78, rt (wv d4)), (116, rt (tp [wv f4, ii 0])), (101, pbad)] [] =
    some (pbad, (HO gQ (mnI (mnI (mnI (mxN) x1) x2) x3) (mxI (mxI (mxI (mnN) y1) y2) y3) (GQ l h p m k q) .busy), [PureX Tryz.prog 103 #[ii l, ii 1073741824] (rt (wv n1)), PureX Tryz.prog 78 #[ii m] (rt (wv d1)), PureX Tryz.prog 116 #[wv n1, wv d1] (rt (tp [wv f1, ii 0])), PureX Tryz.prog 101 #[wv f1, ii 0] (rt (ii x1)), PureX Tryz.prog 119 #[wv n1, wv d1] (rt (tp [wv c1, ii 0])), PureX Tryz.prog 101 #[wv c1, ii 0] (rt (ii y1)), PureX Tryz.prog 103 #[ii l, ii 1073741824] (rt (wv n2)), PureX Tryz.prog 78 #[ii k] (rt (wv d2)), PureX Tryz.prog 116 #[wv n2, wv d2] (rt (tp [wv f2, ii 0])), PureX Tryz.prog 101 #[wv f2, ii 0] (rt (ii x2)), PureX Tryz.prog 119 #[wv n2, wv d2] (rt (tp [wv c2, ii 0])), PureX Tryz.prog 101 #[wv c2, ii 0] (rt (ii y2)), PureX Tryz.prog 103 #[ii h, ii 1073741824] (rt (wv n3)), PureX Tryz.prog 78 #[ii m] (rt (wv d3)), PureX Tryz.prog 116 #[wv n3, wv d3] (rt (tp [wv f3, ii 0])), PureX Tryz.prog 101 #[wv f3, ii 0] (rt (ii x3)), PureX Tryz.prog 119 #[wv n3, wv d3] (rt (tp [wv c3, ii 0])), PureX Tryz.prog 101 #[wv c3, ii 0] (rt (ii y3)), PureX Tryz.prog 103 #[ii h, ii 1073741824] (rt (wv n4)), PureX Tryz.prog 78 #[ii k] (rt (wv d4)), PureX Tryz.prog 116 #[wv n4, wv d4] (rt (tp [wv f4, ii 0])), PureX Tryz.prog 101 #[wv f4, ii 0] (pbad)]) := by kernel_rfl
theorem iQ_7 (l h : Int) (p : Bool) (m k : Int) (q : Bool) (n1 d1 f1 c1 : Nat) (x1 y1 : Int) (n2 d2 f2 c2 : Nat) (x2 y2 : Int) (n3 d3 f3 c3 : Nat) (x3 y3 : Int) (n4 d4 f4 c4 : Nat) (x4 y4 : Int) : runB Tryz.prog 136 #[yv3, pt 0, pt 1] (HO gQ (mxN) (mnN) (GQ l h p m k q) .ready) [] [(103, rt (wv n1)), (78, rt (wv d1)), (116, rt (tp [wv f1, ii 0])), (101, rt (ii x1)), (119, rt (tp [wv c1, ii 0])), (101, rt (ii y1)), (103, rt (wv n2)), (78, rt (wv d2)), (116, rt (tp [wv f2, ii 0])), (101, rt (ii x2)), (119, rt (tp [wv c2, ii 0])), (101, rt (ii y2)), (103, rt (wv n3)), (78, rt (wv d3)), (116, rt (tp [wv f3, ii 0])), (101, rt (ii x3)), (119, rt (tp [wv c3, ii 0])), (101, rt (ii y3)), (103, rt (wv n4)), (78, rt (wv d4)), (116, rt (tp [wv f4, ii 0])), (101, rt (ii x4)), (119, rt (tp [wv c4, ii 0])), (101, pbad)] [] =
    some (pbad, (HO gQ (mnI (mnI (mnI (mxN) x1) x2) x3) (mxI (mxI (mxI (mnN) y1) y2) y3) (GQ l h p m k q) .busy), [PureX Tryz.prog 103 #[ii l, ii 1073741824] (rt (wv n1)), PureX Tryz.prog 78 #[ii m] (rt (wv d1)), PureX Tryz.prog 116 #[wv n1, wv d1] (rt (tp [wv f1, ii 0])), PureX Tryz.prog 101 #[wv f1, ii 0] (rt (ii x1)), PureX Tryz.prog 119 #[wv n1, wv d1] (rt (tp [wv c1, ii 0])), PureX Tryz.prog 101 #[wv c1, ii 0] (rt (ii y1)), PureX Tryz.prog 103 #[ii l, ii 1073741824] (rt (wv n2)), PureX Tryz.prog 78 #[ii k] (rt (wv d2)), PureX Tryz.prog 116 #[wv n2, wv d2] (rt (tp [wv f2, ii 0])), PureX Tryz.prog 101 #[wv f2, ii 0] (rt (ii x2)), PureX Tryz.prog 119 #[wv n2, wv d2] (rt (tp [wv c2, ii 0])), PureX Tryz.prog 101 #[wv c2, ii 0] (rt (ii y2)), PureX Tryz.prog 103 #[ii h, ii 1073741824] (rt (wv n3)), PureX Tryz.prog 78 #[ii m] (rt (wv d3)), PureX Tryz.prog 116 #[wv n3, wv d3] (rt (tp [wv f3, ii 0])), PureX Tryz.prog 101 #[wv f3, ii 0] (rt (ii x3)), PureX Tryz.prog 119 #[wv n3, wv d3] (rt (tp [wv c3, ii 0])), PureX Tryz.prog 101 #[wv c3, ii 0] (rt (ii y3)), PureX Tryz.prog 103 #[ii h, ii 1073741824] (rt (wv n4)), PureX Tryz.prog 78 #[ii k] (rt (wv d4)), PureX Tryz.prog 116 #[wv n4, wv d4] (rt (tp [wv f4, ii 0])), PureX Tryz.prog 101 #[wv f4, ii 0] (rt (ii x4)), PureX Tryz.prog 119 #[wv n4, wv d4] (rt (tp [wv c4, ii 0])), PureX Tryz.prog 101 #[wv c4, ii 0] (pbad)]) := by kernel_rfl
theorem outQ_pre (l h : Int) (p : Bool) (m k : Int) (q : Bool) : StepV Tryz.prog R80a (frame0 Tryz.f91 #[gQ]) [] (GQ l h p m k q) .normal (T80a gQ) [] ((3001, oi 0) :: (3000, oi 0) :: (GQ l h p m k q)) := runS_step mix (oQ_a l h p m k q) trivial
theorem outQ_ret (l h : Int) (p : Bool) (m k : Int) (q : Bool) {lo hi : Int} (hc : CallsV Tryz.prog (.func 136) #[yv3, pt 0, pt 1] (HO gQ (mxN) (mnN) (GQ l h p m k q) .ready) (rt undef) (HO gQ (lo) (hi) (GQ l h p m k q) .ready)) : CallsV Tryz.prog (.func 91) #[gQ] (GQ l h p m k q) (rt (tp [ii lo, ii hi])) (GQ l h p m k q) := by
  have hr := StepF.range (P := Tryz.prog) (fid := 91) (g := .tmp 6) (ps := #[7, 8]) (assign := A80) (body := B80) (D := []) (t := T80 gQ) (H := (3001, oi mnN) :: (3000, oi mxN) :: (GQ l h p m k q)) (c := 3002) (f := 136) (first := #[]) (rs := rt undef) (H2 := (HO gQ (lo) (hi) (GQ l h p m k q) .ready)) (ex := .normal) (H1 := (HO gQ (lo) (hi) (GQ l h p m k q) .exhausted)) (r := { state := .ready, pending := none, fn := 91, tmps := (T80 gQ).toArray, params := #[7, 8], assign := A80, body := B80, defers := 3002 }) rfl rfl (by kernel_rfl) rfl rfl (by kernel_rfl) hc
    (fun i hi => (domB_keys (by kernel_rfl) i).trans hi) rfl (.inl ⟨undef, rfl, (fun e => by cases e), rfl, rfl, rfl⟩)
  have hw := StepF.seq (StepF.of (fid := 91) (outQ_pre l h p m k q)) (StepF.seq (StepF.of (runS_step mix (oQ_b l h p m k q) trivial)) (StepF.seq (StepF.seq (StepF.of (runS_step mix (oQ_c l h p m k q) trivial)) (StepF.block (id := 0) hr)) (StepF.of (runSD_step mix (oQ_d l h p m k q lo hi) trivial))))
  exact callsV_stepL Tryz.func91 body80 mix hw rfl (List.cons_ne_nil _ _) (oQ_l l h p m k q lo hi) (by kernel_rfl) (sub_tail (sub_tail sub_app rfl) rfl) (by kernel_rfl)
theorem outQ_pan (l h : Int) (p : Bool) (m k : Int) (q : Bool) {lo hi : Int} (hc : CallsV Tryz.prog (.func 136) #[yv3, pt 0, pt 1] (HO gQ (mxN) (mnN) (GQ l h p m k q) .ready) pbad (HO gQ (lo) (hi) (GQ l h p m k q) .busy)) : CallsV Tryz.prog (.func 91) #[gQ] (GQ l h p m k q) pbad (GQ l h p m k q) := by
  have hr := StepF.range (P := Tryz.prog) (fid := 91) (g := .tmp 6) (ps := #[7, 8]) (assign := A80) (body := B80) (D := []) (t := T80 gQ) (H := (3001, oi mnN) :: (3000, oi mxN) :: (GQ l h p m k q)) (c := 3002) (f := 136) (first := #[]) (rs := pbad) (H2 := (HO gQ (lo) (hi) (GQ l h p m k q) .busy)) (ex := .pan [{ v := .iface 23 (iv 0 0 true), recovered := false }]) (H1 := (HO gQ (lo) (hi) (GQ l h p m k q) .busy)) (r := { state := .busy, pending := none, fn := 91, tmps := (T80 gQ).toArray, params := #[7, 8], assign := A80, body := B80, defers := 3002 }) rfl rfl (by kernel_rfl) rfl rfl (by kernel_rfl) hc
    (fun i hi => (domB_keys (by kernel_rfl) i).trans hi) rfl (.inr ⟨_, rfl, rfl, rfl⟩)
  have hw := StepF.seq (StepF.of (fid := 91) (outQ_pre l h p m k q)) (StepF.seq (StepF.of (runS_step mix (oQ_b l h p m k q) trivial)) (StepF.seq_pan (y := R80d) (StepF.seq (StepF.of (runS_step mix (oQ_c l h p m k q) trivial)) (StepF.block_pan (id := 0) hr))))
  exact callsV_stepL Tryz.func91 body80 mix hw rfl (List.cons_ne_nil _ _) (oQ_p l h p m k q lo hi _) (by kernel_rfl) (sub_tail (sub_tail sub_app rfl) rfl) (by kernel_rfl)
abbrev GS (l h : Int) : Hp := [(0, .cells ⟨[.slice (some ⟨1, 0, none⟩) 2 2]⟩ 99 (0, 0)), (1, .cells ⟨[ii l, ii h]⟩ 3 (0, 0))]
abbrev gS : Value := (.func (.func 137) #[] #[pt 0])
theorem oS_a (l h : Int) : runS Tryz.prog R80a (T80f gS) (GS l h) [] [] [] = some (.normal, T80a gS, (3001, oi 0) :: (3000, oi 0) :: (GS l h), []) := by kernel_rfl
theorem oS_b (l h : Int) : runS Tryz.prog R80b (T80a gS) ((3001, oi 0) :: (3000, oi 0) :: (GS l h)) [] [] [] = some (.normal, T80a gS, (3001, oi mnN) :: (3000, oi mxN) :: (GS l h), []) := by kernel_rfl
theorem oS_c (l h : Int) : runS Tryz.prog R80c (T80a gS) ((3001, oi mnN) :: (3000, oi mxN) :: (GS l h)) [] [] [] = some (.normal, T80 gS, (3001, oi mnN) :: (3000, oi mxN) :: (GS l h), []) := by kernel_rfl
theorem oS_d (l h : Int) (lo hi : Int) : runSD Tryz.prog R80d (T80 gS) [.mark 3002] (HO gS (lo) (hi) (GS l h) .exhausted) = some (T80e, T80z gS lo hi, [.mark 3002], (HO gS (lo) (hi) (GS l h) .exhausted), []) := by kernel_rfl
theorem oS_l (l h : Int) (lo hi : Int) : runL Tryz.prog Tryz.f91 (T80z gS lo hi) [.mark 3002] .returning (HO gS (lo) (hi) (GS l h) .exhausted) = some (rt (tp [ii lo, ii hi]), ((3001, oi (hi)) :: (3000, oi (lo)) :: ((GS l h) ++ [(3002, .deferred none), (3003, L80 gS .exhausted)])), []) := by kernel_rfl
theorem oS_p (l h : Int) (lo hi : Int) (ch : List PanicEntry) : runL Tryz.prog Tryz.f91 (T80 gS) [.mark 3002] (.panicking ch) (HO gS (lo) (hi) (GS l h) .busy) = some (.pan ch, ((3001, oi (hi)) :: (3000, oi (lo)) :: ((GS l h) ++ [(3002, .deferred none), (3003, L80 gS .busy)])), []) := by kernel_rfl
theorem iS_ok (l h : Int) (n1 d1 f1 c1 : Nat) (x1 y1 : Int) (n2 d2 f2 c2 : Nat) (x2 y2 : Int) : runB Tryz.prog 137 #[yv3, pt 0] (HO gS (mxN) (mnN) (GS l h) .ready) [] [(103, rt (wv n1)), (78, rt (wv d1)), (116, rt (tp [wv f1, ii 0])), (101, rt (ii x1)), (119, rt (tp [wv c1, ii 0])), (101, rt (ii y1)), (103, rt (wv n2)), (78, rt (wv d2)), (116, rt (tp [wv f2, ii 0])), (101, rt (ii x2)), (119, rt (tp [wv c2, ii 0])), (101, rt (ii y2))] [] =
    some (rt undef, (HO gS (mnI (mnI (mxN) x1) x2) (mxI (mxI (mnN) y1) y2) (GS l h) .ready), [PureX Tryz.prog 103 #[ii l, ii l] (rt (wv n1)), PureX Tryz.prog 78 #[ii 1073741824] (rt (wv d1)), PureX Tryz.prog 116 #[wv n1, wv d1] (rt (tp [wv f1, ii 0])), PureX Tryz.prog 101 #[wv f1, ii 0] (rt (ii x1)), PureX Tryz.prog 119 #[wv n1, wv d1] (rt (tp [wv c1, ii 0])), PureX Tryz.prog 101 #[wv c1, ii 0] (rt (ii y1)), PureX Tryz.prog 103 #[ii h, ii h] (rt (wv n2)), PureX Tryz.prog 78 #[ii 1073741824] (rt (wv d2)), PureX Tryz.prog 116 #[wv n2, wv d2] (rt (tp [wv f2, ii 0])), PureX Tryz.prog 101 #[wv f2, ii 0] (rt (ii x2)), PureX Tryz.prog 119 #[wv n2, wv d2] (rt (tp [wv c2, ii 0])), PureX Tryz.prog 101 #[wv c2, ii 0] (rt (ii y2))]) := by kernel_rfl
theorem iS_0 (l h : Int) (n1 d1 f1 c1 : Nat) (x1 y1 : Int) (n2 d2 f2 c2 : Nat) (x2 y2 : Int) : runB Tryz.prog 137 #[yv3, pt 0] (HO gS (mxN) (mnN) (GS l h) .ready) [] [(103, rt (wv n1)), (78, rt (wv d1)), (116, rt (tp [wv f1, ii 0])), (101, pbad)] [] =
    some (pbad, (HO gS (mxN) (mnN) (GS l h) .busy), [PureX Tryz.prog 103 #[ii l, ii l] (rt (wv n1)), PureX Tryz.prog 78 #[ii 1073741824] (rt (wv d1)), PureX Tryz.prog 116 #[wv n1, wv d1] (rt (tp [wv f1, ii 0])), PureX Tryz.prog 101 #[wv f1, ii 0] (pbad)]) := by kernel_rfl
theorem iS_1 (l h : Int) (n1 d1 f1 c1 : Nat) (x1 y1 : Int) (n2 d2 f2 c2 : Nat) (x2 y2 : Int) : runB Tryz.prog 137 #[yv3, pt 0] (HO gS (mxN) (mnN) (GS l h) .ready) [] [(103, rt (wv n1)), (78, rt (wv d1)), (116, rt (tp [wv f1, ii 0])), (101, rt (ii x1)), (119, rt (tp [wv c1, ii 0])), (101, pbad)] [] =
    some (pbad, (HO gS (mxN) (mnN) (GS l h) .busy), [PureX Tryz.prog 103 #[ii l, ii l] (rt (wv n1)), PureX Tryz.prog 78 #[ii 1073741824] (rt (wv d1)), PureX Tryz.prog 116 #[wv n1, wv d1] (rt (tp [wv f1, ii 0])), PureX Tryz.prog 101 #[wv f1, ii 0] (rt (ii x1)), PureX Tryz.prog 119 #[wv n1, wv d1] (rt (tp [wv c1, ii 0])), PureX Tryz.prog 101 #[wv c1, ii 0] (pbad)]) := by kernel_rfl
theorem iS_2 (l h : Int) (n1 d1 f1 c1 : Nat) (x1 y1 : Int) (n2 d2 f2 c2 : Nat) (x2 y2 : Int) : runB Tryz.prog 137 #[yv3, pt 0] (HO gS (mxN) (mnN) (GS l h) .ready) [] [(103, rt (wv n1)), (78, rt (wv d1)), (116, rt (tp [wv f1, ii 0])), (101, rt (ii x1)), (119, rt (tp [wv c1, ii 0])), (101, rt (ii y1)), (103, rt (wv n2)), (78, rt (wv d2)), (116, rt (tp [wv f2, ii 0])), (101, pbad)] [] =
    some (pbad, (HO gS (mnI (mxN) x1) (mxI (mnN) y1) (GS l h) .busy), [PureX Tryz.prog 103 #[ii l, ii l] (rt (wv n1)), PureX Tryz.prog 78 #[ii 1073741824] (rt (wv d1)), PureX Tryz.prog 116 #[wv n1, wv d1] (rt (tp [wv f1, ii 0])), PureX Tryz.prog 101 #[wv f1, ii 0] (rt (ii x1)), PureX Tryz.prog 119 #[wv n1, wv d1] (rt (tp [wv c1, ii 0])), PureX Tryz.prog 101 #[wv c1, ii 0] (rt (ii y1)), PureX Tryz.prog 103 #[ii h, ii h] (rt (wv n2)), PureX Tryz.prog 78 #[ii 1073741824] (rt (wv d2)), PureX Tryz.prog 116 #[wv n2, wv d2] (rt (tp [wv f2, ii 0])), PureX Tryz.prog 101 #[wv f2, ii 0] (pbad)]) := by kernel_rfl
theorem iS_3 (l h : Int) (n1 d1 f1 c1 : Nat) (x1 y1 : Int) (n2 d2 f2 c2 : Nat) (x2 y2 : Int) : runB Tryz.prog 137 #[yv3, pt 0] (HO gS (mxN) (mnN) (GS l h) .ready) [] [(103, rt (wv n1)), (78, rt (wv d1)), (116, rt (tp [wv f1, ii 0])), (101, rt (ii x1)), (119, rt (tp [wv c1, ii 0])), (101, rt (ii y1)), (103, rt (wv n2)), (78, rt (wv d2)), (116, rt (tp [wv f2, ii 0])), (101, rt (ii x2)), (119, rt (tp [wv c2, ii 0])), (101, pbad)] [] =
    some (pbad, (HO gS (mnI (mxN) x1) (mxI (mnN) y1) (GS l h) .busy), [PureX Tryz.prog 103 #[ii l, ii l] (rt (wv n1)), PureX Tryz.prog 78 #[ii 1073741824] (rt (wv d1)), PureX Tryz.prog 116 #[wv n1, wv d1] (rt (tp [wv f1, ii 0])), PureX Tryz.prog 101 #[wv f1, ii 0] (rt (ii x1)), PureX Tryz.prog 119 #[wv n1, wv d1] (rt (tp [wv c1, ii 0])), PureX Tryz.prog 101 #[wv c1, ii 0] (rt (ii y1)), PureX Tryz.prog 103 #[ii h, ii h] (rt (wv n2)), PureX Tryz.prog 78 #[ii 1073741824] (rt (wv d2)), PureX Tryz.prog 116 #[wv n2, wv d2] (rt (tp [wv f2, ii 0])), PureX Tryz.prog 101 #[wv f2, ii 0] (rt (ii x2)), PureX Tryz.prog 119 #[wv n2, wv d2] (rt (tp [wv c2, ii 0])), PureX Tryz.prog 101 #[wv c2, ii 0] (pbad)]) := by kernel_rfl
theorem outS_pre (l h : Int) : StepV Tryz.prog R80a (frame0 Tryz.f91 #[gS]) [] (GS l h) .normal (T80a gS) [] ((3001, oi 0) :: (3000, oi 0) :: (GS l h)) := runS_step mix (oS_a l h) trivial
theorem outS_ret (l h : Int) {lo hi : Int} (hc : CallsV Tryz.prog (.func 137) #[yv3, pt 0] (HO gS (mxN) (mnN) (GS l h) .ready) (rt undef) (HO gS (lo) (hi) (GS l h) .ready)) : CallsV Tryz.prog (.func 91) #[gS] (GS l h) (rt (tp [ii lo, ii hi])) (GS l h) := by
  have hr := StepF.range (P := Tryz.prog) (fid := 91) (g := .tmp 6) (ps := #[7, 8]) (assign := A80) (body := B80) (D := []) (t := T80 gS) (H := (3001, oi mnN) :: (3000, oi mxN) :: (GS l h)) (c := 3002) (f := 137) (first := #[]) (rs := rt undef) (H2 := (HO gS (lo) (hi) (GS l h) .ready)) (ex := .normal) (H1 := (HO gS (lo) (hi) (GS l h) .exhausted)) (r := { state := .ready, pending := none, fn := 91, tmps := (T80 gS).toArray, params := #[7, 8], assign := A80, body := B80, defers := 3002 }) rfl rfl (by kernel_rfl) rfl rfl (by kernel_rfl) hc
    (fun i hi => (domB_keys (by kernel_rfl) i).trans hi) rfl (.inl ⟨undef, rfl, (fun e => by cases e), rfl, rfl, rfl⟩)
  have hw := StepF.seq (StepF.of (fid := 91) (outS_pre l h)) (StepF.seq (StepF.of (runS_step mix (oS_b l h) trivial)) (StepF.seq (StepF.seq (StepF.of (runS_step mix (oS_c l h) trivial)) (StepF.block (id := 0) hr)) (StepF.of (runSD_step mix (oS_d l h lo hi) trivial))))
  exact callsV_stepL Tryz.func91 body80 mix hw rfl (List.cons_ne_nil _ _) (oS_l l h lo hi) (by kernel_rfl) (sub_tail (sub_tail sub_app rfl) rfl) (by kernel_rfl)
theorem outS_pan (l h : Int) {lo hi : Int} (hc : CallsV Tryz.prog (.func 137) #[yv3, pt 0] (HO gS (mxN) (mnN) (GS l h) .ready) pbad (HO gS (lo) (hi) (GS l h) .busy)) : CallsV Tryz.prog (.func 91) #[gS] (GS l h) pbad (GS l h) := by
  have hr := StepF.range (P := Tryz.prog) (fid := 91) (g := .tmp 6) (ps := #[7, 8]) (assign := A80) (body := B80) (D := []) (t := T80 gS) (H := (3001, oi mnN) :: (3000, oi mxN) :: (GS l h)) (c := 3002) (f := 137) (first := #[]) (rs := pbad) (H2 := (HO gS (lo) (hi) (GS l h) .busy)) (ex := .pan [{ v := .iface 23 (iv 0 0 true), recovered := false }]) (H1 := (HO gS (lo) (hi) (GS l h) .busy)) (r := { state := .busy, pending := none, fn := 91, tmps := (T80 gS).toArray, params := #[7, 8], assign := A80, body := B80, defers := 3002 }) rfl rfl (by kernel_rfl) rfl rfl (by kernel_rfl) hc
    (fun i hi => (domB_keys (by kernel_rfl) i).trans hi) rfl (.inr ⟨_, rfl, rfl, rfl⟩)
  have hw := StepF.seq (StepF.of (fid := 91) (outS_pre l h)) (StepF.seq (StepF.of (runS_step mix (oS_b l h) trivial)) (StepF.seq_pan (y := R80d) (StepF.seq (StepF.of (runS_step mix (oS_c l h) trivial)) (StepF.block_pan (id := 0) hr))))
  exact callsV_stepL Tryz.func91 body80 mix hw rfl (List.cons_ne_nil _ _) (oS_p l h lo hi _) (by kernel_rfl) (sub_tail (sub_tail sub_app rfl) rfl) (by kernel_rfl)

end Go.Proofs.YtlioffkonfkflaaGreat

/- The contracts of package inv. -/
namespace Go.Proofs.YtlioffkonfkflaaGreat
open Go Go.RowKit
set_option linter.unusedSimpArgs false
set_option linter.unusedVariables false

theorem mnI_top {f : Int} (h : isI f) : mnI mxN f = f := by unfold isI at h; unfold mnI mxN; split <;> omega
theorem mxI_bot {f : Int} (h : isI f) : mxI mnN f = f := by unfold isI at h; unfold mxI mnN; split <;> omega
/-- A number by another one: what of it is an int. -/
structure Frac (N D : Int) : Prop where
  n : inR N
  d : inR D
  n1 : N ≠ least
  d0 : D ≠ 0
  d1 : D ≠ least
theorem Frac.fl {N D : Int} (h : Frac N D) : PureX Tryz.prog 116 #[wz N, wz D] (rt (tp [wz (flI N D), .int .i64 0])) := flo_z div_ok h.n h.d h.d0 h.n1 h.d1
theorem Frac.ce {N D : Int} (h : Frac N D) : PureX Tryz.prog 119 #[wz N, wz D] (rt (tp [wz (ceI N D), .int .i64 0])) := cei_z div_ok h.n h.d h.d0 h.n1 h.d1
theorem Frac.wf {N D : Int} (h : Frac N D) (hi : isI (flI N D)) : PureX Tryz.prog 101 #[wz (flI N D), ii 0] (rt (ii (flI N D))) := whole_ok (flI_in h.n h.n1 h.d0) hi
theorem Frac.wc {N D : Int} (h : Frac N D) (hi : isI (ceI N D)) : PureX Tryz.prog 101 #[wz (ceI N D), ii 0] (rt (ii (ceI N D))) := whole_ok (ceI_in h.n h.n1 h.d0) hi
theorem Frac.pf {N D : Int} (h : Frac N D) (hi : ¬ isI (flI N D)) : PureX Tryz.prog 101 #[wz (flI N D), ii 0] pbad := whole_no (flI_in h.n h.n1 h.d0) hi
theorem Frac.pc {N D : Int} (h : Frac N D) (hi : ¬ isI (ceI N D)) : PureX Tryz.prog 101 #[wz (ceI N D), ii 0] pbad := whole_no (ceI_in h.n h.n1 h.d0) hi

theorem outQ_v {x y : IV} (hx : okV x = true) (hy : okV y = true) (h0 : ¬ (y.1 ≤ 0 ∧ 0 ≤ y.2.1)) :
    ((isI (flI (x.1 * 1073741824) y.1) ∧ isI (ceI (x.1 * 1073741824) y.1) ∧ isI (flI (x.1 * 1073741824) y.2.1) ∧ isI (ceI (x.1 * 1073741824) y.2.1) ∧ isI (flI (x.2.1 * 1073741824) y.1) ∧ isI (ceI (x.2.1 * 1073741824) y.1) ∧ isI (flI (x.2.1 * 1073741824) y.2.1) ∧ isI (ceI (x.2.1 * 1073741824) y.2.1)) ∧ CallsV Tryz.prog (.func 91) #[gQ] (GQ x.1 x.2.1 x.2.2 y.1 y.2.1 y.2.2) (rt (tp [ii (mn4I (flI (x.1 * 1073741824) y.1) (flI (x.1 * 1073741824) y.2.1) (flI (x.2.1 * 1073741824) y.1) (flI (x.2.1 * 1073741824) y.2.1)), ii (mx4I (ceI (x.1 * 1073741824) y.1) (ceI (x.1 * 1073741824) y.2.1) (ceI (x.2.1 * 1073741824) y.1) (ceI (x.2.1 * 1073741824) y.2.1))])) (GQ x.1 x.2.1 x.2.2 y.1 y.2.1 y.2.2)) ∨ (¬ (isI (flI (x.1 * 1073741824) y.1) ∧ isI (ceI (x.1 * 1073741824) y.1) ∧ isI (flI (x.1 * 1073741824) y.2.1) ∧ isI (ceI (x.1 * 1073741824) y.2.1) ∧ isI (flI (x.2.1 * 1073741824) y.1) ∧ isI (ceI (x.2.1 * 1073741824) y.1) ∧ isI (flI (x.2.1 * 1073741824) y.2.1) ∧ isI (ceI (x.2.1 * 1073741824) y.2.1)) ∧ CallsV Tryz.prog (.func 91) #[gQ] (GQ x.1 x.2.1 x.2.2 y.1 y.2.1 y.2.2) pbad (GQ x.1 x.2.1 x.2.2 y.1 y.2.1 y.2.2)) := by
  have a := okV_iff.1 hx
  have b := okV_iff.1 hy
  have i1 : isI x.1 := by unfold isI; omega
  have i2 : isI x.2.1 := by unfold isI; omega
  have j1 : isI y.1 := by unfold isI; omega
  have j2 : isI y.2.1 := by unfold isI; omega
  have io : isI 1073741824 := by decide
  obtain ⟨r1, s1⟩ := ii_in i1 io
  obtain ⟨r2, s2⟩ := ii_in i2 io
  have q0 : Frac (x.1 * 1073741824) y.1 := ⟨r1, isI_in j1, s1, by omega, by unfold least; omega⟩
  have q1 : Frac (x.1 * 1073741824) y.2.1 := ⟨r1, isI_in j2, s1, by omega, by unfold least; omega⟩
  have q2 : Frac (x.2.1 * 1073741824) y.1 := ⟨r2, isI_in j1, s2, by omega, by unfold least; omega⟩
  have q3 : Frac (x.2.1 * 1073741824) y.2.1 := ⟨r2, isI_in j2, s2, by omega, by unfold least; omega⟩
  by_cases c0f : isI (flI (x.1 * 1073741824) y.1)
  case neg => exact .inr ⟨fun hh => c0f hh.1, outQ_pan x.1 x.2.1 x.2.2 y.1 y.2.1 y.2.2 (runB_calls mix (iQ_0 x.1 x.2.1 x.2.2 y.1 y.2.1 y.2.2 (nz (x.1 * 1073741824)) (nz y.1) (nz (flI (x.1 * 1073741824) y.1)) (nz (ceI (x.1 * 1073741824) y.1)) (flI (x.1 * 1073741824) y.1) (ceI (x.1 * 1073741824) y.1) (nz (x.1 * 1073741824)) (nz y.2.1) (nz (flI (x.1 * 1073741824) y.2.1)) (nz (ceI (x.1 * 1073741824) y.2.1)) (flI (x.1 * 1073741824) y.2.1) (ceI (x.1 * 1073741824) y.2.1) (nz (x.2.1 * 1073741824)) (nz y.1) (nz (flI (x.2.1 * 1073741824) y.1)) (nz (ceI (x.2.1 * 1073741824) y.1)) (flI (x.2.1 * 1073741824) y.1) (ceI (x.2.1 * 1073741824) y.1) (nz (x.2.1 * 1073741824)) (nz y.2.1) (nz (flI (x.2.1 * 1073741824) y.2.1)) (nz (ceI (x.2.1 * 1073741824) y.2.1)) (flI (x.2.1 * 1073741824) y.2.1) (ceI (x.2.1 * 1073741824) y.2.1)) ⟨prod_v i1 io, of_z j1, q0.fl, q0.pf c0f, trivial⟩ rfl (by kernel_rfl) rfl)⟩
  by_cases c0c : isI (ceI (x.1 * 1073741824) y.1)
  case neg => exact .inr ⟨fun hh => c0c hh.2.1, outQ_pan x.1 x.2.1 x.2.2 y.1 y.2.1 y.2.2 (runB_calls mix (iQ_1 x.1 x.2.1 x.2.2 y.1 y.2.1 y.2.2 (nz (x.1 * 1073741824)) (nz y.1) (nz (flI (x.1 * 1073741824) y.1)) (nz (ceI (x.1 * 1073741824) y.1)) (flI (x.1 * 1073741824) y.1) (ceI (x.1 * 1073741824) y.1) (nz (x.1 * 1073741824)) (nz y.2.1) (nz (flI (x.1 * 1073741824) y.2.1)) (nz (ceI (x.1 * 1073741824) y.2.1)) (flI (x.1 * 1073741824) y.2.1) (ceI (x.1 * 1073741824) y.2.1) (nz (x.2.1 * 1073741824)) (nz y.1) (nz (flI (x.2.1 * 1073741824) y.1)) (nz (ceI (x.2.1 * 1073741824) y.1)) (flI (x.2.1 * 1073741824) y.1) (ceI (x.2.1 * 1073741824) y.1) (nz (x.2.1 * 1073741824)) (nz y.2.1) (nz (flI (x.2.1 * 1073741824) y.2.1)) (nz (ceI (x.2.1 * 1073741824) y.2.1)) (flI (x.2.1 * 1073741824) y.2.1) (ceI (x.2.1 * 1073741824) y.2.1)) ⟨prod_v i1 io, of_z j1, q0.fl, q0.wf c0f, q0.ce, q0.pc c0c, trivial⟩ rfl (by kernel_rfl) rfl)⟩
  by_cases c1f : isI (flI (x.1 * 1073741824) y.2.1)
  case neg => exact .inr ⟨fun hh => c1f hh.2.2.1, outQ_pan x.1 x.2.1 x.2.2 y.1 y.2.1 y.2.2 (runB_calls mix (iQ_2 x.1 x.2.1 x.2.2 y.1 y.2.1 y.2.2 (nz (x.1 * 1073741824)) (nz y.1) (nz (flI (x.1 * 1073741824) y.1)) (nz (ceI (x.1 * 1073741824) y.1)) (flI (x.1 * 1073741824) y.1) (ceI (x.1 * 1073741824) y.1) (nz (x.1 * 1073741824)) (nz y.2.1) (nz (flI (x.1 * 1073741824) y.2.1)) (nz (ceI (x.1 * 1073741824) y.2.1)) (flI (x.1 * 1073741824) y.2.1) (ceI (x.1 * 1073741824) y.2.1) (nz (x.2.1 * 1073741824)) (nz y.1) (nz (flI (x.2.1 * 1073741824) y.1)) (nz (ceI (x.2.1 * 1073741824) y.1)) (flI (x.2.1 * 1073741824) y.1) (ceI (x.2.1 * 1073741824) y.1) (nz (x.2.1 * 1073741824)) (nz y.2.1) (nz (flI (x.2.1 * 1073741824) y.2.1)) (nz (ceI (x.2.1 * 1073741824) y.2.1)) (flI (x.2.1 * 1073741824) y.2.1) (ceI (x.2.1 * 1073741824) y.2.1)) ⟨prod_v i1 io, of_z j1, q0.fl, q0.wf c0f, q0.ce, q0.wc c0c, prod_v i1 io, of_z j2, q1.fl, q1.pf c1f, trivial⟩ rfl (by kernel_rfl) rfl)⟩
  by_cases c1c : isI (ceI (x.1 * 1073741824) y.2.1)
  case neg => exact .inr ⟨fun hh => c1c hh.2.2.2.1, outQ_pan x.1 x.2.1 x.2.2 y.1 y.2.1 y.2.2 (runB_calls mix (iQ_3 x.1 x.2.1 x.2.2 y.1 y.2.1 y.2.2 (nz (x.1 * 1073741824)) (nz y.1) (nz (flI (x.1 * 1073741824) y.1)) (nz (ceI (x.1 * 1073741824) y.1)) (flI (x.1 * 1073741824) y.1) (ceI (x.1 * 1073741824) y.1) (nz (x.1 * 1073741824)) (nz y.2.1) (nz (flI (x.1 * 1073741824) y.2.1)) (nz (ceI (x.1 * 1073741824) y.2.1)) (flI (x.1 * 1073741824) y.2.1) (ceI (x.1 * 1073741824) y.2.1) (nz (x.2.1 * 1073741824)) (nz y.1) (nz (flI (x.2.1 * 1073741824) y.1)) (nz (ceI (x.2.1 * 1073741824) y.1)) (flI (x.2.1 * 1073741824) y.1) (ceI (x.2.1 * 1073741824) y.1) (nz (x.2.1 * 1073741824)) (nz y.2.1) (nz (flI (x.2.1 * 1073741824) y.2.1)) (nz (ceI (x.2.1 * 1073741824) y.2.1)) (flI (x.2.1 * 1073741824) y.2.1) (ceI (x.2.1 * 1073741824) y.2.1)) ⟨prod_v i1 io, of_z j1, q0.fl, q0.wf c0f, q0.ce, q0.wc c0c, prod_v i1 io, of_z j2, q1.fl, q1.wf c1f, q1.ce, q1.pc c1c, trivial⟩ rfl (by kernel_rfl) rfl)⟩
  by_cases c2f : isI (flI (x.2.1 * 1073741824) y.1)
  case neg => exact .inr ⟨fun hh => c2f hh.2.2.2.2.1, outQ_pan x.1 x.2.1 x.2.2 y.1 y.2.1 y.2.2 (runB_calls mix (iQ_4 x.1 x.2.1 x.2.2 y.1 y.2.1 y.2.2 (nz (x.1 * 1073741824)) (nz y.1) (nz (flI (x.1 * 1073741824) y.1)) (nz (ceI (x.1 * 1073741824) y.1)) (flI (x.1 * 1073741824) y.1) (ceI (x.1 * 1073741824) y.1) (nz (x.1 * 1073741824)) (nz y.2.1) (nz (flI (x.1 * 1073741824) y.2.1)) (nz (ceI (x.1 * 1073741824) y.2.1)) (flI (x.1 * 1073741824) y.2.1) (ceI (x.1 * 1073741824) y.2.1) (nz (x.2.1 * 1073741824)) (nz y.1) (nz (flI (x.2.1 * 1073741824) y.1)) (nz (ceI (x.2.1 * 1073741824) y.1)) (flI (x.2.1 * 1073741824) y.1) (ceI (x.2.1 * 1073741824) y.1) (nz (x.2.1 * 1073741824)) (nz y.2.1) (nz (flI (x.2.1 * 1073741824) y.2.1)) (nz (ceI (x.2.1 * 1073741824) y.2.1)) (flI (x.2.1 * 1073741824) y.2.1) (ceI (x.2.1 * 1073741824) y.2.1)) ⟨prod_v i1 io, of_z j1, q0.fl, q0.wf c0f, q0.ce, q0.wc c0c, prod_v i1 io, of_z j2, q1.fl, q1.wf c1f, q1.ce, q1.wc c1c, prod_v i2 io, of_z j1, q2.fl, q2.pf c2f, trivial⟩ rfl (by kernel_rfl) rfl)⟩
  by_cases c2c : isI (ceI (x.2.1 * 1073741824) y.1)
  case neg => exact .inr ⟨fun hh => c2c hh.2.2.2.2.2.1, outQ_pan x.1 x.2.1 x.2.2 y.1 y.2.1 y.2.2 (runB_calls mix (iQ_5 x.1 x.2.1 x.2.2 y.1 y.2.1 y.2.2 (nz (x.1 * 1073741824)) (nz y.1) (nz (flI (x.1 * 1073741824) y.1)) (nz (ceI (x.1 * 1073741824) y.1)) (flI (x.1 * 1073741824) y.1) (ceI (x.1 * 1073741824) y.1) (nz (x.1 * 1073741824)) (nz y.2.1) (nz (flI (x.1 * 1073741824) y.2.1)) (nz (ceI (x.1 * 1073741824) y.2.1)) (flI (x.1 * 1073741824) y.2.1) (ceI (x.1 * 1073741824) y.2.1) (nz (x.2.1 * 1073741824)) (nz y.1) (nz (flI (x.2.1 * 1073741824) y.1)) (nz (ceI (x.2.1 * 1073741824) y.1)) (flI (x.2.1 * 1073741824) y.1) (ceI (x.2.1 * 1073741824) y.1) (nz (x.2.1 * 1073741824)) (nz y.2.1) (nz (flI (x.2.1 * 1073741824) y.2.1)) (nz (ceI (x.2.1 * 1073741824) y.2.1)) (flI (x.2.1 * 1073741824) y.2.1) (ceI (x.2.1 * 1073741824) y.2.1)) ⟨prod_v i1 io, of_z j1, q0.fl, q0.wf c0f, q0.ce, q0.wc c0c, prod_v i1 io, of_z j2, q1.fl, q1.wf c1f, q1.ce, q1.wc c1c, prod_v i2 io, of_z j1, q2.fl, q2.wf c2f, q2.ce, q2.pc c2c, trivial⟩ rfl (by kernel_rfl) rfl)⟩
  by_cases c3f : isI (flI (x.2.1 * 1073741824) y.2.1)
  case neg => exact .inr ⟨fun hh => c3f hh.2.2.2.2.2.2.1, outQ_pan x.1 x.2.1 x.2.2 y.1 y.2.1 y.2.2 (runB_calls mix (iQ_6 x.1 x.2.1 x.2.2 y.1 y.2.1 y.2.2 (nz (x.1 * 1073741824)) (nz y.1) (nz (flI (x.1 * 1073741824) y.1)) (nz (ceI (x.1 * 1073741824) y.1)) (flI (x.1 * 1073741824) y.1) (ceI (x.1 * 1073741824) y.1) (nz (x.1 * 1073741824)) (nz y.2.1) (nz (flI (x.1 * 1073741824) y.2.1)) (nz (ceI (x.1 * 1073741824) y.2.1)) (flI (x.1 * 1073741824) y.2.1) (ceI (x.1 * 1073741824) y.2.1) (nz (x.2.1 * 1073741824)) (nz y.1) (nz (flI (x.2.1 * 1073741824) y.1)) (nz (ceI (x.2.1 * 1073741824) y.1)) (flI (x.2.1 * 1073741824) y.1) (ceI (x.2.1 * 1073741824) y.1) (nz (x.2.1 * 1073741824)) (nz y.2.1) (nz (flI (x.2.1 * 1073741824) y.2.1)) (nz (ceI (x.2.1 * 1073741824) y.2.1)) (flI (x.2.1 * 1073741824) y.2.1) (ceI (x.2.1 * 1073741824) y.2.1)) ⟨prod_v i1 io, of_z j1, q0.fl, q0.wf c0f, q0.ce, q0.wc c0c, prod_v i1 io, of_z j2, q1.fl, q1.wf c1f, q1.ce, q1.wc c1c, prod_v i2 io, of_z j1, q2.fl, q2.wf c2f, q2.ce, q2.wc c2c, prod_v i2 io, of_z j2, q3.fl, q3.pf c3f, trivial⟩ rfl (by kernel_rfl) rfl)⟩
  by_cases c3c : isI (ceI (x.2.1 * 1073741824) y.2.1)
  case neg => exact .inr ⟨fun hh => c3c hh.2.2.2.2.2.2.2, outQ_pan x.1 x.2.1 x.2.2 y.1 y.2.1 y.2.2 (runB_calls mix (iQ_7 x.1 x.2.1 x.2.2 y.1 y.2.1 y.2.2 (nz (x.1 * 1073741824)) (nz y.1) (nz (flI (x.1 * 1073741824) y.1)) (nz (ceI (x.1 * 1073741824) y.1)) (flI (x.1 * 1073741824) y.1) (ceI (x.1 * 1073741824) y.1) (nz (x.1 * 1073741824)) (nz y.2.1) (nz (flI (x.1 * 1073741824) y.2.1)) (nz (ceI (x.1 * 1073741824) y.2.1)) (flI (x.1 * 1073741824) y.2.1) (ceI (x.1 * 1073741824) y.2.1) (nz (x.2.1 * 1073741824)) (nz y.1) (nz (flI (x.2.1 * 1073741824) y.1)) (nz (ceI (x.2.1 * 1073741824) y.1)) (flI (x.2.1 * 1073741824) y.1) (ceI (x.2.1 * 1073741824) y.1) (nz (x.2.1 * 1073741824)) (nz y.2.1) (nz (flI (x.2.1 * 1073741824) y.2.1)) (nz (ceI (x.2.1 * 1073741824) y.2.1)) (flI (x.2.1 * 1073741824) y.2.1) (ceI (x.2.1 * 1073741824) y.2.1)) ⟨prod_v i1 io, of_z j1, q0.fl, q0.wf c0f, q0.ce, q0.wc c0c, prod_v i1 io, of_z j2, q1.fl, q1.wf c1f, q1.ce, q1.wc c1c, prod_v i2 io, of_z j1, q2.fl, q2.wf c2f, q2.ce, q2.wc c2c, prod_v i2 io, of_z j2, q3.fl, q3.wf c3f, q3.ce, q3.pc c3c, trivial⟩ rfl (by kernel_rfl) rfl)⟩
  have h := outQ_ret x.1 x.2.1 x.2.2 y.1 y.2.1 y.2.2 (runB_calls mix (iQ_ok x.1 x.2.1 x.2.2 y.1 y.2.1 y.2.2 (nz (x.1 * 1073741824)) (nz y.1) (nz (flI (x.1 * 1073741824) y.1)) (nz (ceI (x.1 * 1073741824) y.1)) (flI (x.1 * 1073741824) y.1) (ceI (x.1 * 1073741824) y.1) (nz (x.1 * 1073741824)) (nz y.2.1) (nz (flI (x.1 * 1073741824) y.2.1)) (nz (ceI (x.1 * 1073741824) y.2.1)) (flI (x.1 * 1073741824) y.2.1) (ceI (x.1 * 1073741824) y.2.1) (nz (x.2.1 * 1073741824)) (nz y.1) (nz (flI (x.2.1 * 1073741824) y.1)) (nz (ceI (x.2.1 * 1073741824) y.1)) (flI (x.2.1 * 1073741824) y.1) (ceI (x.2.1 * 1073741824) y.1) (nz (x.2.1 * 1073741824)) (nz y.2.1) (nz (flI (x.2.1 * 1073741824) y.2.1)) (nz (ceI (x.2.1 * 1073741824) y.2.1)) (flI (x.2.1 * 1073741824) y.2.1) (ceI (x.2.1 * 1073741824) y.2.1)) ⟨prod_v i1 io, of_z j1, q0.fl, q0.wf c0f, q0.ce, q0.wc c0c, prod_v i1 io, of_z j2, q1.fl, q1.wf c1f, q1.ce, q1.wc c1c, prod_v i2 io, of_z j1, q2.fl, q2.wf c2f, q2.ce, q2.wc c2c, prod_v i2 io, of_z j2, q3.fl, q3.wf c3f, q3.ce, q3.wc c3c, trivial⟩ rfl (by kernel_rfl) rfl)
  rw [mnI_top c0f, mxI_bot c0c] at h
  exact .inl ⟨⟨c0f, c0c, c1f, c1c, c2f, c2c, c3f, c3c⟩, h⟩
theorem outS_v {u v : Int} (hu : isI u) (hv : isI v) :
    ((isI (flI (u * u) 1073741824) ∧ isI (ceI (u * u) 1073741824) ∧ isI (flI (v * v) 1073741824) ∧ isI (ceI (v * v) 1073741824)) ∧ CallsV Tryz.prog (.func 91) #[gS] (GS u v) (rt (tp [ii (mnI (flI (u * u) 1073741824) (flI (v * v) 1073741824)), ii (mxI (ceI (u * u) 1073741824) (ceI (v * v) 1073741824))])) (GS u v)) ∨ (¬ (isI (flI (u * u) 1073741824) ∧ isI (ceI (u * u) 1073741824) ∧ isI (flI (v * v) 1073741824) ∧ isI (ceI (v * v) 1073741824)) ∧ CallsV Tryz.prog (.func 91) #[gS] (GS u v) pbad (GS u v)) := by
  have io : isI 1073741824 := by decide
  obtain ⟨r1, s1⟩ := ii_in hu hu
  obtain ⟨r2, s2⟩ := ii_in hv hv
  have q0 : Frac (u * u) 1073741824 := ⟨r1, isI_in io, s1, by decide, by decide⟩
  have q1 : Frac (v * v) 1073741824 := ⟨r2, isI_in io, s2, by decide, by decide⟩
  by_cases c0f : isI (flI (u * u) 1073741824)
  case neg => exact .inr ⟨fun hh => c0f hh.1, outS_pan u v (runB_calls mix (iS_0 u v (nz (u * u)) (nz 1073741824) (nz (flI (u * u) 1073741824)) (nz (ceI (u * u) 1073741824)) (flI (u * u) 1073741824) (ceI (u * u) 1073741824) (nz (v * v)) (nz 1073741824) (nz (flI (v * v) 1073741824)) (nz (ceI (v * v) 1073741824)) (flI (v * v) 1073741824) (ceI (v * v) 1073741824)) ⟨prod_v hu hu, of_z io, q0.fl, q0.pf c0f, trivial⟩ rfl (by kernel_rfl) rfl)⟩
  by_cases c0c : isI (ceI (u * u) 1073741824)
  case neg => exact .inr ⟨fun hh => c0c hh.2.1, outS_pan u v (runB_calls mix (iS_1 u v (nz (u * u)) (nz 1073741824) (nz (flI (u * u) 1073741824)) (nz (ceI (u * u) 1073741824)) (flI (u * u) 1073741824) (ceI (u * u) 1073741824) (nz (v * v)) (nz 1073741824) (nz (flI (v * v) 1073741824)) (nz (ceI (v * v) 1073741824)) (flI (v * v) 1073741824) (ceI (v * v) 1073741824)) ⟨prod_v hu hu, of_z io, q0.fl, q0.wf c0f, q0.ce, q0.pc c0c, trivial⟩ rfl (by kernel_rfl) rfl)⟩
  by_cases c1f : isI (flI (v * v) 1073741824)
  case neg => exact .inr ⟨fun hh => c1f hh.2.2.1, outS_pan u v (runB_calls mix (iS_2 u v (nz (u * u)) (nz 1073741824) (nz (flI (u * u) 1073741824)) (nz (ceI (u * u) 1073741824)) (flI (u * u) 1073741824) (ceI (u * u) 1073741824) (nz (v * v)) (nz 1073741824) (nz (flI (v * v) 1073741824)) (nz (ceI (v * v) 1073741824)) (flI (v * v) 1073741824) (ceI (v * v) 1073741824)) ⟨prod_v hu hu, of_z io, q0.fl, q0.wf c0f, q0.ce, q0.wc c0c, prod_v hv hv, of_z io, q1.fl, q1.pf c1f, trivial⟩ rfl (by kernel_rfl) rfl)⟩
  by_cases c1c : isI (ceI (v * v) 1073741824)
  case neg => exact .inr ⟨fun hh => c1c hh.2.2.2, outS_pan u v (runB_calls mix (iS_3 u v (nz (u * u)) (nz 1073741824) (nz (flI (u * u) 1073741824)) (nz (ceI (u * u) 1073741824)) (flI (u * u) 1073741824) (ceI (u * u) 1073741824) (nz (v * v)) (nz 1073741824) (nz (flI (v * v) 1073741824)) (nz (ceI (v * v) 1073741824)) (flI (v * v) 1073741824) (ceI (v * v) 1073741824)) ⟨prod_v hu hu, of_z io, q0.fl, q0.wf c0f, q0.ce, q0.wc c0c, prod_v hv hv, of_z io, q1.fl, q1.wf c1f, q1.ce, q1.pc c1c, trivial⟩ rfl (by kernel_rfl) rfl)⟩
  have h := outS_ret u v (runB_calls mix (iS_ok u v (nz (u * u)) (nz 1073741824) (nz (flI (u * u) 1073741824)) (nz (ceI (u * u) 1073741824)) (flI (u * u) 1073741824) (ceI (u * u) 1073741824) (nz (v * v)) (nz 1073741824) (nz (flI (v * v) 1073741824)) (nz (ceI (v * v) 1073741824)) (flI (v * v) 1073741824) (ceI (v * v) 1073741824)) ⟨prod_v hu hu, of_z io, q0.fl, q0.wf c0f, q0.ce, q0.wc c0c, prod_v hv hv, of_z io, q1.fl, q1.wf c1f, q1.ce, q1.wc c1c, trivial⟩ rfl (by kernel_rfl) rfl)
  rw [mnI_top c0f, mxI_bot c0c] at h
  exact .inl ⟨⟨c0f, c0c, c1f, c1c⟩, h⟩

theorem two_inj {a b : Nat} {o p : Obj} {ρ : Nat → Nat} (h : ρ a ≠ ρ b) : ∀ i j, domB [(a, o), (b, p)] i = true → domB [(a, o), (b, p)] j = true → ρ i = ρ j → i = j := by
  intro i j hi hj e
  have k : ∀ i, domB [(a, o), (b, p)] i = true → i = a ∨ i = b := fun i hi => by
    unfold domB at hi
    simp only [look] at hi
    by_cases h1 : a = i
    · exact .inl h1.symm
    · by_cases h2 : b = i
      · exact .inr h2.symm
      · simp [h1, h2] at hi
  rcases k i hi with rfl | rfl <;> rcases k j hj with rfl | rfl
  · rfl
  · exact absurd e h
  · exact absurd e.symm h
  · rfl
def ρQ (i : Nat) : Nat := if i = 0 then 1009 else if i = 1 then 1010 else i
def ρS (i : Nat) : Nat := if i = 0 then 1009 else if i = 1 then 1008 else i
abbrev gQ' : Value := .func (.func 136) #[] #[pt 1009, pt 1010]
abbrev gS' : Value := .func (.func 137) #[] #[pt 1009]
abbrev GQ' (l h : Int) (p : Bool) (m k : Int) (q : Bool) : Hp := [(1010, oiv [(m, k, q)]), (1009, oiv [(l, h, p)])]
abbrev GS' (l h : Int) : Hp := [(1009, .cells ⟨[.slice (some ⟨1008, 0, none⟩) 2 2]⟩ 99 (0, 0)), (1008, .cells ⟨[ii l, ii h]⟩ 3 (0, 0))]
theorem toQ {l h : Int} {p : Bool} {m k : Int} {q : Bool} {r : Res} (hr : resOK noB r = true) (hc : CallsV Tryz.prog (.func 91) #[gQ] (GQ l h p m k q) r (GQ l h p m k q)) : CallsV Tryz.prog (.func 91) #[gQ'] (GQ' l h p m k q) r (GQ' l h p m k q) :=
  hc.num ρQ (two_inj (by decide)) (fun _ h => h) (by kernel_rfl) (by kernel_rfl) hr
theorem toS {l h : Int} {r : Res} (hr : resOK noB r = true) (hc : CallsV Tryz.prog (.func 91) #[gS] (GS l h) r (GS l h)) : CallsV Tryz.prog (.func 91) #[gS'] (GS' l h) r (GS' l h) :=
  hc.num ρS (two_inj (by decide)) (fun _ h => h) (by kernel_rfl) (by kernel_rfl) hr

section
variable (l h : Int) (p : Bool) (m k : Int) (q : Bool) (x y a b : Int) (c : Bool)
abbrev B2 : Hp := [(1003, oiv [(l, h, p), (m, k, q)])]
abbrev B1 : Hp := [(1002, oiv [(l, h, p)])]
theorem quot_f : runB Tryz.prog 42 #[iv l h p, iv m k q] [] [] [] [(12, rt (bb false), B2 l h p m k q)] = some (rt (iv 0 0 true), [], [CallsV Tryz.prog (.func 12) #[sl 1003 2] (B2 l h p m k q) (rt (bb false)) (B2 l h p m k q)]) := by kernel_rfl
theorem quot_z : runB Tryz.prog 42 #[iv l h p, iv m k q] [] [n, t, n, n, t, n] [] [(12, rt (bb true), B2 l h p m k q)] = some (rt (iv 0 0 true), [], [CallsV Tryz.prog (.func 12) #[sl 1003 2] (B2 l h p m k q) (rt (bb true)) (B2 l h p m k q), decide (m ≤ 0) = true, decide (0 ≤ k) = true]) := by kernel_rfl
theorem quot_1 : runB Tryz.prog 42 #[iv l h p, iv m k q] [] [n, f, n, n, n, n] [(18, rt (iv a b c))] [(12, rt (bb true), B2 l h p m k q), (91, rt (tp [ii x, ii y]), GQ' l h p m k q)] =
    some (rt (iv a b c), [], [CallsV Tryz.prog (.func 12) #[sl 1003 2] (B2 l h p m k q) (rt (bb true)) (B2 l h p m k q), decide (m ≤ 0) = false, CallsV Tryz.prog (.func 91) #[gQ'] (GQ' l h p m k q) (rt (tp [ii x, ii y])) (GQ' l h p m k q), PureX Tryz.prog 18 #[ii x, ii y] (rt (iv a b c))]) := by kernel_rfl
theorem quot_2 : runB Tryz.prog 42 #[iv l h p, iv m k q] [] [n, t, n, n, f, n] [(18, rt (iv a b c))] [(12, rt (bb true), B2 l h p m k q), (91, rt (tp [ii x, ii y]), GQ' l h p m k q)] =
    some (rt (iv a b c), [], [CallsV Tryz.prog (.func 12) #[sl 1003 2] (B2 l h p m k q) (rt (bb true)) (B2 l h p m k q), decide (m ≤ 0) = true, decide (0 ≤ k) = false, CallsV Tryz.prog (.func 91) #[gQ'] (GQ' l h p m k q) (rt (tp [ii x, ii y])) (GQ' l h p m k q), PureX Tryz.prog 18 #[ii x, ii y] (rt (iv a b c))]) := by kernel_rfl
theorem quot_1p : runB Tryz.prog 42 #[iv l h p, iv m k q] [] [n, f, n, n, n, n] [] [(12, rt (bb true), B2 l h p m k q), (91, pbad, GQ' l h p m k q)] =
    some (rt (iv 0 0 true), [], [CallsV Tryz.prog (.func 12) #[sl 1003 2] (B2 l h p m k q) (rt (bb true)) (B2 l h p m k q), decide (m ≤ 0) = false, CallsV Tryz.prog (.func 91) #[gQ'] (GQ' l h p m k q) pbad (GQ' l h p m k q)]) := by kernel_rfl
theorem quot_2p : runB Tryz.prog 42 #[iv l h p, iv m k q] [] [n, t, n, n, f, n] [] [(12, rt (bb true), B2 l h p m k q), (91, pbad, GQ' l h p m k q)] =
    some (rt (iv 0 0 true), [], [CallsV Tryz.prog (.func 12) #[sl 1003 2] (B2 l h p m k q) (rt (bb true)) (B2 l h p m k q), decide (m ≤ 0) = true, decide (0 ≤ k) = false, CallsV Tryz.prog (.func 91) #[gQ'] (GQ' l h p m k q) pbad (GQ' l h p m k q)]) := by kernel_rfl
theorem inv_raw : runB Tryz.prog 44 #[iv l h p] [] [] [(14, rt (iv m k q)), (42, rt (iv a b c))] [] = some (rt (iv a b c), [], [PureX Tryz.prog 14 #[ii 1] (rt (iv m k q)), PureX Tryz.prog 42 #[iv m k q, iv l h p] (rt (iv a b c))]) := by kernel_rfl
theorem size_raw : runB Tryz.prog 99 #[iv l h p] [] [] [] [] = some (rt (tp [ii (mxI (mxI l (IntKind.i64.wrap (0 - h))) 0), ii (mxI h (IntKind.i64.wrap (0 - l)))]), [], []) := by kernel_rfl
theorem squa_f : runB Tryz.prog 46 #[iv l h p] [] [] [] [(12, rt (bb false), B1 l h p)] = some (rt (iv 0 0 true), [], [CallsV Tryz.prog (.func 12) #[sl 1002 1] (B1 l h p) (rt (bb false)) (B1 l h p)]) := by kernel_rfl
theorem squa_t : runB Tryz.prog 46 #[iv l h p] [] [] [(99, rt (tp [ii m, ii k])), (18, rt (iv a b c))] [(12, rt (bb true), B1 l h p), (91, rt (tp [ii x, ii y]), GS' m k)] =
    some (rt (iv a b c), [], [CallsV Tryz.prog (.func 12) #[sl 1002 1] (B1 l h p) (rt (bb true)) (B1 l h p), PureX Tryz.prog 99 #[iv l h p] (rt (tp [ii m, ii k])), CallsV Tryz.prog (.func 91) #[gS'] (GS' m k) (rt (tp [ii x, ii y])) (GS' m k), PureX Tryz.prog 18 #[ii x, ii y] (rt (iv a b c))]) := by kernel_rfl
theorem squa_p : runB Tryz.prog 46 #[iv l h p] [] [] [(99, rt (tp [ii m, ii k]))] [(12, rt (bb true), B1 l h p), (91, pbad, GS' m k)] =
    some (rt (iv 0 0 true), [], [CallsV Tryz.prog (.func 12) #[sl 1002 1] (B1 l h p) (rt (bb true)) (B1 l h p), PureX Tryz.prog 99 #[iv l h p] (rt (tp [ii m, ii k])), CallsV Tryz.prog (.func 91) #[gS'] (GS' m k) pbad (GS' m k)]) := by kernel_rfl
theorem iroot_f : runB Tryz.prog 48 #[iv l h p] [] [] [] [(12, rt (bb false), B1 l h p)] = some (rt (iv 0 0 true), [], [CallsV Tryz.prog (.func 12) #[sl 1002 1] (B1 l h p) (rt (bb false)) (B1 l h p)]) := by kernel_rfl
theorem iroot_t (n1 f1 n2 f2 : Nat) : runB Tryz.prog 48 #[iv l h p] [] [] [(103, rt (wv n1)), (102, rt (tp [wv f1, ii 0])), (101, rt (ii x)), (103, rt (wv n2)), (104, rt (tp [wv f2, ii 0])), (101, rt (ii y)), (18, rt (iv a b c))] [(12, rt (bb true), B1 l h p)] =
    some (rt (iv a b c), [], [CallsV Tryz.prog (.func 12) #[sl 1002 1] (B1 l h p) (rt (bb true)) (B1 l h p), PureX Tryz.prog 103 #[ii l, ii 1073741824] (rt (wv n1)), PureX Tryz.prog 102 #[wv n1] (rt (tp [wv f1, ii 0])), PureX Tryz.prog 101 #[wv f1, ii 0] (rt (ii x)), PureX Tryz.prog 103 #[ii h, ii 1073741824] (rt (wv n2)), PureX Tryz.prog 104 #[wv n2] (rt (tp [wv f2, ii 0])), PureX Tryz.prog 101 #[wv f2, ii 0] (rt (ii y)), PureX Tryz.prog 18 #[ii x, ii y] (rt (iv a b c))]) := by kernel_rfl
theorem iroot_p (n1 f1 : Nat) : runB Tryz.prog 48 #[iv l h p] [] [] [(103, rt (wv n1)), (102, rt (tp [wv f1, ii 2])), (101, pbad)] [(12, rt (bb true), B1 l h p)] =
    some (rt (iv 0 0 true), [], [CallsV Tryz.prog (.func 12) #[sl 1002 1] (B1 l h p) (rt (bb true)) (B1 l h p), PureX Tryz.prog 103 #[ii l, ii 1073741824] (rt (wv n1)), PureX Tryz.prog 102 #[wv n1] (rt (tp [wv f1, ii 2])), PureX Tryz.prog 101 #[wv f1, ii 2] pbad]) := by kernel_rfl
theorem cube_raw (i j : Int) (o : Bool) : runB Tryz.prog 50 #[iv l h p] [] [] [(48, rt (iv m k q)), (30, rt (iv i j o)), (44, rt (iv a b c))] [] =
    some (rt (iv a b c), [], [PureX Tryz.prog 48 #[iv l h p] (rt (iv m k q)), PureX Tryz.prog 30 #[iv l h p, iv m k q] (rt (iv i j o)), PureX Tryz.prog 44 #[iv i j o] (rt (iv a b c))]) := by kernel_rfl
abbrev B0 : Hp := [(1001, oiv [(l, h, p)])]
theorem isign_f : runB Tryz.prog 40 #[iv l h p] [] [] [] [(12, rt (bb false), B0 l h p)] = some (rt (tp [ii 0, bb false]), [], [CallsV Tryz.prog (.func 12) #[sl 1001 1] (B0 l h p) (rt (bb false)) (B0 l h p)]) := by kernel_rfl
theorem isign_1 : runB Tryz.prog 40 #[iv l h p] [] [n, t] [] [(12, rt (bb true), B0 l h p)] = some (rt (tp [ii 1, bb true]), [], [CallsV Tryz.prog (.func 12) #[sl 1001 1] (B0 l h p) (rt (bb true)) (B0 l h p), decide (0 < l) = true]) := by kernel_rfl
theorem isign_2 : runB Tryz.prog 40 #[iv l h p] [] [n, f, t] [] [(12, rt (bb true), B0 l h p)] = some (rt (tp [ii (-1), bb true]), [], [CallsV Tryz.prog (.func 12) #[sl 1001 1] (B0 l h p) (rt (bb true)) (B0 l h p), decide (0 < l) = false, decide (h < 0) = true]) := by kernel_rfl
theorem isign_3 : runB Tryz.prog 40 #[iv l h p] [] [n, f, f] [] [(12, rt (bb true), B0 l h p)] = some (rt (tp [ii 0, bb (l == h)]), [], [CallsV Tryz.prog (.func 12) #[sl 1001 1] (B0 l h p) (rt (bb true)) (B0 l h p), decide (0 < l) = false, decide (h < 0) = false]) := by kernel_rfl
end

/-- The quotient: outward over the four corners. -/
def qlo (x y : IV) : Int := mn4I (flI (x.1 * 1073741824) y.1) (flI (x.1 * 1073741824) y.2.1) (flI (x.2.1 * 1073741824) y.1) (flI (x.2.1 * 1073741824) y.2.1)
def qhi (x y : IV) : Int := mx4I (ceI (x.1 * 1073741824) y.1) (ceI (x.1 * 1073741824) y.2.1) (ceI (x.2.1 * 1073741824) y.1) (ceI (x.2.1 * 1073741824) y.2.1)
def quotV (x y : IV) : IV := if okV x = true ∧ okV y = true ∧ ¬ (y.1 ≤ 0 ∧ 0 ≤ y.2.1) then mkV (qlo x y) (qhi x y) else bdV
theorem mnmx_ok {lo hi : Int} (h : lo ≤ hi) : mkV (mnI lo hi) (mxI lo hi) = mkV lo hi := by
  have e1 : mnI lo hi = lo := by unfold mnI; split <;> omega
  have e2 : mxI lo hi = hi := by unfold mxI; split <;> omega
  rw [e1, e2]
theorem quot_v (x y : IV) : PureX Tryz.prog 42 #[ivv x, ivv y] (rt (ivv (quotV x y))) := by
  have hf := fine2 1003 x.1 x.2.1 x.2.2 y.1 y.2.1 y.2.2
  cases hk : okV x && okV y
  · rw [show (okI x.1 x.2.1 x.2.2 && okI y.1 y.2.1 y.2.2) = false from hk] at hf
    have e : quotV x y = bdV := if_neg (fun h => by rw [h.1, h.2.1] at hk; cases hk)
    rw [e]
    exact runB_pure mix (quot_f _ _ _ _ _ _) ⟨hf, trivial⟩ rfl rfl
  rw [show (okI x.1 x.2.1 x.2.2 && okI y.1 y.2.1 y.2.2) = true from hk] at hf
  rw [Bool.and_eq_true] at hk
  by_cases h0 : y.1 ≤ 0 ∧ 0 ≤ y.2.1
  · have e : quotV x y = bdV := if_neg (fun h => h.2.2 h0)
    rw [e]
    exact runB_pure mix (quot_z _ _ _ _ _ _) ⟨hf, decide_eq_true h0.1, decide_eq_true h0.2, trivial⟩ rfl rfl
  have e : quotV x y = mkV (qlo x y) (qhi x y) := if_pos ⟨hk.1, hk.2, h0⟩
  have hy := okV_iff.1 hk.2
  have g1 := fl_ce_any (x := x.1 * 1073741824) (y := y.1) (by omega)
  have g2 := fl_ce_any (x := x.1 * 1073741824) (y := y.2.1) (by omega)
  have g3 := fl_ce_any (x := x.2.1 * 1073741824) (y := y.1) (by omega)
  have g4 := fl_ce_any (x := x.2.1 * 1073741824) (y := y.2.1) (by omega)
  have m := mn4_le (a := flI (x.1 * 1073741824) y.1) (b := flI (x.1 * 1073741824) y.2.1) (c := flI (x.2.1 * 1073741824) y.1) (d := flI (x.2.1 * 1073741824) y.2.1)
  have M := le_mx4 (a := ceI (x.1 * 1073741824) y.1) (b := ceI (x.1 * 1073741824) y.2.1) (c := ceI (x.2.1 * 1073741824) y.1) (d := ceI (x.2.1 * 1073741824) y.2.1)
  have hle : qlo x y ≤ qhi x y := by unfold qlo qhi; omega
  rcases outQ_v hk.1 hk.2 h0 with ⟨-, hc⟩ | ⟨hn, hc⟩
  · have hm := make_v (qlo x y) (qhi x y)
    rw [mnmx_ok hle, ← e] at hm
    have hc2 := toQ rfl hc
    by_cases hs : y.1 ≤ 0
    · exact runB_pure mix (quot_2 _ _ _ _ _ _ (qlo x y) (qhi x y) _ _ _) ⟨hf, decide_eq_true hs, decide_eq_false (fun h => h0 ⟨hs, h⟩), hc2, hm, trivial⟩ rfl rfl
    · exact runB_pure mix (quot_1 _ _ _ _ _ _ (qlo x y) (qhi x y) _ _ _) ⟨hf, decide_eq_false hs, hc2, hm, trivial⟩ rfl rfl
  · have hb : quotV x y = bdV := by
      rw [e]
      refine mkV_no (fun hh => hn ?_)
      unfold isI
      unfold qlo qhi at hh
      omega
    rw [hb]
    have hc2 := toQ rfl hc
    by_cases hs : y.1 ≤ 0
    · exact runB_pure mix (quot_2p _ _ _ _ _ _) ⟨hf, decide_eq_true hs, decide_eq_false (fun h => h0 ⟨hs, h⟩), hc2, trivial⟩ rfl rfl
    · exact runB_pure mix (quot_1p _ _ _ _ _ _) ⟨hf, decide_eq_false hs, hc2, trivial⟩ rfl rfl
theorem inv_v (x : IV) : PureX Tryz.prog 44 #[ivv x] (rt (ivv (quotV (1073741824, 1073741824, false) x))) :=
  runB_pure mix (inv_raw _ _ _ _ _ _ _ _ _) ⟨(iof_v 1).is (show _ = rt (iv 1073741824 1073741824 false) from by kernel_rfl), quot_v _ _, trivial⟩ rfl rfl
/-- How far from 0 the numbers are, nearest and farthest. -/
def nearI (x : IV) : Int := mxI (mxI x.1 (-x.2.1)) 0
def farI (x : IV) : Int := mxI x.2.1 (-x.1)
theorem size_v {x : IV} (hx : okV x = true) : PureX Tryz.prog 99 #[ivv x] (rt (tp [ii (nearI x), ii (farI x)])) := by
  have a := okV_iff.1 hx
  have r := runB_pure mix (size_raw x.1 x.2.1 x.2.2) trivial rfl rfl
  rw [wrapI (by omega), wrapI (by omega), Int.zero_sub, Int.zero_sub] at r
  exact r
def squareV (x : IV) : IV := if okV x = true then mkV (mnI (flI (nearI x * nearI x) 1073741824) (flI (farI x * farI x) 1073741824)) (mxI (ceI (nearI x * nearI x) 1073741824) (ceI (farI x * farI x) 1073741824)) else bdV
theorem square_v (x : IV) : PureX Tryz.prog 46 #[ivv x] (rt (ivv (squareV x))) := by
  have hf := fine1 1002 x.1 x.2.1 x.2.2
  unfold squareV
  cases hk : okV x
  · rw [show okI x.1 x.2.1 x.2.2 = false from hk] at hf
    exact runB_pure mix (squa_f _ _ _) ⟨hf, trivial⟩ rfl rfl
  rw [show okI x.1 x.2.1 x.2.2 = true from hk] at hf
  have a := okV_iff.1 hk
  have hs := size_v hk
  have i1 : isI (nearI x) := by unfold isI nearI mxI; split <;> split <;> omega
  have i2 : isI (farI x) := by unfold isI farI mxI; split <;> omega
  have g1 := fl_ce (x := nearI x * nearI x) (z := nearI x * nearI x) (y := 1073741824) (by decide) (Int.le_refl _)
  have g2 := fl_ce (x := farI x * farI x) (z := farI x * farI x) (y := 1073741824) (by decide) (Int.le_refl _)
  have m := mnI_le (x := flI (nearI x * nearI x) 1073741824) (y := flI (farI x * farI x) 1073741824)
  have M := le_mxI (x := ceI (nearI x * nearI x) 1073741824) (y := ceI (farI x * farI x) 1073741824)
  simp only [if_true]
  rcases outS_v i1 i2 with ⟨-, hc⟩ | ⟨hn, hc⟩
  · have hm := make_v (mnI (flI (nearI x * nearI x) 1073741824) (flI (farI x * farI x) 1073741824)) (mxI (ceI (nearI x * nearI x) 1073741824) (ceI (farI x * farI x) 1073741824))
    rw [mnmx_ok (by omega)] at hm
    exact runB_pure mix (squa_t _ _ _ _ _ _ _ _ _ _) ⟨hf, hs, toS rfl hc, hm, trivial⟩ rfl rfl
  · rw [mkV_no (fun hh => hn (by unfold isI; omega))]
    exact runB_pure mix (squa_p _ _ _ _ _) ⟨hf, hs, toS rfl hc, trivial⟩ rfl rfl
/-- The root of a number, rounded up. -/
def upq (x : Nat) : Nat := if isq x * isq x = x then isq x else isq x + 1
def rootV (x : IV) : IV := if okV x = true ∧ 0 ≤ x.1 then mkV (isq (x.1 * 1073741824).toNat) (upq (x.2.1 * 1073741824).toNat) else bdV
theorem upq_ok {x : Nat} (hx : x < 57896044618658097711785492504343953926634992332820282019728792003956564819968) : x ≤ upq x * upq x ∧ upq x ≤ isq x + 1 ∧ isq x ≤ upq x := by
  have h := isq_ok hx
  unfold upq
  split
  · omega
  · exact ⟨Nat.le_of_lt h.2, Nat.le_refl _, by omega⟩
theorem sqr_le {r s : Nat} (h : r * r ≤ s * s) : r ≤ s := by
  rcases Nat.lt_or_ge s r with h1 | h1
  · have := Nat.mul_lt_mul'' h1 h1
    omega
  · exact h1
theorem isq_small {x : Nat} (hx : x ≤ 1237940039285380274899124224) : isq x ≤ 35184372088832 := by
  have h := (isq_ok (x := x) (by omega)).1
  have : isq x * isq x ≤ 35184372088832 * 35184372088832 := by omega
  exact sqr_le this
theorem isq_mono {x y : Nat} (h : x ≤ y) (hy : y ≤ 1237940039285380274899124224) : isq x ≤ isq y := by
  have a := (isq_ok (x := x) (by omega)).1
  have b := (isq_ok (x := y) (by omega)).2
  have : isq x * isq x < (isq y + 1) * (isq y + 1) := by omega
  rcases Nat.lt_or_ge (isq y) (isq x) with h1 | h1
  · have := Nat.mul_le_mul h1 h1
    simp only [Nat.succ_eq_add_one] at this
    omega
  · exact h1
theorem root_v (x : IV) : PureX Tryz.prog 48 #[ivv x] (rt (ivv (rootV x))) := by
  have hf := fine1 1002 x.1 x.2.1 x.2.2
  cases hk : okV x
  · rw [show okI x.1 x.2.1 x.2.2 = false from hk] at hf
    have e : rootV x = bdV := if_neg (fun h => by rw [hk] at h; cases h.1)
    rw [e]
    exact runB_pure mix (iroot_f _ _ _) ⟨hf, trivial⟩ rfl rfl
  rw [show okI x.1 x.2.1 x.2.2 = true from hk] at hf
  have a := okV_iff.1 hk
  have io : isI 1073741824 := by decide
  have i1 : isI x.1 := by unfold isI; omega
  have i2 : isI x.2.1 := by unfold isI; omega
  have p1 := prod_v i1 io
  have p2 := prod_v i2 io
  by_cases h0 : 0 ≤ x.1
  · have e : rootV x = mkV (isq (x.1 * 1073741824).toNat) (upq (x.2.1 * 1073741824).toNat) := if_pos ⟨hk, h0⟩
    obtain ⟨A, hA⟩ : ∃ A : Nat, (A : Int) = x.1 * 1073741824 := ⟨(x.1 * 1073741824).toNat, Int.toNat_of_nonneg (by omega)⟩
    obtain ⟨C, hC⟩ : ∃ C : Nat, (C : Int) = x.2.1 * 1073741824 := ⟨(x.2.1 * 1073741824).toNat, Int.toNat_of_nonneg (by omega)⟩
    rw [← hA] at p1 e
    rw [← hC] at p2 e
    rw [Int.toNat_natCast, Int.toNat_natCast] at e
    have hA2 : A ≤ 1237940039285380274899124224 := by omega
    have hC2 : C ≤ 1237940039285380274899124224 := by omega
    have s1 := isq_small hA2
    have s2 := isq_small hC2
    have s3 := isq_mono (x := A) (y := C) (by omega) hC2
    obtain ⟨u1, u2, u3⟩ := upq_ok (x := C) (by omega)
    have r1 := rfl_z (x := A) (by omega)
    have r2 := rce_z (x := C) (by omega)
    have w1 := whole_ok (x := (isq A : Int)) (by unfold inR; omega) (by unfold isI; omega)
    have w2 := whole_ok (x := (upq C : Int)) (by unfold inR; omega) (by unfold isI; omega)
    have hm := make_v (isq A : Int) (upq C : Int)
    rw [mnmx_ok (by omega), ← e] at hm
    exact runB_pure mix (iroot_t _ _ _ (isq A : Int) (upq C : Int) _ _ _ (nz (A : Int)) (nz (isq A : Int)) (nz (C : Int)) (nz (upq C : Int))) ⟨hf, p1, r1, w1, p2, r2, w2, hm, trivial⟩ rfl rfl
  · have e : rootV x = bdV := if_neg (fun h => h0 h.2)
    rw [e]
    have hr := rfl_neg (a := x.1 * 1073741824) (ii_in i1 io).1 (by omega)
    exact runB_pure mix (iroot_p _ _ _ (nz (x.1 * 1073741824)) (nz 0)) ⟨hf, p1, hr, whole_err (by decide) (by decide), trivial⟩ rfl rfl
def cubeV (x : IV) : IV := quotV (1073741824, 1073741824, false) (mulV x (rootV x))
theorem cube_v (x : IV) : PureX Tryz.prog 50 #[ivv x] (rt (ivv (cubeV x))) := runB_pure mix (cube_raw _ _ _ _ _ _ _ _ _ _ _ _) ⟨root_v x, imul_v _ _, inv_v _, trivial⟩ rfl rfl
def signV (x : IV) : Int × Bool := if okV x = true then (if 0 < x.1 then (1, true) else if x.2.1 < 0 then (-1, true) else (0, x.1 == x.2.1)) else (0, false)
theorem isign_v (x : IV) : PureX Tryz.prog 40 #[ivv x] (rt (tp [ii (signV x).1, bb (signV x).2])) := by
  have hf := fine1 1001 x.1 x.2.1 x.2.2
  unfold signV
  cases hk : okV x
  · rw [show okI x.1 x.2.1 x.2.2 = false from hk] at hf
    exact runB_pure mix (isign_f _ _ _) ⟨hf, trivial⟩ rfl rfl
  rw [show okI x.1 x.2.1 x.2.2 = true from hk] at hf
  simp only [if_true]
  by_cases h1 : 0 < x.1
  · rw [if_pos h1]
    exact runB_pure mix (isign_1 _ _ _) ⟨hf, decide_eq_true h1, trivial⟩ rfl rfl
  · rw [if_neg h1]
    by_cases h2 : x.2.1 < 0
    · rw [if_pos h2]
      exact runB_pure mix (isign_2 _ _ _) ⟨hf, decide_eq_false h1, decide_eq_true h2, trivial⟩ rfl rfl
    · rw [if_neg h2]
      exact runB_pure mix (isign_3 _ _ _) ⟨hf, decide_eq_false h1, decide_eq_false h2, trivial⟩ rfl rfl

end Go.Proofs.YtlioffkonfkflaaGreat

/- A number of an interval, by a number. -/
namespace Go.Proofs.YtlioffkonfkflaaGreat
open Go Go.RowKit Go.Shelf
set_option linter.unusedSimpArgs false
set_option linter.unusedVariables false

/- WAKES -/
theorem wk6_raw : runB Tryz.prog 52 #[] [] [] [(15, rt (iv (4294967296) (4294967296) false)), (48, rt (iv (2147483648) (2147483648) false)), (50, rt (iv (134217728) (134217728) false)), (15, rt (iv (1073741824) (1073741824) false)), (15, rt (iv (3221225472) (3221225472) false)), (42, rt (iv (357913941) (357913942) false)), (15, rt (iv (-2147483648) (-2147483648) false)), (40, rt (tp [ii (-1), bb true])), (40, rt (tp [ii 0, bb false])), (40, rt (tp [ii 0, bb true])), (15, rt (iv (2147483648) (2147483648) false)), (46, rt (iv (0) (4294967296) false)), (44, rt (iv 0 0 true)), (48, rt (iv 0 0 true)), (50, rt (iv 0 0 true))] [] =
    some (rt (bb true), [], [PureX Tryz.prog 15 #[ii (4)] (rt (iv (4294967296) (4294967296) false)),
      PureX Tryz.prog 48 #[iv (4294967296) (4294967296) false] (rt (iv (2147483648) (2147483648) false)),
      PureX Tryz.prog 50 #[iv (4294967296) (4294967296) false] (rt (iv (134217728) (134217728) false)),
      PureX Tryz.prog 15 #[ii (1)] (rt (iv (1073741824) (1073741824) false)),
      PureX Tryz.prog 15 #[ii (3)] (rt (iv (3221225472) (3221225472) false)),
      PureX Tryz.prog 42 #[iv (1073741824) (1073741824) false, iv (3221225472) (3221225472) false] (rt (iv (357913941) (357913942) false)),
      PureX Tryz.prog 15 #[ii (-2)] (rt (iv (-2147483648) (-2147483648) false)),
      PureX Tryz.prog 40 #[iv (-2147483648) (-2147483648) false] (rt (tp [ii (-1), bb true])),
      PureX Tryz.prog 40 #[iv (-1) (1) false] (rt (tp [ii 0, bb false])),
      PureX Tryz.prog 40 #[iv (0) (0) false] (rt (tp [ii 0, bb true])),
      PureX Tryz.prog 15 #[ii (2)] (rt (iv (2147483648) (2147483648) false)),
      PureX Tryz.prog 46 #[iv (-2147483648) (1073741824) false] (rt (iv (0) (4294967296) false)),
      PureX Tryz.prog 44 #[iv (-1) (1) false] (rt (iv 0 0 true)),
      PureX Tryz.prog 48 #[iv (-1) (1) false] (rt (iv 0 0 true)),
      PureX Tryz.prog 50 #[iv (0) (0) false] (rt (iv 0 0 true))]) := by kernel_rfl
theorem wakes6_c : PureX Tryz.prog 52 #[] (rt (bb true)) := by
  have h0 := runB_pure mix rof_4 trivial rfl rfl
  have h1 := (root_v (4294967296, 4294967296, false)).is (show _ = rt (iv (2147483648) (2147483648) false) from by kernel_rfl)
  have h2 := (cube_v (4294967296, 4294967296, false)).is (show _ = rt (iv (134217728) (134217728) false) from by kernel_rfl)
  have h3 := runB_pure mix rof_1 trivial rfl rfl
  have h4 := runB_pure mix rof_3 trivial rfl rfl
  have h5 := (quot_v (1073741824, 1073741824, false) (3221225472, 3221225472, false)).is (show _ = rt (iv (357913941) (357913942) false) from by kernel_rfl)
  have h6 := runB_pure mix rof_m2 trivial rfl rfl
  have h7 := (isign_v (-2147483648, -2147483648, false)).is (show _ = rt (tp [ii (-1), bb true]) from by kernel_rfl)
  have h8 := (isign_v (-1, 1, false)).is (show _ = rt (tp [ii 0, bb false]) from by kernel_rfl)
  have h9 := (isign_v (0, 0, false)).is (show _ = rt (tp [ii 0, bb true]) from by kernel_rfl)
  have h10 := runB_pure mix rof_2 trivial rfl rfl
  have h11 := (square_v (-2147483648, 1073741824, false)).is (show _ = rt (iv (0) (4294967296) false) from by kernel_rfl)
  have h12 := (inv_v (-1, 1, false)).is (show _ = rt (iv 0 0 true) from by kernel_rfl)
  have h13 := (root_v (-1, 1, false)).is (show _ = rt (iv 0 0 true) from by kernel_rfl)
  have h14 := (cube_v (0, 0, false)).is (show _ = rt (iv 0 0 true) from by kernel_rfl)
  exact runB_pure mix wk6_raw ⟨h0, h1, h2, h3, h4, h5, h6, h7, h8, h9, h10, h11, h12, h13, h14, trivial⟩ rfl rfl

end Go.Proofs.YtlioffkonfkflaaGreat

/- A product of numbers; the law of roots and squares. -/
namespace Go.Proofs.YtlioffkonfkflaaGreat
open Go Go.RowKit
set_option linter.unusedSimpArgs false
set_option linter.unusedVariables false
set_option maxRecDepth 100000

section
variable (l h : Int) (p : Bool) (i x r1 r2 s1 s2 : Int) (a b c d e f1 g k : Nat) (m n1 o q : Int)
end

theorem near_far {x : IV} (hx : okV x = true) {n : Int} (h1 : x.1 ≤ n) (h2 : n ≤ x.2.1) : 0 ≤ nearI x ∧ nearI x ≤ n.natAbs ∧ n.natAbs ≤ farI x ∧ nearI x ≤ farI x ∧ farI x ≤ 1152921504606846976 := by
  have a := okV_iff.1 hx
  unfold nearI farI mxI
  split <;> split <;> split <;> omega
theorem near_sq {x : IV} (hx : okV x = true) {n : Int} (h1 : x.1 ≤ n) (h2 : n ≤ x.2.1) : 0 ≤ nearI x * nearI x ∧ nearI x * nearI x ≤ n * n ∧ n * n ≤ farI x * farI x := by
  obtain ⟨a, b, c, d, _⟩ := near_far hx h1 h2
  have e : n * n = (n.natAbs : Int) * (n.natAbs : Int) := by rw [← Int.natCast_mul, Int.natAbs_mul_self]
  rw [e]
  exact ⟨Int.mul_nonneg a a, Int.mul_le_mul b b a (by omega), Int.mul_le_mul c c (by omega) (by omega)⟩
/-- What the square's ends are, where it may be. -/
theorem square_ends {x : IV} (hx : okV x = true) : squareV x = mkV (flI (nearI x * nearI x) 1073741824) (ceI (farI x * farI x) 1073741824) := by
  have k := okV_iff.1 hx
  have a := near_sq hx (Int.le_refl _) k.2.2.1
  have h := fl_mono (y := 1073741824) (by decide) (Int.le_trans a.2.1 a.2.2)
  have h2 := ce_mono (y := 1073741824) (by decide) (Int.le_trans a.2.1 a.2.2)
  unfold squareV
  rw [if_pos hx]
  congr 1
  · unfold mnI; split <;> omega
  · unfold mxI; split <;> omega
theorem square_big {x : IV} (hx : okV x = true) (hb : (squareV x).2.2 = true) : ¬ farI x ≤ 17592186044416 := by
  intro h
  have k := okV_iff.1 hx
  have a := near_sq hx (Int.le_refl _) k.2.2.1
  have b := near_far hx (Int.le_refl _) k.2.2.1
  have c : farI x * farI x ≤ 309485009821345068724781056 := Int.le_trans (Int.mul_le_mul h h (by omega) (by omega)) (by decide)
  have d := (le_fl (x := nearI x * nearI x) (y := 1073741824) (z := 0) (by decide)).2 (by omega)
  have e := (ce_le (x := farI x * farI x) (y := 1073741824) (z := 288230376151711744) (by decide)).2 (by omega)
  have f := fl_ce (x := nearI x * nearI x) (z := farI x * farI x) (y := 1073741824) (by decide) (by omega)
  rw [square_ends hx, mkV_ok (by omega) f (by omega)] at hb
  simp at hb
theorem square_holds {x : IV} (hx : okV x = true) (hb : (squareV x).2.2 = false) {n : Int} (h1 : x.1 ≤ n) (h2 : n ≤ x.2.1) :
    0 ≤ (squareV x).1 ∧ (squareV x).2.1 ≤ 1152921504606846976 ∧ (squareV x).1 ≤ (squareV x).2.1 ∧ (squareV x).1 * 1073741824 ≤ n * n ∧ n * n ≤ (squareV x).2.1 * 1073741824 := by
  rw [square_ends hx] at hb ⊢
  obtain ⟨a1, a2, a3, a4⟩ := mkV_bad hb
  rw [a4]
  have a := near_sq hx h1 h2
  have b := flI_b (x := nearI x * nearI x) (y := 1073741824) (by decide)
  have c := ceI_b (x := farI x * farI x) (y := 1073741824) (by decide)
  have d := (le_fl (x := nearI x * nearI x) (y := 1073741824) (z := 0) (by decide)).2 (by omega)
  refine ⟨d, a3, a2, ?_, ?_⟩ <;> simp only <;> omega
theorem root_ends {x : IV} (hx : okV x = true) (h0 : 0 ≤ x.1) : rootV x = (((isq (x.1 * 1073741824).toNat : Nat) : Int), ((upq (x.2.1 * 1073741824).toNat : Nat) : Int), false) ∧ isq (x.1 * 1073741824).toNat ≤ 35184372088832 ∧ upq (x.2.1 * 1073741824).toNat ≤ 35184372088833 ∧ isq (x.1 * 1073741824).toNat ≤ upq (x.2.1 * 1073741824).toNat := by
  have k := okV_iff.1 hx
  have a := isq_small (x := (x.1 * 1073741824).toNat) (by omega)
  have b := isq_small (x := (x.2.1 * 1073741824).toNat) (by omega)
  have c := isq_mono (x := (x.1 * 1073741824).toNat) (y := (x.2.1 * 1073741824).toNat) (by omega) (by omega)
  have d := upq_ok (x := (x.2.1 * 1073741824).toNat) (by omega)
  refine ⟨?_, a, by omega, by omega⟩
  unfold rootV
  rw [if_pos ⟨hx, h0⟩, mkV_ok (by omega) (by omega) (by omega)]
theorem root_bad {x : IV} (h0 : ¬ (okV x = true ∧ 0 ≤ x.1)) : rootV x = bdV := by unfold rootV; rw [if_neg h0]
theorem root_holds {x : IV} (hx : okV x = true) (h0 : 0 ≤ x.1) {n : Int} (h1 : x.1 ≤ n) (h2 : n ≤ x.2.1) :
    (rootV x).1 * (rootV x).1 ≤ n * 1073741824 ∧ n * 1073741824 ≤ (rootV x).2.1 * (rootV x).2.1 := by
  have k := okV_iff.1 hx
  have a := isq_ok (x := (x.1 * 1073741824).toNat) (by omega)
  have d := upq_ok (x := (x.2.1 * 1073741824).toNat) (by omega)
  rw [(root_ends hx h0).1]
  simp only
  have e : ((isq (x.1 * 1073741824).toNat : Nat) : Int) * ((isq (x.1 * 1073741824).toNat : Nat) : Int) ≤ ((x.1 * 1073741824).toNat : Int) := by rw [← Int.natCast_mul]; exact Int.ofNat_le.2 a.1
  have f : ((x.2.1 * 1073741824).toNat : Int) ≤ ((upq (x.2.1 * 1073741824).toNat : Nat) : Int) * ((upq (x.2.1 * 1073741824).toNat : Nat) : Int) := by rw [← Int.natCast_mul]; exact Int.ofNat_le.2 d.1
  omega
end Go.Proofs.YtlioffkonfkflaaGreat

/- Quotients of intervals: plain mathematics; the law of quotients. -/
namespace Go.Proofs.YtlioffkonfkflaaGreat
open Go Go.RowKit
set_option linter.unusedSimpArgs false
set_option linter.unusedVariables false
set_option maxRecDepth 100000

theorem fl_within {a1 a2 b1 b2 x y z : Int} (h1 : a1 ≤ x) (h2 : x ≤ a2) (k1 : b1 ≤ y) (k2 : y ≤ b2) (h0 : ¬ (b1 ≤ 0 ∧ 0 ≤ b2))
    (c1 : z ≤ flI (a1 * 1073741824) b1) (c2 : z ≤ flI (a1 * 1073741824) b2) (c3 : z ≤ flI (a2 * 1073741824) b1) (c4 : z ≤ flI (a2 * 1073741824) b2) : z ≤ flI (x * 1073741824) y := by
  have mb := mul_between (d := z) k1 k2
  have A := le_mnI (x := b1 * z) (y := b2 * z) (z := a2 * 1073741824)
  have B := mxI_le (x := b1 * z) (y := b2 * z) (z := a1 * 1073741824)
  rcases Int.lt_or_le 0 b1 with hp | hp
  · rw [le_fl (by omega)] at c1 c2 ⊢
    have := B c1 c2
    omega
  · rw [le_fln (by omega)] at c3 c4 ⊢
    have := A c3 c4
    omega
theorem ce_within {a1 a2 b1 b2 x y z : Int} (h1 : a1 ≤ x) (h2 : x ≤ a2) (k1 : b1 ≤ y) (k2 : y ≤ b2) (h0 : ¬ (b1 ≤ 0 ∧ 0 ≤ b2))
    (c1 : ceI (a1 * 1073741824) b1 ≤ z) (c2 : ceI (a1 * 1073741824) b2 ≤ z) (c3 : ceI (a2 * 1073741824) b1 ≤ z) (c4 : ceI (a2 * 1073741824) b2 ≤ z) : ceI (x * 1073741824) y ≤ z := by
  have mb := mul_between (d := z) k1 k2
  have A := le_mnI (x := b1 * z) (y := b2 * z) (z := a2 * 1073741824)
  have B := mxI_le (x := b1 * z) (y := b2 * z) (z := a1 * 1073741824)
  rcases Int.lt_or_le 0 b1 with hp | hp
  · rw [ce_le (by omega)] at c3 c4 ⊢
    have := A c3 c4
    omega
  · rw [ce_len (by omega)] at c1 c2 ⊢
    have := B c1 c2
    omega
theorem qlo_in {a b : IV} {x y : Int} (h1 : a.1 ≤ x) (h2 : x ≤ a.2.1) (k1 : b.1 ≤ y) (k2 : y ≤ b.2.1) (h0 : ¬ (b.1 ≤ 0 ∧ 0 ≤ b.2.1)) : qlo a b ≤ flI (x * 1073741824) y :=
  fl_within h1 h2 k1 k2 h0 mn4_le.1 mn4_le.2.1 mn4_le.2.2.1 mn4_le.2.2.2
theorem qhi_in {a b : IV} {x y : Int} (h1 : a.1 ≤ x) (h2 : x ≤ a.2.1) (k1 : b.1 ≤ y) (k2 : y ≤ b.2.1) (h0 : ¬ (b.1 ≤ 0 ∧ 0 ≤ b.2.1)) : ceI (x * 1073741824) y ≤ qhi a b :=
  ce_within h1 h2 k1 k2 h0 le_mx4.1 le_mx4.2.1 le_mx4.2.2.1 le_mx4.2.2.2
theorem qlo_qhi {a b : IV} (ha : okV a = true) (hb : okV b = true) (h0 : ¬ (b.1 ≤ 0 ∧ 0 ≤ b.2.1)) : qlo a b ≤ qhi a b := by
  have k := okV_iff.1 ha
  have l := okV_iff.1 hb
  have c := fl_ce_any (x := a.1 * 1073741824) (y := b.1) (by omega)
  have d := qlo_in (a := a) (b := b) (Int.le_refl _) k.2.2.1 (Int.le_refl _) l.2.2.1 h0
  have e := qhi_in (a := a) (b := b) (Int.le_refl _) k.2.2.1 (Int.le_refl _) l.2.2.1 h0
  omega
theorem quot_no {a b : IV} (h : ¬ (okV a = true ∧ okV b = true ∧ ¬ (b.1 ≤ 0 ∧ 0 ≤ b.2.1))) : quotV a b = bdV := if_neg h
theorem quot_bd {a b : IV} (hb : (quotV a b).2.2 = true) : quotV a b = bdV := by
  unfold quotV at hb ⊢
  split at hb
  · rename_i h; rw [if_pos h]; exact mk_bd hb
  · rename_i h; rw [if_neg h]
/-- A quotient that may be: its ends. -/
theorem quot_ends {a b : IV} (hb : (quotV a b).2.2 = false) : okV a = true ∧ okV b = true ∧ ¬ (b.1 ≤ 0 ∧ 0 ≤ b.2.1) ∧ quotV a b = (qlo a b, qhi a b, false) ∧ -1152921504606846976 ≤ qlo a b ∧ qlo a b ≤ qhi a b ∧ qhi a b ≤ 1152921504606846976 := by
  by_cases h : okV a = true ∧ okV b = true ∧ ¬ (b.1 ≤ 0 ∧ 0 ≤ b.2.1)
  · have e : quotV a b = mkV (qlo a b) (qhi a b) := if_pos h
    rw [e] at hb ⊢
    obtain ⟨c1, c2, c3, c4⟩ := mkV_bad hb
    exact ⟨h.1, h.2.1, h.2.2, c4, c1, c2, c3⟩
  · rw [quot_no h] at hb
    simp [bdV] at hb
theorem quot_okV {a b : IV} (hb : (quotV a b).2.2 = false) : okV (quotV a b) = true := by
  obtain ⟨h1, h2, h3, e, e1, e2, e3⟩ := quot_ends hb
  rw [e]
  exact okV_mk e1 e2 e3
/-- What holds the parts holds what comes of the parts. -/
theorem quot_part {a b c d : IV} (hc : okV c = true) (hd : okV d = true) (h1 : a.1 ≤ c.1) (h2 : c.2.1 ≤ a.2.1) (k1 : b.1 ≤ d.1) (k2 : d.2.1 ≤ b.2.1) (hb : (quotV a b).2.2 = false) : holdsV (quotV a b) (quotV c d) = true := by
  obtain ⟨ha, hb, h0, e, e1, e2, e3⟩ := quot_ends hb
  have kc := okV_iff.1 hc
  have kd := okV_iff.1 hd
  have g0 : ¬ (d.1 ≤ 0 ∧ 0 ≤ d.2.1) := by omega
  have l1 : qlo a b ≤ qlo c d := le_mn4 (qlo_in h1 (by omega) k1 (by omega) h0) (qlo_in h1 (by omega) (by omega) k2 h0) (qlo_in (by omega) h2 k1 (by omega) h0) (qlo_in (by omega) h2 (by omega) k2 h0)
  have l2 : qhi c d ≤ qhi a b := mx4_le (qhi_in h1 (by omega) k1 (by omega) h0) (qhi_in h1 (by omega) (by omega) k2 h0) (qhi_in (by omega) h2 k1 (by omega) h0) (qhi_in (by omega) h2 (by omega) k2 h0)
  have l3 := qlo_qhi hc hd g0
  have f : quotV c d = mkV (qlo c d) (qhi c d) := if_pos ⟨hc, hd, g0⟩
  rw [f, mkV_ok (by omega) l3 (by omega), e]
  exact holdsV_iff.2 ⟨okV_mk e1 e2 e3, okV_mk (by omega) l3 (by omega), l1, l2⟩
/-- A quotient of numbers is held. -/
theorem quot_holds {a b : IV} (hb : (quotV a b).2.2 = false) {x y : Int} (h1 : a.1 ≤ x) (h2 : x ≤ a.2.1) (k1 : b.1 ≤ y) (k2 : y ≤ b.2.1) :
    (0 < y → qlo a b * y ≤ x * 1073741824 ∧ x * 1073741824 ≤ qhi a b * y) ∧ (y < 0 → qhi a b * y ≤ x * 1073741824 ∧ x * 1073741824 ≤ qlo a b * y) := by
  obtain ⟨_, _, h0, _⟩ := quot_ends hb
  have l1 := qlo_in h1 h2 k1 k2 h0
  have l2 := qhi_in h1 h2 k1 k2 h0
  rw [Int.mul_comm (qlo a b) y, Int.mul_comm (qhi a b) y]
  constructor
  · intro hy
    exact ⟨(le_fl hy).1 l1, (ce_le hy).1 l2⟩
  · intro hy
    exact ⟨(ce_len hy).1 l2, (le_fln hy).1 l1⟩

section
variable (l h : Int) (p : Bool) (m k : Int) (q : Bool) (i j x y q1 q2 : Int) (a b c : Nat) (o u : Int)
end

end Go.Proofs.YtlioffkonfkflaaGreat
