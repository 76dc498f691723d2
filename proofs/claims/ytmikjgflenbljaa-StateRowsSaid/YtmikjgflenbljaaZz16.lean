/- Texts of the seat, joined. -/
import Derived.Test.YtmikjgflenbljaaZz13
import Derived.Test.YtmikjgflenbljaaZz3
/- States: bodies, as values and in blocks; windows on lists of bodies and of numbers; calls that keep new blocks. -/
namespace Go.Proofs.Ytmikjgflenbljaa
open Go Go.RowKit
set_option linter.unusedSimpArgs false
set_option linter.unusedVariables false

/-- Code in pieces. -/
def cA : Code → Code
  | .seq a _ => a
  | c => c
def cB : Code → Code
  | .seq _ b => b
  | c => c
def cK : Code → Code
  | .block _ c => c
  | .loop c => c
  | c => c
abbrev ptr (k : Nat) : Value := .pointer (some ⟨k, 0, none⟩)
abbrev pto (k o : Nat) : Value := .pointer (some ⟨k, o, none⟩)
abbrev ud : Value := .tuple ⟨[]⟩
abbrev slw (b off n cap : Nat) : Value := .slice (some ⟨b, off, none⟩) n cap
def tmpsOf (x : Option (Ex × List Value × Hp × List Prop)) : List Value := match x with | some r => r.2.1 | none => []
def lt (x : Option (Ex × List Value × Hp × List Prop)) (j : Nat) : Value := (tmpsOf x).getD j ud

/-- A function that is handed blocks; those of 'keep' are told of behind it; new ones are numbered from n on. -/
def runF (P : Program) (n : Nat) (keep : List Nat) (f : Nat) (args : Array Value) (H : Hp) (orc : List (Option Bool)) (ans : List (Nat × Res)) (bls : List (Nat × Res × Hp)) (lds : List (List Value)) : Option (Res × Hp × List Prop) :=
  (vfun P (smC P) 300 20 (.func f) args H { ctl2 n orc ans bls with lds := lds }).map fun x => (x.1, restrict x.2.1 keep, x.2.2.obl.reverse)
theorem runF_calls {P : Program} (hmix : P.follows .mixedOrders = true) {n : Nat} {keep : List Nat} {f : Nat} {args : Array Value} {H : Hp} {orc : List (Option Bool)} {ans : List (Nat × Res)} {bls : List (Nat × Res × Hp)} {lds : List (List Value)} {r : Res} {H' : Hp} {obl : List Prop}
    (h : runF P n keep f args H orc ans bls lds = some (r, H', obl)) (ho : AllP obl) (ha : wfA (domB H) args = true) (hc : closedH H' = true) : CallsV P (.func f) args H r H' := by
  unfold runF at h
  rw [Option.map_eq_some_iff] at h
  obtain ⟨⟨r', H1, c'⟩, h1, h2⟩ := h
  simp only [Prod.mk.injEq] at h2
  obtain ⟨rfl, rfl, rfl⟩ := h2
  have key := (vfun_ok (smC_ok P) hmix 300 20 _ _ _ _ _ _ _ h1).2 ((allP_reverse _).1 ho) rfl ha
  intro β w hR
  refine (key β w hR).mono ?_
  rintro e w' ⟨β', hb, rfl, hR'⟩
  exact ⟨β', hb, rfl, hR'.part (restrict_sub _ _) hc⟩

/-- A body: where it is, how fast. -/
abbrev Bd := P3 × P3
def fl6 (b : Bd) : List Value := [ii b.1.1, ii b.1.2.1, ii b.1.2.2, ii b.2.1, ii b.2.2.1, ii b.2.2.2]
def bv (b : Bd) : Value := .agg ⟨fl6 b⟩
/-- A state as a value. -/
def sv (s : Int) (l : Value) : Value := .agg ⟨[ii s, l]⟩
/-- Bodies in a block: in a window, in a block that may grow. -/
def wob (L : List Bd) : Obj := .cells ⟨L.flatMap fl6⟩ 42 (2, 0)
def gob (L : List Bd) : Obj := .cells ⟨L.flatMap fl6⟩ 42 (1, 6)
/-- Bodies as cells, behind others. -/
def cwb (off : Nat) (L : List Bd) : Array Value := ⟨List.replicate off ud ++ L.flatMap fl6⟩
abbrev HWb (off : Nat) (L : List Bd) : Hp := [(1, win off (cwb off L))]
theorem fl6_drop : ∀ (L : List Bd) (i : Nat) (x : Bd), L[i]? = some x → ((L.flatMap fl6).drop (i * 6)).take 6 = fl6 x
  | [], i, x, h => by simp at h
  | y :: L, 0, x, h => by
    simp only [List.getElem?_cons_zero, Option.some.injEq] at h
    subst h
    rfl
  | y :: L, i + 1, x, h => by
    rw [List.getElem?_cons_succ] at h
    have := fl6_drop L i x h
    rw [List.flatMap_cons, show (i + 1) * 6 = 6 + i * 6 by omega, ← List.drop_drop]
    exact this
theorem cwb_take (off : Nat) {L : List Bd} {i : Nat} {x : Bd} (h : L[i]? = some x) : ((cwb off L).toList.drop (off + i * 6)).take 6 = fl6 x := by
  show ((List.replicate off ud ++ L.flatMap fl6).drop (off + i * 6)).take 6 = fl6 x
  rw [List.drop_append, List.length_replicate, List.drop_eq_nil_of_le (by simp), List.nil_append, Nat.add_sub_cancel_left]
  exact fl6_drop L i x h
theorem fl6_plain (L : List Bd) : wfL noB (L.flatMap fl6) = true := by
  rw [wfL_all]
  intro v hv
  obtain ⟨x, -, hx⟩ := List.mem_flatMap.1 hv
  simp only [fl6, List.mem_cons, List.not_mem_nil, or_false] at hx
  rcases hx with rfl | rfl | rfl | rfl | rfl | rfl <;> rfl
theorem cwb_plain (off : Nat) (L : List Bd) : wfA noB (cwb off L) = true := by
  rw [wfA_list, wfL_all]
  intro v hv
  rcases List.mem_append.1 (show v ∈ List.replicate off ud ++ L.flatMap fl6 from hv) with h | h
  · rw [(List.mem_replicate.1 h).2]; rfl
  · exact (wfL_all _ _).1 (fl6_plain L) v h

/-- Pieces of code that end at once. -/
theorem LoopN.lastRet {P : Program} {b : Code} {t t1 : List Value} {D D1 : List VDef} {H H1 : Hp} (h1 : StepV P b t D H .ret t1 D1 H1) : LoopN P b 1 t D H .ret t1 D1 H1 := by
  refine ⟨h1.1, fun n0 A w0 β a w hR => wpIn_mono (h1.2 n0 A w0 β a w hR) ?_⟩
  rintro e a' w' ⟨rfl, hR'⟩
  exact ⟨rfl, hR'⟩
theorem StepV.blockrW {P : Program} {b : Code} {t t1 : List Value} {D D1 : List VDef} {H H1 : Hp} {id : Nat} (h : StepV P b t D H .ret t1 D1 H1) : StepV P (.block id b) t D H .ret t1 D1 H1 := by
  refine ⟨h.1, fun n0 A w0 β a w hR => wpIn_block (wpIn_mono (h.2 n0 A w0 β a w hR) ?_)⟩
  rintro e a' w' ⟨rfl, hR'⟩
  exact ⟨rfl, hR'⟩
theorem StepV.seqrW {P : Program} {x y : Code} {t t1 : List Value} {D D1 : List VDef} {H H1 : Hp} (h1 : StepV P x t D H .ret t1 D1 H1) : StepV P (.seq x y) t D H .ret t1 D1 H1 := by
  refine ⟨h1.1, fun n0 A w0 β a w hR => wpIn_seq (wpIn_mono (h1.2 n0 A w0 β a w hR) ?_)⟩
  rintro e a' w' ⟨rfl, hR'⟩
  exact ⟨rfl, hR'⟩
theorem LoopI.preW {P : Program} {b : Code} {H0 : Hp} {m : Nat} {t t2 t' : List Value} {H H2 H' : Hp} {ex : Ex} {ρ : Nat → Nat} (hr : Renum H0 t [] H t2 [] H2 ρ) (h : LoopI P b H0 m t2 H2 ex t' H') : LoopI P b H0 m t H ex t' H' := by
  intro n0 A w0 β β1 a w hb hR
  exact h n0 A w0 β _ a w (fun i hi => by rw [hr.fix i hi]; exact hb i hi) (RelA.renum (H0 := H0) hR hr)
end Go.Proofs.Ytmikjgflenbljaa

/- The program's Within, over a list of bodies that lies in a window. -/
namespace Go.Proofs.Ytmikjgflenbljaa
open Go Go.RowKit
set_option linter.unusedSimpArgs false
set_option linter.unusedVariables false
set_option maxRecDepth 100000

noncomputable def b16 : Code := match Try.f16.body with | some c => c | none => .skip
noncomputable def WL : Code := cK (cK (cB (cA (cB b16))))
theorem b16_eq : Try.f16.body = some (.seq (cA b16) (.seq (.seq (cA (cA (cB b16))) (.block 0 (.loop WL))) (cB (cB b16)))) := by kernel_rfl
/-- The frame within the loop: ahead of a round, and behind it. -/
def TI (s b1 b2 : Int) (sl : Value) (n' : Nat) (i : Int) (X : Nat → Value) : List Value := [sv s sl, ii b1, ii b2, ptr 3000, ud, ud, bb false, ud, X 8, pto 3000 1, sl, ii n', ii i, X 13, X 14, X 15, X 16, X 17, X 18, X 19, X 20, X 21, X 22, X 23, X 24, X 25, X 26, X 27, X 28]
def TJ (k : Nat) (s b1 b2 : Int) (sl : Value) (n' : Nat) (j : Int) (q : Nat) (d : Bool) (b : Bd) : List Value := [sv s sl, ii b1, ii b2, ptr 3000, ud, ud, bb false, ud, ptr k, pto 3000 1, sl, ii n', ii j, bb d, pto 1 q, bv b, ptr k, vv b.1, ii b1, bb true, bb false, bb false, pto k 3, vv b.2, ii b2, bb true, bb false, bb false, ii j]
def TX (s b1 b2 : Int) (sl : Value) (n' : Nat) (j : Int) (q : Nat) (d : Bool) (b : Bd) (k : Nat) : Value := (TJ 5000 s b1 b2 sl n' j q d b).getD k ud
theorem TJ_I (s b1 b2 : Int) (sl : Value) (n' : Nat) (j : Int) (q : Nat) (d : Bool) (b : Bd) : TJ 5000 s b1 b2 sl n' j q d b = TI s b1 b2 sl n' j (TX s b1 b2 sl n' j q d b) := rfl
abbrev HS (s : Int) (sl : Value) (off : Nat) (c : Array Value) : Hp := [(3000, .cells ⟨[ii s, sl]⟩ 24 (0, 0)), (1, win off c)]
abbrev HSd (s : Int) (sl : Value) (off : Nat) (c : Array Value) : Hp := (5000, deadO) :: HS s sl off c
abbrev HSb (s : Int) (sl : Value) (off : Nat) (c : Array Value) (b : Bd) : Hp := (4000, .cells ⟨fl6 b⟩ 42 (0, 0)) :: HSd s sl off c
section
variable (off n' cap : Nat) (c : Array Value) (s b1 b2 i : Int) (b : Bd) (X : Nat → Value)
theorem q16_0 : runLS Try.prog 3000 (cA b16) (frame0 Try.f16 #[sv s (slw 1 off n' cap), ii b1, ii b2]) [(1, win off c)] [] [] [] [] = some (.normal, [sv s (slw 1 off n' cap), ii b1, ii b2, ptr 3000, ud, ud, bb false] ++ List.replicate 22 ud, HS s (slw 1 off n' cap) off c, []) := by kernel_rfl
theorem q16_1 : runLS Try.prog 3001 (cA (cA (cB b16))) ([sv s (slw 1 off n' cap), ii b1, ii b2, ptr 3000, ud, ud, bb false] ++ List.replicate 22 ud) (HS s (slw 1 off n' cap) off c) [] [] [] [] = some (.normal, TI s b1 b2 (slw 1 off n' cap) n' 0 (fun _ => ud), HS s (slw 1 off n' cap) off c, []) := by kernel_rfl
theorem q16_r : runLS Try.prog 4000 WL (TI s b1 b2 (slw 1 off n' cap) n' i X) (HSd s (slw 1 off n' cap) off c) [t, n, n] [(27, rt (bb true)), (27, rt (bb true))] [] [fl6 b] = some (.normal, TJ 4000 s b1 b2 (slw 1 off n' cap) n' (wi (i + 1)) (off + i.toNat * 6) (decide (i < (n' : Int))) b, HSb s (slw 1 off n' cap) off c b,
    [decide (i < (n' : Int)) = true, 0 ≤ i ∧ i < (n' : Int), off ≤ off + i.toNat * 6, (c.toList.drop (off + i.toNat * 6)).take 6 = fl6 b, PureX Try.prog 27 #[vv b.1, ii b1] (rt (bb true)), PureX Try.prog 27 #[vv b.2, ii b2] (rt (bb true))]) := by kernel_rfl
theorem q16_x : ∃ Y, runLS Try.prog 4000 WL (TI s b1 b2 (slw 1 off n' cap) n' i X) (HSd s (slw 1 off n' cap) off c) [f] [] [] [] = some (.exit 0, TI s b1 b2 (slw 1 off n' cap) n' i Y, HSd s (slw 1 off n' cap) off c, [decide (i < (n' : Int)) = false]) :=
  ⟨lt (runLS Try.prog 4000 WL (TI s b1 b2 (slw 1 off n' cap) n' i X) (HSd s (slw 1 off n' cap) off c) [f] [] [] []), by kernel_rfl⟩
theorem q16_n0 : ∃ T, runLS Try.prog 4000 WL (TI s b1 b2 (slw 1 off n' cap) n' i X) (HSd s (slw 1 off n' cap) off c) [t, n] [(27, rt (bb false))] [] [fl6 b] = some (.ret, T, HSb s (slw 1 off n' cap) off c b,
    [decide (i < (n' : Int)) = true, 0 ≤ i ∧ i < (n' : Int), off ≤ off + i.toNat * 6, (c.toList.drop (off + i.toNat * 6)).take 6 = fl6 b, PureX Try.prog 27 #[vv b.1, ii b1] (rt (bb false))]) ∧ vresults Try.prog Try.f16 T (HSb s (slw 1 off n' cap) off c b) = some (bb false) :=
  ⟨tmpsOf (runLS Try.prog 4000 WL (TI s b1 b2 (slw 1 off n' cap) n' i X) (HSd s (slw 1 off n' cap) off c) [t, n] [(27, rt (bb false))] [] [fl6 b]), by kernel_rfl, by kernel_rfl⟩
theorem q16_n1 : ∃ T, runLS Try.prog 4000 WL (TI s b1 b2 (slw 1 off n' cap) n' i X) (HSd s (slw 1 off n' cap) off c) [t, n, n] [(27, rt (bb true)), (27, rt (bb false))] [] [fl6 b] = some (.ret, T, HSb s (slw 1 off n' cap) off c b,
    [decide (i < (n' : Int)) = true, 0 ≤ i ∧ i < (n' : Int), off ≤ off + i.toNat * 6, (c.toList.drop (off + i.toNat * 6)).take 6 = fl6 b, PureX Try.prog 27 #[vv b.1, ii b1] (rt (bb true)), PureX Try.prog 27 #[vv b.2, ii b2] (rt (bb false))]) ∧ vresults Try.prog Try.f16 T (HSb s (slw 1 off n' cap) off c b) = some (bb false) :=
  ⟨tmpsOf (runLS Try.prog 4000 WL (TI s b1 b2 (slw 1 off n' cap) n' i X) (HSd s (slw 1 off n' cap) off c) [t, n, n] [(27, rt (bb true)), (27, rt (bb false))] [] [fl6 b]), by kernel_rfl, by kernel_rfl⟩
theorem q16_e : ∃ T, runLS Try.prog 4000 (cB (cB b16)) (TI s b1 b2 (slw 1 off n' cap) n' i X) (HSd s (slw 1 off n' cap) off c) [] [] [] [] = some (.ret, T, HSd s (slw 1 off n' cap) off c, []) ∧ vresults Try.prog Try.f16 T (HSd s (slw 1 off n' cap) off c) = some (bb true) :=
  ⟨tmpsOf (runLS Try.prog 4000 (cB (cB b16)) (TI s b1 b2 (slw 1 off n' cap) n' i X) (HSd s (slw 1 off n' cap) off c) [] [] [] []), by kernel_rfl, by kernel_rfl⟩
end
abbrev rhQ : Nat → Nat := rho [(5000, 4000)]
theorem HS_at (ρ : Nat → Nat) (s : Int) (sl : Value) (off : Nat) (c : Array Value) (hs : ren (rnm ρ) sl = sl) (h0 : ρ 3000 = 3000) (h1 : ρ 1 = 1) (H1 : Hp) (hl : ∀ i o, look (HS s sl off c) i = some o → look H1 i = some o) : AtOK H1 ρ (HS s sl off c) := by
  have e1 : renO ρ (.cells ⟨[ii s, sl]⟩ 24 (0, 0)) = .cells ⟨[ii s, ren (rnm ρ) sl]⟩ 24 (0, 0) := rfl
  refine ⟨fun _ => ?_, fun _ => ?_, trivial⟩
  · rw [h0, e1, hs]; exact hl _ _ rfl
  · rw [h1]; exact hl _ _ rfl
theorem slw_ren (off n' cap : Nat) : ren (rnm rhQ) (slw 1 off n' cap) = slw 1 off n' cap := by
  simp only [ren, capR_rnm]
  kernel_rfl
theorem slw_ren0 (off n' cap : Nat) : ren (rnm (rho [])) (slw 1 off n' cap) = slw 1 off n' cap := by
  simp only [ren, capR_rnm]
  kernel_rfl
theorem tj_ren (s b1 b2 : Int) (off n' cap : Nat) (j : Int) (q : Nat) (d : Bool) (b : Bd) : renL (rnm rhQ) (TJ 5000 s b1 b2 (slw 1 off n' cap) n' j q d b) = TJ 4000 s b1 b2 (slw 1 off n' cap) n' j q d b := by
  have e : renL (rnm rhQ) (TJ 5000 s b1 b2 (slw 1 off n' cap) n' j q d b) = [sv s (ren (rnm rhQ) (slw 1 off n' cap)), ii b1, ii b2, ptr 3000, ud, ud, bb false, ud, ptr 4000, pto 3000 1, ren (rnm rhQ) (slw 1 off n' cap), ii n', ii j, bb d, pto 1 q, bv b, ptr 4000, vv b.1, ii b1, bb true, bb false, bb false, pto 4000 3, vv b.2, ii b2, bb true, bb false, bb false, ii j] := by kernel_rfl
  rw [e, slw_ren]
  rfl
theorem ren_q (s b1 b2 : Int) (off n' cap : Nat) (c : Array Value) (j : Int) (q : Nat) (d : Bool) (b : Bd) : Renum (HS s (slw 1 off n' cap) off c) (TJ 4000 s b1 b2 (slw 1 off n' cap) n' j q d b) [] (HSb s (slw 1 off n' cap) off c b) (TJ 5000 s b1 b2 (slw 1 off n' cap) n' j q d b) [] (HSd s (slw 1 off n' cap) off c) rhQ :=
  renum_of (by kernel_rfl) (tj_ren s b1 b2 off n' cap j q d b) ⟨fun h => (by cases h), HS_at _ _ _ _ _ (slw_ren _ _ _) rfl rfl _ (fun i o ho => by
    have hne : ∀ k, k = 4000 ∨ k = 5000 → k ≠ i := fun k hk e => by
      subst e
      rcases hk with rfl | rfl <;> cases ho
    simp only [HSb, HSd, look, if_neg (hne 4000 (.inl rfl)), if_neg (hne 5000 (.inr rfl))]
    exact ho)⟩ (by kernel_rfl) (by kernel_rfl) (by kernel_rfl)
theorem ren_q0 (s b1 b2 : Int) (off n' cap : Nat) (c : Array Value) : Renum (HS s (slw 1 off n' cap) off c) (TI s b1 b2 (slw 1 off n' cap) n' 0 (fun _ => ud)) [] (HS s (slw 1 off n' cap) off c) (TI s b1 b2 (slw 1 off n' cap) n' 0 (fun _ => ud)) [] (HSd s (slw 1 off n' cap) off c) (rho []) :=
  renum_of (by kernel_rfl) (by
    have e : renL (rnm (rho [])) (TI s b1 b2 (slw 1 off n' cap) n' 0 (fun _ => ud)) = [sv s (ren (rnm (rho [])) (slw 1 off n' cap)), ii b1, ii b2, ptr 3000, ud, ud, bb false, ud, ud, pto 3000 1, ren (rnm (rho [])) (slw 1 off n' cap), ii n', ii 0, ud, ud, ud, ud, ud, ud, ud, ud, ud, ud, ud, ud, ud, ud, ud, ud] := by kernel_rfl
    rw [e, slw_ren0]
    rfl) ⟨fun h => (by cases h), HS_at _ _ _ _ _ (slw_ren0 _ _ _) rfl rfl _ (fun i o ho => ho)⟩ (by kernel_rfl) (by kernel_rfl) (by kernel_rfl)

/-- Is a body within? -/
def bwth (b1 b2 : Int) (b : Bd) : Bool := wth b.1 b1 && wth b.2 b2
theorem HS_dom {s : Int} {sl : Value} {off : Nat} {c : Array Value} {G : Hp} (h : ∀ i o, look (HS s sl off c) i = some o → domB G i = true) : ∀ i, domB (HS s sl off c) i = true → domB G i = true := fun i hi => by
  obtain ⟨o, ho⟩ := domB_iff.1 hi
  exact h i o ho
theorem HSd_dom (s : Int) (sl : Value) (off : Nat) (c : Array Value) : ∀ i, domB (HS s sl off c) i = true → domB (HSd s sl off c) i = true := fun i hi => by
  unfold domB at *
  simp only [look] at *
  split
  · rfl
  · exact hi
theorem HSb_dom (s : Int) (sl : Value) (off : Nat) (c : Array Value) (b : Bd) : ∀ i, domB (HS s sl off c) i = true → domB (HSb s sl off c b) i = true := fun i hi => by
  have := HSd_dom s sl off c i hi
  unfold domB at *
  simp only [look] at *
  split
  · rfl
  · exact this
theorem loop16 (s b1 b2 : Int) (h1 : isI b1) (h2 : isI b2) (off cap : Nat) (L : List Bd) (hL : L.length ≤ maxLen) : ∀ (j i : Nat) (X : Nat → Value), i + j = L.length →
    ((L.drop i).all (bwth b1 b2) = true → ∃ r Y, LoopI Try.prog WL (HS s (slw 1 off L.length cap) off (cwb off L)) r (TI s b1 b2 (slw 1 off L.length cap) L.length i X) (HSd s (slw 1 off L.length cap) off (cwb off L)) (.exit 0) (TI s b1 b2 (slw 1 off L.length cap) L.length L.length Y) (HSd s (slw 1 off L.length cap) off (cwb off L))) ∧
    ((L.drop i).all (bwth b1 b2) = false → ∃ r T b, LoopI Try.prog WL (HS s (slw 1 off L.length cap) off (cwb off L)) r (TI s b1 b2 (slw 1 off L.length cap) L.length i X) (HSd s (slw 1 off L.length cap) off (cwb off L)) .ret T (HSb s (slw 1 off L.length cap) off (cwb off L) b) ∧ vresults Try.prog Try.f16 T (HSb s (slw 1 off L.length cap) off (cwb off L) b) = some (bb false))
  | 0, i, X, hi => by
    have e : i = L.length := by omega
    subst e
    refine ⟨fun _ => ?_, fun h => ?_⟩
    · obtain ⟨Y, hY⟩ := q16_x off L.length cap (cwb off L) s b1 b2 L.length X
      exact ⟨1, Y, LoopI.last (HSd_dom _ _ _ _) (runLS_step mix hY ⟨decide_eq_false (by omega), trivial⟩)⟩
    · rw [List.drop_length] at h
      cases h
  | j + 1, i, X, hi => by
    have hlt : i < L.length := by omega
    have hx : L[i]? = some L[i] := List.getElem?_eq_getElem hlt
    have hdr : L.drop i = L[i] :: L.drop (i + 1) := List.drop_eq_getElem_cons hlt
    rw [hdr]
    generalize L[i] = x at hx
    have tk := cwb_take off hx
    have hix : 0 ≤ (i : Int) ∧ (i : Int) < (L.length : Int) := by omega
    have b0 : off ≤ off + (i : Int).toNat * 6 := Nat.le_add_right _ _
    have hw : wi ((i : Int) + 1) = ((i + 1 : Nat) : Int) := by simp only [maxLen] at hL; unfold wi; rw [wrapI (by omega)]; omega
    simp only [List.all_cons]
    have v1 := within_v x.1 h1
    have v2 := within_v x.2 h2
    cases k1 : wth x.1 b1
    · rw [k1] at v1
      refine ⟨fun h => (by simp [bwth, k1] at h), fun _ => ?_⟩
      obtain ⟨T, hT, hv⟩ := q16_n0 off L.length cap (cwb off L) s b1 b2 i x X
      exact ⟨1, T, x, LoopI.lastRet (HSd_dom _ _ _ _) (runLS_step mix hT ⟨decide_eq_true hix.2, hix, b0, tk, v1, trivial⟩), hv⟩
    cases k2 : wth x.2 b2
    · rw [k1] at v1
      rw [k2] at v2
      refine ⟨fun h => (by simp [bwth, k1, k2] at h), fun _ => ?_⟩
      obtain ⟨T, hT, hv⟩ := q16_n1 off L.length cap (cwb off L) s b1 b2 i x X
      exact ⟨1, T, x, LoopI.lastRet (HSd_dom _ _ _ _) (runLS_step mix hT ⟨decide_eq_true hix.2, hix, b0, tk, v1, v2, trivial⟩), hv⟩
    rw [k1] at v1
    rw [k2] at v2
    have kb : bwth b1 b2 x = true := by simp [bwth, k1, k2]
    rw [kb, Bool.true_and]
    have st := runLS_step mix (q16_r off L.length cap (cwb off L) s b1 b2 i x X) ⟨decide_eq_true hix.2, hix, b0, tk, v1, v2, trivial⟩
    rw [hw] at st
    have rn := ren_q s b1 b2 off L.length cap (cwb off L) ((i + 1 : Nat) : Int) (off + (i : Int).toNat * 6) (decide ((i : Int) < (L.length : Int))) x
    rw [TJ_I] at rn
    obtain ⟨i1, i2⟩ := loop16 s b1 b2 h1 h2 off cap L hL j (i + 1) (TX s b1 b2 (slw 1 off L.length cap) L.length ((i + 1 : Nat) : Int) (off + (i : Int).toNat * 6) (decide ((i : Int) < (L.length : Int))) x) (by omega)
    refine ⟨fun h => ?_, fun h => ?_⟩
    · obtain ⟨r, Y, hl⟩ := i1 h
      exact ⟨r + 1, Y, LoopI.round (HSd_dom _ _ _ _) st rn hl⟩
    · obtain ⟨r, T, b, hl, hv⟩ := i2 h
      exact ⟨r + 1, T, b, LoopI.round (HSd_dom _ _ _ _) st rn hl, hv⟩
/-- The program's Within, of a list that lies in a window. -/
theorem sw_w (s : Int) {b1 b2 : Int} (h1 : isI b1) (h2 : isI b2) (off cap : Nat) (L : List Bd) (hL : L.length ≤ maxLen) : CallsV Try.prog (.func 16) #[sv s (slw 1 off L.length cap), ii b1, ii b2] (HWb off L) (rt (bb (L.all (bwth b1 b2)))) (HWb off L) := by
  have s0 := runLS_step mix (q16_0 off L.length cap (cwb off L) s b1 b2) trivial
  have s1 := runLS_step mix (q16_1 off L.length cap (cwb off L) s b1 b2) trivial
  obtain ⟨l1, l2⟩ := loop16 s b1 b2 h1 h2 off cap L hL L.length 0 (fun _ => ud) (by omega)
  rw [List.drop_zero] at l1 l2
  have q0 := ren_q0 s b1 b2 off L.length cap (cwb off L)
  have hsub : ∀ {G : Hp}, look G 1 = some (win off (cwb off L)) → Sub (HWb off L) G := fun hg i o hi => by
    simp only [look] at hi
    split at hi
    · rename_i e; subst e; rw [hg, ← hi]
    · cases hi
  cases hk : L.all (bwth b1 b2)
  · obtain ⟨r, T, b, hl, hv⟩ := l2 hk
    have lp := StepV.blockrW (id := 0) (LoopI.loop (HSb_dom _ _ _ _ _) (LoopI.preW q0 hl))
    exact callsV_step Try.func16 b16_eq (StepV.seq s0 (StepV.seqrW (StepV.seq s1 lp))) rfl hv rfl (hsub rfl) rfl
  · obtain ⟨r, Y, hl⟩ := l1 hk
    obtain ⟨T, hE, hv⟩ := q16_e off L.length cap (cwb off L) s b1 b2 L.length Y
    have lp := (LoopI.loop (HSd_dom _ _ _ _) (LoopI.preW q0 hl)).block (id := 0)
    exact callsV_step Try.func16 b16_eq (StepV.seq s0 (StepV.seq (StepV.seq s1 lp) (runLS_step mix hE trivial))) rfl hv rfl (hsub rfl) rfl

end Go.Proofs.Ytmikjgflenbljaa

/- What a call answers of a list of bodies that it only reads, wherever the list lies. -/
namespace Go.Proofs.Ytmikjgflenbljaa
open Go Go.RowKit
set_option linter.unusedSimpArgs false
set_option linter.unusedVariables false
attribute [local irreducible] shf

theorem cwb_get {off j : Nat} {L : List Bd} (h : off ≤ j) : (cwb off L)[j]? = (L.flatMap fl6)[j - off]? := by
  show (Array.mk (List.replicate off ud ++ L.flatMap fl6))[j]? = _
  simp only [List.getElem?_toArray]
  rw [List.getElem?_append_right (by simpa using h), List.length_replicate]
theorem flat_size : ∀ L : List Bd, (L.flatMap fl6).length = L.length * 6
  | [] => rfl
  | b :: L => by rw [List.flatMap_cons, List.length_append, flat_size L, List.length_cons]; show 6 + _ = _; omega
/-- The answer, wherever the list lies. -/
def AtW (P : Program) (f : Nat) (args : Value → Array Value) (L : List Bd) (v : Value) : Prop :=
  ∀ (B off cap : Nat) (w : World), L.length ≤ cap → cap ≤ maxLen → WinAt off (cwb off L) w.heap[B]? →
    Calls P f (args (slw B off L.length cap)) w fun e w' => e = .returned v ∧ Below w.heap.size w w'
theorem only_one {o : Obj} {i : Nat} (hi : liveB [(1, o)] i = true) : i = 1 := by
  unfold liveB at hi
  simp only [look] at hi
  split at hi
  · rename_i o' ho
    split at ho
    · rename_i e; exact e.symm
    · cases ho
  · cases hi
theorem cap_ne {cap : Nat} (h : cap ≤ maxLen) : cap ≠ capU := fun e => absurd (e ▸ h) (by decide)
/-- One block that is only read: that it lies. -/
theorem rel_one {β : Num} {w : World} {o : Obj} (hl : LiesO β (β 1).2 o w.heap[(β 1).1]?) (hw : winO o = true) (hlv : isLive o = true) (hwf : wfO (domB [(1, o)]) o = true) : Rel (rng β [(1, o)]) w β [(1, o)] w := by
  obtain ⟨y, hy⟩ := liesO_some hlv hl
  have hlt : (β 1).1 < w.heap.size := (Array.getElem?_eq_some_iff.1 hy).1
  have hwb : winB [(1, o)] 1 = true := by unfold winB; simp [look, hw]
  refine ⟨fun i x hx => ?_, fun i j hi hj _ _ => (only_one hi).trans (only_one hj).symm, fun i hi => .inl (rng_own.2 ⟨i, hi, rfl⟩), fun i hi => ⟨fun hw' => ⟨by rw [only_one hi]; exact hlt, rng_win.2 ⟨i, hi, hw', rfl⟩⟩, fun _ => by rw [only_one hi]; exact hwb⟩, fun i x hx => ?_, Kp.refl _ _⟩
  · simp only [look] at hx
    split at hx
    · rename_i e
      simp only [Option.some.injEq] at hx
      rw [← hx, ← e]
      exact hl
    · cases hx
  · simp only [look] at hx
    split at hx
    · simp only [Option.some.injEq] at hx
      rw [← hx]
      exact hwf
    · cases hx
/-- Behind a call that was handed one block that it only read. -/
theorem below_one {β β' : Num} {w w' : World} {o : Obj} {H' : Hp} (hw : winO o = true) (hR : Rel (rng β [(1, o)]) w β' H' w') : Below w.heap.size w w' :=
  hR.kp.below (Nat.le_refl _) (fun k h1 h2 => by
    obtain ⟨i, hi, e⟩ := rng_own.1 h1
    refine absurd (rng_win.2 ⟨i, hi, ?_, e⟩) h2
    rw [only_one hi]
    unfold winB
    simp [look, hw])
section
variable {P : Program} {f : Nat} {args : Value → Array Value} {L : List Bd} {v : Value}
theorem at_of_win (ha : ∀ β s, renA β (args s) = args (ren β s)) (hv : wfV noB v = true)
    (h : ∀ off cap, L.length ≤ cap → cap ≤ maxLen → CallsV P (.func f) (args (slw 1 off L.length cap)) (HWb off L) (rt v) (HWb off L)) : AtW P f args L v := by
  intro B off cap w hl hc hw
  have hR : Rel (rng (fun _ => (B, 0)) (HWb off L)) w (fun _ => (B, 0)) (HWb off L) w := rel_one (o := win off (cwb off L)) ⟨fun h => (by cases h), fun _ => ⟨Nat.zero_le _, hw⟩, cwb_plain off L⟩ rfl rfl rfl
  have hh := h off cap hl hc (fun _ => (B, 0)) w hR
  have e : ren (fun _ => (B, 0)) (slw 1 off L.length cap) = slw B off L.length cap := by
    simp only [ren, renP, shf_zero, Nat.add_zero, capR_ne (x := (B, 0)) (cap_ne hc)]
  simp only [ha, e] at hh
  refine hh.mono ?_
  rintro e w' ⟨β', _, rfl, hR'⟩
  exact ⟨by simp only [Res.out, ren_plain β' hv], below_one rfl hR'⟩
theorem at_of_seen (ha : ∀ β s, renA β (args s) = args (ren β s)) (hv : wfV noB v = true)
    (h : ∀ cap, L.length ≤ cap → cap ≤ maxLen → CallsV P (.func f) (args (slw 1 0 L.length cap)) [(1, wob L)] (rt v) [(1, wob L)]) : AtW P f args L v := by
  intro B off cap w hl hc hw
  have hpl : wfA noB ⟨L.flatMap fl6⟩ = true := fl6_plain L
  have hsh : shf (B, capU + off) = off := by rw [shf_eq]; exact Nat.add_sub_cancel_left _ _
  have hR : Rel (rng (fun _ => (B, capU + off)) [(1, wob L)]) w (fun _ => (B, capU + off)) [(1, wob L)] w := rel_one (o := wob L) ⟨fun h => (by cases h), fun h => (by cases h), fun _ _ => by
    obtain ⟨cur, T, fr, h1, h2⟩ := hw
    refine ⟨cur, T, fr, h1, fun j v hj => h2 _ v (Nat.le_trans (Nat.le_of_eq hsh.symm) (Nat.le_trans (Nat.le_of_eq (shf_eq _)) (Nat.le_add_left _ _))) ?_⟩
    rw [renA_plain _ hpl] at hj
    have e2 : (B, capU + off).2 - capU = off := (shf_eq _).symm.trans hsh
    rw [e2, cwb_get (Nat.le_add_left _ _), Nat.add_sub_cancel]
    simpa using hj⟩ rfl rfl (by
      simp only [wob, wfO, Bool.and_eq_true]
      exact ⟨wfA_mono (p := noB) (fun _ h => (by cases h)) _ hpl, by decide⟩)
  have hh := h cap hl hc (fun _ => (B, capU + off)) w hR
  have e : ren (fun _ => (B, capU + off)) (slw 1 0 L.length cap) = slw B off L.length cap := by
    simp only [ren, renP, hsh, Nat.zero_add, capR_ne (x := (B, capU + off)) (cap_ne hc)]
  simp only [ha, e] at hh
  refine hh.mono ?_
  rintro e w' ⟨β', _, rfl, hR'⟩
  exact ⟨by simp only [Res.out, ren_plain β' hv], below_one rfl hR'⟩
/-- .. and so whatever blocks are told of. -/
theorem at_calls (h : AtW P f args L v) (ha : ∀ β s, renA β (args s) = args (ren β s)) (hv : wfV noB v = true) {H : Hp} {s : Value}
    (hs : ∀ β w, Rel (rng β H) w β H w → ∃ B off cap, ren β s = slw B off L.length cap ∧ L.length ≤ cap ∧ cap ≤ maxLen ∧ WinAt off (cwb off L) w.heap[B]?) : CallsV P (.func f) (args s) H (rt v) H := by
  intro β w hR
  obtain ⟨B, off, cap, e, h1, h2, h3⟩ := hs β w hR
  simp only [ha, e]
  refine (h B off cap w h1 h2 h3).mono ?_
  rintro e w' ⟨rfl, hb⟩
  exact ⟨β, fun _ _ => rfl, by simp only [Res.out, ren_plain β hv], hR.below hb⟩
/-- A list in a window whose cells are told. -/
theorem at_seen (h : AtW P f args L v) (ha : ∀ β s, renA β (args s) = args (ren β s)) (hv : wfV noB v = true) {H : Hp} {k cap : Nat} (hk : look H k = some (wob L)) (hl : L.length ≤ cap) (hc : cap ≤ maxLen) :
    CallsV P (.func f) (args (slw k 0 L.length cap)) H (rt v) H := by
  refine at_calls h ha hv (fun β w hR => ?_)
  obtain ⟨cur, T, fr, h1, h2⟩ := (hR.lies k _ hk).2.2 (by simp) (by simp)
  refine ⟨(β k).1, shf (β k), cap, by simp only [ren, renP, Nat.zero_add, capR_ne (x := β k) (cap_ne hc)], hl, hc, cur, T, fr, h1, fun j v hj hv => ?_⟩
  rw [cwb_get hj] at hv
  have := h2 (j - shf (β k)) v (by rw [renA_plain _ (show wfA noB ⟨L.flatMap fl6⟩ = true from fl6_plain L)]; simpa using hv)
  rw [← shf_eq, Nat.sub_add_cancel hj] at this
  exact this
/-- A list in a block that may grow. -/
theorem at_own (h : AtW P f args L v) (ha : ∀ β s, renA β (args s) = args (ren β s)) (hv : wfV noB v = true) {H : Hp} {k : Nat} (hk : look H k = some (gob L)) :
    CallsV P (.func f) (args (slw k 0 L.length capU)) H (rt v) H := by
  refine at_calls h ha hv (fun β w hR => ?_)
  obtain ⟨cur, h1, h2, h3, h4, h5⟩ := (hR.lies k _ hk).2.1 rfl
  rw [renA_plain _ (show wfA noB ⟨L.flatMap fl6⟩ = true from fl6_plain L)] at h4 h5
  have hsz : (Array.mk (L.flatMap fl6)).size = L.length * 6 := by simp only [List.size_toArray]; exact flat_size L
  rw [hsz] at h4 h5
  simp only at h3 h5
  refine ⟨(β k).1, 0, (β k).2, by simp only [ren, renP, shf0 (le_capU h2), Nat.add_zero, capR, if_true], by omega, h2, cur, _, _, h1, fun j v hj hv => ?_⟩
  rw [cwb_get hj, Nat.sub_zero, ← h5, List.getElem?_take] at hv
  split at hv
  · simpa using hv
  · cases hv
/-- A list in a block that is not looked into. -/
theorem at_opq (h : AtW P f args L v) (ha : ∀ β s, renA β (args s) = args (ren β s)) (hv : wfV noB v = true) {H : Hp} {k : Nat} {c : Array Value} {T u2 : Nat} {u3 : Bool} (hk : look H k = some (.chan 6 c false T u2 u3)) (hcl : c = ⟨L.flatMap fl6⟩) :
    CallsV P (.func f) (args (slw k 0 L.length capU)) H (rt v) H := by
  subst hcl
  refine at_calls h ha hv (fun β w hR => ?_)
  obtain ⟨⟨cur, h1, h2, h3, h4, h5⟩, hp⟩ := opq_at hR hk
  have hsz : (Array.mk (L.flatMap fl6)).size = L.length * 6 := by simp only [List.size_toArray]; exact flat_size L
  rw [hsz] at h4 h5
  have h5 : cur.toList.take (L.length * 6) = L.flatMap fl6 := h5
  refine ⟨(β k).1, 0, (β k).2, by simp only [ren, renP, shf0 (le_capU h2), Nat.add_zero, capR, if_true], by omega, h2, cur, _, _, h1, fun j v hj hv => ?_⟩
  rw [cwb_get hj, Nat.sub_zero, ← h5, List.getElem?_take] at hv
  split at hv
  · simpa using hv
  · cases hv
end
end Go.Proofs.Ytmikjgflenbljaa
