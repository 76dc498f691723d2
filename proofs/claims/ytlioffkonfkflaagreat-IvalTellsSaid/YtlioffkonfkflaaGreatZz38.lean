/- Texts of the seat, joined. -/
import Derived.Test.YtlioffkonfkflaaGreatZz37
import Derived.Test.YtlioffkonfkflaaGreatZz16
/- Lists of intervals that lie in the world's memory: the program's Fine. -/
namespace Go.Proofs.YtlioffkonfkflaaGreat
open Go Go.RowKit
set_option linter.unusedSimpArgs false
set_option linter.unusedVariables false
set_option maxRecDepth 100000

noncomputable def a12 : Code := match Tryz.f12.body with | some c => (match cK (cB (cA (cB c))) with | .rangeFunc _ _ a _ => a | c => c) | none => .skip
noncomputable def y12 : Code := match Tryz.f12.body with | some c => (match cK (cB (cA (cB c))) with | .rangeFunc _ _ _ b => b | c => c) | none => .skip
abbrev yvq : Value := .func (.yield 1003) #[] #[]
noncomputable def t12 (s : Value) : Array Value := ⟨[s, ud, ptr 1000, ud, s, .func (.func 114) #[] #[ptr 1001], ud, ud, ud, ud, ud, ud, ud, ud, ud, ud, ud, ud, ud, ud, ud, ud, ud, ud, ud, ud]⟩
noncomputable def Lr12 (s : Value) (st : LoopState) (pd : Option Code) : Obj := .loop { state := st, pending := pd, fn := 0, tmps := t12 s, params := #[6], assign := a12, body := y12, defers := 1002 }
noncomputable def HQ (s : Value) (off : Nat) (c : Array Value) (st : LoopState) (pd : Option Code) : Hp := [(1001, .cells #[s] 24 (0, 0)), (1, win off c), (1000, .cells #[bb false] 4 (0, 0)), (1002, .deferred (some [])), (1003, Lr12 s st pd)]
noncomputable def b114 : Code := match Tryz.f114.body with | some c => c | none => .skip
noncomputable def IL : Code := cK (cK (cB b114))
theorem b114_eq : Tryz.f114.body = some (.seq (cA b114) (.block 0 (.loop IL))) := by kernel_rfl
def TIw (s : Value) (n' : Nat) (i : Int) (X : Nat → Value) : List Value := [yvq, ptr 1001, ud, ud, X 4, s, ii n', ii i, X 8, X 9, X 10, X 11, X 12, X 13, X 14, X 15]
def TJw (k : Nat) (s : Value) (n' : Nat) (i j : Int) (q : Nat) (b : Bool) (l h : Int) (p : Bool) : List Value := [yvq, ptr 1001, ud, ud, ptr k, s, ii n', ii i, bb b, pto 1 q, iv l h p, yvq, iv l h p, bb true, bb false, ii j]
section
variable (off n' cap : Nat) (c : Array Value) (i l h : Int) (p : Bool) (X : Nat → Value)
/- a round of Fine -/
theorem y12_ok : runY Tryz.prog 1003 #[iv l h p] (HQ (slw 1 off n' cap) off c .ready none) [f, n, n, f, n, n, n, n, f, n, n, f] [] [] = some (rt (bb true), HQ (slw 1 off n' cap) off c .ready none, [p = false, decide (l < -1152921504606846976) = false, decide (h < l) = false, decide (1152921504606846976 < h) = false]) := by kernel_rfl
noncomputable def HQn (s : Value) (off : Nat) (c : Array Value) : Hp := [(1000, .cells #[bb false] 4 (0, 0)), (1001, .cells #[s] 24 (0, 0)), (1, win off c), (1002, .deferred (some [])), (1003, Lr12 s .done (some .ret))]
theorem y12_n0 : runY Tryz.prog 1003 #[iv l h p] (HQ (slw 1 off n' cap) off c .ready none) [t] [] [] = some (rt (bb false), HQn (slw 1 off n' cap) off c, [p = true]) := by kernel_rfl
theorem y12_n1 : runY Tryz.prog 1003 #[iv l h p] (HQ (slw 1 off n' cap) off c .ready none) [f, n, n, t] [] [] = some (rt (bb false), HQn (slw 1 off n' cap) off c, [p = false, decide (l < -1152921504606846976) = true]) := by kernel_rfl
theorem y12_n2 : runY Tryz.prog 1003 #[iv l h p] (HQ (slw 1 off n' cap) off c .ready none) [f, n, n, f, n, n, n, n, t] [] [] = some (rt (bb false), HQn (slw 1 off n' cap) off c, [p = false, decide (l < -1152921504606846976) = false, decide (h < l) = true]) := by kernel_rfl
theorem y12_n3 : runY Tryz.prog 1003 #[iv l h p] (HQ (slw 1 off n' cap) off c .ready none) [f, n, n, f, n, n, n, n, f, n, n, t] [] [] = some (rt (bb false), HQn (slw 1 off n' cap) off c, [p = false, decide (l < -1152921504606846976) = false, decide (h < l) = false, decide (1152921504606846976 < h) = true]) := by kernel_rfl
/- the iterator -/
theorem i114_0 : runLS Tryz.prog 3000 (cA b114) (frame0 Tryz.f114 #[yvq, ptr 1001]) (HQ (slw 1 off n' cap) off c .ready none) [] [] [] [] = some (.normal, TIw (slw 1 off n' cap) n' 0 (fun _ => ud), HQ (slw 1 off n' cap) off c .ready none, []) := by kernel_rfl
noncomputable abbrev HQd (s : Value) (off : Nat) (c : Array Value) : Hp := (5000, deadO) :: HQ s off c .ready none
theorem i114_r : runLS Tryz.prog 4000 IL (TIw (slw 1 off n' cap) n' i X) (HQd (slw 1 off n' cap) off c) [t] [] [(1001003, rt (bb true), HQ (slw 1 off n' cap) off c .ready none)] [[ii l, ii h, bb p]] = some (.normal, TJw 4000 (slw 1 off n' cap) n' (IntKind.i64.wrap (i + 1)) (IntKind.i64.wrap (i + 1)) (off + i.toNat * 3) (decide (i < (n' : Int))) l h p, HQ (slw 1 off n' cap) off c .ready none ++ [(4000, iW l h p), (5000, deadO)],
    [decide (i < (n' : Int)) = true, 0 ≤ i ∧ i < (n' : Int), off ≤ off + i.toNat * 3, (c.toList.drop (off + i.toNat * 3)).take 3 = [ii l, ii h, bb p], CallsV Tryz.prog (.yield 1003) #[iv l h p] (HQ (slw 1 off n' cap) off c .ready none) (rt (bb true)) (HQ (slw 1 off n' cap) off c .ready none)]) := by kernel_rfl
theorem i114_n : ∃ T, runLS Tryz.prog 4000 IL (TIw (slw 1 off n' cap) n' i X) (HQd (slw 1 off n' cap) off c) [t] [] [(1001003, rt (bb false), HQ (slw 1 off n' cap) off c .done (some .ret))] [[ii l, ii h, bb p]] = some (.ret, T, HQ (slw 1 off n' cap) off c .done (some .ret) ++ [(4000, iW l h p), (5000, deadO)],
    [decide (i < (n' : Int)) = true, 0 ≤ i ∧ i < (n' : Int), off ≤ off + i.toNat * 3, (c.toList.drop (off + i.toNat * 3)).take 3 = [ii l, ii h, bb p], CallsV Tryz.prog (.yield 1003) #[iv l h p] (HQ (slw 1 off n' cap) off c .ready none) (rt (bb false)) (HQ (slw 1 off n' cap) off c .done (some .ret))]) :=
  ⟨tmpsOf (runLS Tryz.prog 4000 IL (TIw (slw 1 off n' cap) n' i X) (HQd (slw 1 off n' cap) off c) [t] [] [(1001003, rt (bb false), HQ (slw 1 off n' cap) off c .done (some .ret))] [[ii l, ii h, bb p]]), by kernel_rfl⟩
theorem i114_x : ∃ Y, runLS Tryz.prog 4000 IL (TIw (slw 1 off n' cap) n' i X) (HQd (slw 1 off n' cap) off c) [f] [] [] [] = some (.exit 0, TIw (slw 1 off n' cap) n' i Y, HQd (slw 1 off n' cap) off c, [decide (i < (n' : Int)) = false]) :=
  ⟨lt (runLS Tryz.prog 4000 IL (TIw (slw 1 off n' cap) n' i X) (HQd (slw 1 off n' cap) off c) [f] [] [] []), by kernel_rfl⟩
/- the whole -/
theorem f12_ok : runB Tryz.prog 12 #[slw 1 off n' cap] (HW off c) [] [] [(114, rt (tp []), HQ (slw 1 off n' cap) off c .ready none)] = some (rt (bb true), HW off c, [CallsV Tryz.prog (.func 114) #[yvq, ptr 1001] (HQ (slw 1 off n' cap) off c .ready none) (rt (tp [])) (HQ (slw 1 off n' cap) off c .ready none)]) := by kernel_rfl
theorem f12_no : runB Tryz.prog 12 #[slw 1 off n' cap] (HW off c) [] [] [(114, rt (tp []), HQ (slw 1 off n' cap) off c .done (some .ret))] = some (rt (bb false), HW off c, [CallsV Tryz.prog (.func 114) #[yvq, ptr 1001] (HQ (slw 1 off n' cap) off c .ready none) (rt (tp [])) (HQ (slw 1 off n' cap) off c .done (some .ret))]) := by kernel_rfl
end
abbrev rhQ : Nat → Nat := rho [(5000, 4000)]
theorem slw_ren (off n' cap : Nat) : ren (rnm rhQ) (slw 1 off n' cap) = slw 1 off n' cap := by
  simp only [ren, renP, capR_rnm]
  rfl
theorem slw_ren0 (off n' cap : Nat) : ren (rnm (rho [])) (slw 1 off n' cap) = slw 1 off n' cap := by
  simp only [ren, renP, capR_rnm]
  rfl
theorem t12_ren (ρ : Nat → Nat) (s : Value) (hs : ren (rnm ρ) s = s) (h0 : ρ 1000 = 1000) (h1 : ρ 1001 = 1001) : renA (rnm ρ) (t12 s) = t12 s := by
  have e : renA (rnm ρ) (t12 s) = ⟨[ren (rnm ρ) s, ud, .pointer (some ⟨ρ 1000, 0, none⟩), ud, ren (rnm ρ) s, .func (.func 114) #[] #[.pointer (some ⟨ρ 1001, 0, none⟩)], ud, ud, ud, ud, ud, ud, ud, ud, ud, ud, ud, ud, ud, ud, ud, ud, ud, ud, ud, ud]⟩ := by kernel_rfl
  rw [e, hs, h0, h1]
  rfl
theorem HQ_at (ρ : Nat → Nat) (s : Value) (off : Nat) (c : Array Value) (hs : ren (rnm ρ) s = s) (h0 : ρ 1000 = 1000) (h1 : ρ 1001 = 1001) (h2 : ρ 1002 = 1002) (h3 : ρ 1003 = 1003) (h4 : ρ 1 = 1) (H1 : Hp) (hl : ∀ i o, look (HQ s off c .ready none) i = some o → look H1 i = some o) : AtOK H1 ρ (HQ s off c .ready none) := by
  have e1 : renO ρ (.cells #[s] 24 (0, 0)) = .cells #[ren (rnm ρ) s] 24 (0, 0) := rfl
  have e3 : renO ρ (Lr12 s .ready none) = .loop { state := .ready, pending := none, fn := 0, tmps := renA (rnm ρ) (t12 s), params := #[6], assign := a12, body := y12, defers := ρ 1002 } := rfl
  refine ⟨fun _ => ?_, fun _ => ?_, fun _ => ?_, fun _ => ?_, fun _ => ?_, trivial⟩
  · rw [h1, e1, hs]; exact hl _ _ rfl
  · rw [h4]; exact hl _ _ rfl
  · rw [h0]; exact hl _ _ rfl
  · rw [h2]; exact hl _ _ rfl
  · rw [h3, e3, t12_ren ρ s hs h0 h1, h2]; exact hl _ _ rfl
theorem tj_ren (k : Nat) (off n' cap : Nat) (i j : Int) (q : Nat) (b : Bool) (l h : Int) (p : Bool) : renL (rnm rhQ) (TJw 5000 (slw 1 off n' cap) n' i j q b l h p) = TJw 4000 (slw 1 off n' cap) n' i j q b l h p := by
  have e : renL (rnm rhQ) (TJw 5000 (slw 1 off n' cap) n' i j q b l h p) = [yvq, ptr 1001, ud, ud, ptr 4000, ren (rnm rhQ) (slw 1 off n' cap), ii n', ii i, bb b, pto 1 q, iv l h p, yvq, iv l h p, bb true, bb false, ii j] := by kernel_rfl
  rw [e, slw_ren]
  rfl
theorem ren_q (off n' cap : Nat) (c : Array Value) (i j : Int) (q : Nat) (b : Bool) (l h : Int) (p : Bool) : Renum (HQ (slw 1 off n' cap) off c .ready none) (TJw 4000 (slw 1 off n' cap) n' i j q b l h p) [] (HQ (slw 1 off n' cap) off c .ready none ++ [(4000, iW l h p), (5000, deadO)]) (TJw 5000 (slw 1 off n' cap) n' i j q b l h p) [] (HQd (slw 1 off n' cap) off c) rhQ :=
  renum_of (by kernel_rfl) (tj_ren 0 off n' cap i j q b l h p) ⟨fun h => (by cases h), HQ_at _ _ _ _ (slw_ren _ _ _) rfl rfl rfl rfl rfl _ (fun i o ho => by rw [look_append, ho])⟩ (by kernel_rfl) (by kernel_rfl) (by kernel_rfl)
theorem ren_q0 (off n' cap : Nat) (c : Array Value) : Renum (HQ (slw 1 off n' cap) off c .ready none) (TIw (slw 1 off n' cap) n' 0 (fun _ => ud)) [] (HQ (slw 1 off n' cap) off c .ready none) (TIw (slw 1 off n' cap) n' 0 (fun _ => ud)) [] (HQd (slw 1 off n' cap) off c) (rho []) :=
  renum_of (by kernel_rfl) (by
    have e : renL (rnm (rho [])) (TIw (slw 1 off n' cap) n' 0 (fun _ => ud)) = [yvq, ptr 1001, ud, ud, ud, ren (rnm (rho [])) (slw 1 off n' cap), ii n', ii 0, ud, ud, ud, ud, ud, ud, ud, ud] := by kernel_rfl
    rw [e, slw_ren0]
    rfl) ⟨fun h => (by cases h), HQ_at _ _ _ _ (slw_ren0 _ _ _) rfl rfl rfl rfl rfl _ (fun i o ho => ho)⟩ (by kernel_rfl) (by kernel_rfl) (by kernel_rfl)
theorem LoopI.preW {P : Program} {b : Code} {H0 : Hp} {m : Nat} {t t2 t' : List Value} {H H2 H' : Hp} {ex : Ex} {ρ : Nat → Nat} (hr : Renum H0 t [] H t2 [] H2 ρ) (h : LoopI P b H0 m t2 H2 ex t' H') : LoopI P b H0 m t H ex t' H' := by
  intro n0 A w0 β β1 a w hb hR
  exact h n0 A w0 β _ a w (fun i hi => by rw [hr.fix i hi]; exact hb i hi) (RelA.renum (H0 := H0) hR hr)
theorem HQ_dom (s : Value) (off : Nat) (c : Array Value) (st : LoopState) (pd : Option Code) (i : Nat) : domB (HQ s off c .ready none) i = true → domB (HQ s off c st pd) i = true := fun hi => by
  obtain ⟨e, he, rfl⟩ := memK _ i hi
  simp only [HQ, List.mem_cons, List.not_mem_nil, or_false] at he
  rcases he with rfl | rfl | rfl | rfl | rfl <;> rfl
theorem HQn_eq (s : Value) (off : Nat) (c : Array Value) (i : Nat) : look (HQ s off c .done (some .ret)) i = look (HQn s off c) i :=
  look_eq (G := HQ s off c .done (some .ret)) (H := HQn s off c) ⟨rfl, rfl, rfl, rfl, rfl, trivial⟩ ⟨rfl, rfl, rfl, rfl, rfl, trivial⟩ i
/-- A round of Fine. -/
theorem y12_w (off n' cap : Nat) (c : Array Value) (x : IV) : (okV x = true → CallsV Tryz.prog (.yield 1003) #[ivv x] (HQ (slw 1 off n' cap) off c .ready none) (rt (bb true)) (HQ (slw 1 off n' cap) off c .ready none)) ∧
    (okV x = false → CallsV Tryz.prog (.yield 1003) #[ivv x] (HQ (slw 1 off n' cap) off c .ready none) (rt (bb false)) (HQ (slw 1 off n' cap) off c .done (some .ret))) := by
  refine ⟨fun h => ?_, fun h => ?_⟩
  · have k := okV_iff.1 h
    exact runY_calls mix (y12_ok off n' cap c x.1 x.2.1 x.2.2) ⟨k.1, decide_eq_false (by omega), decide_eq_false (by omega), decide_eq_false (by omega), trivial⟩ rfl rfl (by kernel_rfl)
  · have go : ∀ {orc obl}, runY Tryz.prog 1003 #[iv x.1 x.2.1 x.2.2] (HQ (slw 1 off n' cap) off c .ready none) orc [] [] = some (rt (bb false), HQn (slw 1 off n' cap) off c, obl) → AllP obl → CallsV Tryz.prog (.yield 1003) #[ivv x] (HQ (slw 1 off n' cap) off c .ready none) (rt (bb false)) (HQ (slw 1 off n' cap) off c .done (some .ret)) := fun h ho =>
      CallsV.permY (runY_calls mix h ho rfl rfl (by kernel_rfl)) (HQn_eq _ _ _)
    by_cases k0 : x.2.2 = true
    · exact go (y12_n0 off n' cap c x.1 x.2.1 x.2.2) ⟨k0, trivial⟩
    have k0' : x.2.2 = false := by simpa using k0
    by_cases k1 : x.1 < -1152921504606846976
    · exact go (y12_n1 off n' cap c x.1 x.2.1 x.2.2) ⟨k0', decide_eq_true k1, trivial⟩
    by_cases k2 : x.2.1 < x.1
    · exact go (y12_n2 off n' cap c x.1 x.2.1 x.2.2) ⟨k0', decide_eq_false k1, decide_eq_true k2, trivial⟩
    by_cases k3 : 1152921504606846976 < x.2.1
    · exact go (y12_n3 off n' cap c x.1 x.2.1 x.2.2) ⟨k0', decide_eq_false k1, decide_eq_false k2, decide_eq_true k3, trivial⟩
    rw [okV_iff.2 ⟨k0', by omega, by omega, by omega⟩] at h
    cases h
theorem loop114 (off cap : Nat) (L : List IV) (hL : L.length ≤ 9223372036854775807) : ∀ (j i : Nat) (X : Nat → Value), i + j = L.length →
    ((L.drop i).all okV = true → ∃ r Y, LoopI Tryz.prog IL (HQ (slw 1 off L.length cap) off (cw off L) .ready none) r (TIw (slw 1 off L.length cap) L.length i X) (HQd (slw 1 off L.length cap) off (cw off L)) (.exit 0) (TIw (slw 1 off L.length cap) L.length L.length Y) (HQd (slw 1 off L.length cap) off (cw off L))) ∧
    ((L.drop i).all okV = false → ∃ r T l h p, LoopI Tryz.prog IL (HQ (slw 1 off L.length cap) off (cw off L) .ready none) r (TIw (slw 1 off L.length cap) L.length i X) (HQd (slw 1 off L.length cap) off (cw off L)) .ret T (HQ (slw 1 off L.length cap) off (cw off L) .done (some .ret) ++ [(4000, iW l h p), (5000, deadO)]))
  | 0, i, X, hi => by
    have hd : ∀ i, domB (HQ (slw 1 off L.length cap) off (cw off L) .ready none) i = true → domB (HQd (slw 1 off L.length cap) off (cw off L)) i = true := fun i hi => by
      unfold domB at *
      simp only [look]
      split
      · rfl
      · exact hi
    have e : i = L.length := by omega
    subst e
    refine ⟨fun _ => ?_, fun h => ?_⟩
    · obtain ⟨Y, hY⟩ := i114_x off L.length cap (cw off L) L.length X
      exact ⟨1, Y, LoopI.last hd (runLS_step mix hY ⟨decide_eq_false (by omega), trivial⟩)⟩
    · rw [List.drop_length] at h
      cases h
  | j + 1, i, X, hi => by
    have hd : ∀ i, domB (HQ (slw 1 off L.length cap) off (cw off L) .ready none) i = true → domB (HQd (slw 1 off L.length cap) off (cw off L)) i = true := fun i hi => by
      unfold domB at *
      simp only [look]
      split
      · rfl
      · exact hi
    have hlt : i < L.length := by omega
    have hx : L[i]? = some L[i] := List.getElem?_eq_getElem hlt
    have hdr : L.drop i = L[i] :: L.drop (i + 1) := List.drop_eq_getElem_cons hlt
    rw [hdr]
    generalize L[i] = x at hx
    have tk := cw_take off hx
    have hix : 0 ≤ (i : Int) ∧ (i : Int) < (L.length : Int) := by omega
    have b0 : off ≤ off + (i : Int).toNat * 3 := Nat.le_add_right _ _
    have hw : IntKind.i64.wrap ((i : Int) + 1) = ((i + 1 : Nat) : Int) := by rw [wrapI (by omega)]; omega
    have yy := y12_w off L.length cap (cw off L) x
    simp only [List.all_cons]
    cases ok : okV x
    · refine ⟨fun h => (by simp at h), fun _ => ?_⟩
      obtain ⟨T, hT⟩ := i114_n off L.length cap (cw off L) i x.1 x.2.1 x.2.2 X
      exact ⟨1, T, _, _, _, LoopI.lastRet hd (runLS_step mix hT ⟨decide_eq_true hix.2, hix, b0, tk, yy.2 ok, trivial⟩)⟩
    · rw [Bool.true_and]
      have s := runLS_step mix (i114_r off L.length cap (cw off L) i x.1 x.2.1 x.2.2 X) ⟨decide_eq_true hix.2, hix, b0, tk, yy.1 ok, trivial⟩
      rw [hw] at s
      have rn := ren_q off L.length cap (cw off L) ((i + 1 : Nat) : Int) ((i + 1 : Nat) : Int) (off + (i : Int).toNat * 3) (decide ((i : Int) < (L.length : Int))) x.1 x.2.1 x.2.2
      have tt : TJw 5000 (slw 1 off L.length cap) L.length ((i + 1 : Nat) : Int) ((i + 1 : Nat) : Int) (off + (i : Int).toNat * 3) (decide ((i : Int) < (L.length : Int))) x.1 x.2.1 x.2.2 = TIw (slw 1 off L.length cap) L.length ((i + 1 : Nat) : Int) (fun j => (TJw 5000 (slw 1 off L.length cap) L.length ((i + 1 : Nat) : Int) ((i + 1 : Nat) : Int) (off + (i : Int).toNat * 3) (decide ((i : Int) < (L.length : Int))) x.1 x.2.1 x.2.2).getD j ud) := rfl
      rw [tt] at rn
      obtain ⟨i1, i2⟩ := loop114 off cap L hL j (i + 1) (fun j => (TJw 5000 (slw 1 off L.length cap) L.length ((i + 1 : Nat) : Int) ((i + 1 : Nat) : Int) (off + (i : Int).toNat * 3) (decide ((i : Int) < (L.length : Int))) x.1 x.2.1 x.2.2).getD j ud) (by omega)
      refine ⟨fun h => ?_, fun h => ?_⟩
      · obtain ⟨r, Y, hl⟩ := i1 h
        exact ⟨r + 1, Y, LoopI.round hd s rn hl⟩
      · obtain ⟨r, T, l, h, p, hl⟩ := i2 h
        exact ⟨r + 1, T, l, h, p, LoopI.round hd s rn hl⟩
/-- The program's Fine, of a list that lies in a window. -/
theorem fine_w (off cap : Nat) (L : List IV) (hL : L.length ≤ 9223372036854775807) : CallsV Tryz.prog (.func 12) #[slw 1 off L.length cap] (HW off (cw off L)) (rt (bb (L.all okV))) (HW off (cw off L)) := by
  have s0 := runLS_step mix (i114_0 off L.length cap (cw off L)) trivial
  obtain ⟨l1, l2⟩ := loop114 off cap L hL L.length 0 (fun _ => ud) (by omega)
  rw [List.drop_zero] at l1 l2
  cases hk : L.all okV
  · obtain ⟨r, T, l, h, p, hl⟩ := l2 hk
    have hd : ∀ i, domB (HQ (slw 1 off L.length cap) off (cw off L) .ready none) i = true → domB (HQ (slw 1 off L.length cap) off (cw off L) .done (some .ret) ++ [(4000, iW l h p), (5000, deadO)]) i = true := fun i hi => by
      have := HQ_dom (slw 1 off L.length cap) off (cw off L) .done (some .ret) i hi
      unfold domB at *
      rw [look_append]
      cases hh : look (HQ (slw 1 off L.length cap) off (cw off L) .done (some .ret)) i with
      | some o => rfl
      | none => rw [hh] at this; cases this
    have lp := StepV.blockrW (id := 0) (LoopI.loop hd (LoopI.preW (ren_q0 off L.length cap (cw off L)) hl))
    have hc := callsV_step (v := tp []) Tryz.func114 b114_eq (StepV.seq s0 lp) rfl rfl rfl (H' := HQ (slw 1 off L.length cap) off (cw off L) .done (some .ret)) (fun i o ho => by rw [look_append, ho]) (by kernel_rfl)
    exact runB_calls mix (f12_no off L.length cap (cw off L)) ⟨hc, trivial⟩ rfl rfl rfl
  · obtain ⟨r, Y, hl⟩ := l1 hk
    have hd : ∀ i, domB (HQ (slw 1 off L.length cap) off (cw off L) .ready none) i = true → domB (HQd (slw 1 off L.length cap) off (cw off L)) i = true := fun i hi => by
      unfold domB at *
      simp only [look]
      split
      · rfl
      · exact hi
    have lp := (LoopI.loop hd (LoopI.preW (ren_q0 off L.length cap (cw off L)) hl)).block (id := 0)
    have hc := callsV_step (v := tp []) Tryz.func114 b114_eq (StepV.seq s0 lp) rfl rfl rfl (H' := HQ (slw 1 off L.length cap) off (cw off L) .ready none) (fun i o ho => by
      have hne : ¬ 5000 = i := fun e => by subst e; cases ho
      simp only [look, if_neg hne]
      exact ho) (by kernel_rfl)
    exact runB_calls mix (f12_ok off L.length cap (cw off L)) ⟨hc, trivial⟩ rfl rfl rfl

end Go.Proofs.YtlioffkonfkflaaGreat
