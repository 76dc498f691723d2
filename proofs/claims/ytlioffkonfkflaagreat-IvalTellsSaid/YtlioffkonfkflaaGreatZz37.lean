/- Texts of the seat, joined. -/
import Derived.Test.YtlioffkonfkflaaGreatZz25
import Derived.Test.YtlioffkonfkflaaGreatZz13
import Derived.Test.YtlioffkonfkflaaGreatZz26
/- Lists of intervals that lie in the world's memory: the document's Fine and Hull, the program's Hull. -/
namespace Go.Proofs.YtlioffkonfkflaaGreat
open Go Go.RowKit
set_option linter.unusedSimpArgs false
set_option linter.unusedVariables false
set_option maxRecDepth 100000

theorem LoopN.lastRet {P : Program} {b : Code} {t t1 : List Value} {D D1 : List VDef} {H H1 : Hp} (h1 : StepV P b t D H .ret t1 D1 H1) : LoopN P b 1 t D H .ret t1 D1 H1 := by
  refine ⟨h1.1, fun n0 A w0 β a w hR => wpIn_mono (h1.2 n0 A w0 β a w hR) ?_⟩
  rintro e a' w' ⟨rfl, hR'⟩
  exact ⟨rfl, hR'⟩
theorem StepV.blockrW {P : Program} {b : Code} {t t1 : List Value} {D D1 : List VDef} {H H1 : Hp} {id : Nat} (h : StepV P b t D H .ret t1 D1 H1) : StepV P (.block id b) t D H .ret t1 D1 H1 := by
  refine ⟨h.1, fun n0 A w0 β a w hR => wpIn_block (wpIn_mono (h.2 n0 A w0 β a w hR) ?_)⟩
  rintro e a' w' ⟨rfl, hR'⟩
  exact ⟨rfl, hR'⟩
theorem StepV.seqrW {P : Program} {x y : Code} {t t1 : List Value} {D D1 : List VDef} {H H1 : Hp} (h1 : StepV P x t D H .ret t1 D1 H1) : StepV P (.seq x y) t D H .ret t1 D1 H1 := by
  refine ⟨h1.1, fun n0 A w0 β a w hR => wpIn_seq (wpIn_mono (h1.2 n0 A w0 β a w hR) ?_)⟩
  rintro e a' w' ⟨rfl, hR'⟩
  exact ⟨rfl, hR'⟩
/-- Code within a scope, from a place on. -/
def ScV (P : Program) (c k : Code) (t : List Value) (H : Hp) (ex : Ex) (t' : List Value) (H' : Hp) : Prop :=
  (∀ i, domB H i = true → domB H' i = true) ∧ ∀ (n0 : Nat) (A : Nat → Prop) (w0 : World) (β : Num) (a : Act) (w : World), RelA A w0 β [] t H a w → ScIn Fence.wide n0 P c k (Came A w0 β H ex t' [] H') a w
theorem ScV.ret {P : Program} {c k : Code} {t t' : List Value} {H H' : Hp} (h : StepV P k t [] H .ret t' [] H') : ScV P c k t H .ret t' H' := by
  refine ⟨h.1, fun n0 A w0 β a w hR => scIn_of (wpIn_mono (h.2 n0 A w0 β a w hR) ?_)⟩
  rintro e a' w' ⟨rfl, hR'⟩
  exact ⟨rfl, hR'⟩
theorem ScV.jump {P : Program} {c k rest : Code} {t t1 t' : List Value} {H H1 H' : Hp} {ex : Ex} {l : Nat} (h : StepV P k t [] H (.goto l) t1 [] H1) (hl : findLabel c l = some rest) (h2 : ScV P c rest t1 H1 ex t' H') : ScV P c k t H ex t' H' := by
  refine ⟨fun i hi => h2.1 i (h.1 i hi), fun n0 A w0 β a w hR => scIn_of (wpIn_mono (h.2 n0 A w0 β a w hR) ?_)⟩
  rintro e a' w' ⟨rfl, β', hb, hR'⟩
  simp only [Ex.out, hl]
  intro b k cs h1 h3 h4
  obtain ⟨e2, a2, w2, ⟨he2, β2, hb2, hR2⟩, h5⟩ := h2.2 n0 A w0 β' a' w' hR' b k cs h1 h3 h4
  exact ⟨e2, a2, w2, ⟨he2, β2, fun i hi => (hb2 i (h.1 i hi)).trans (hb i hi), hR2⟩, h5⟩
theorem ScV.scope {P : Program} {c : Code} {t t' : List Value} {H H' : Hp} {ex : Ex} (h : ScV P c c t H ex t' H') : StepV P (.scope c) t [] H ex t' [] H' :=
  ⟨h.1, fun n0 A w0 β a w hR => wpIn_scope_of (h.2 n0 A w0 β a w hR)⟩

abbrev iW (l h : Int) (p : Bool) : Obj := .cells ⟨[ii l, ii h, bb p]⟩ 23 (0, 0)
def fl3 (x : IV) : List Value := [ii x.1, ii x.2.1, bb x.2.2]
/-- A list of intervals as cells, behind others. -/
def cw (off : Nat) (L : List IV) : Array Value := ⟨List.replicate off ud ++ L.flatMap fl3⟩
theorem fl3_drop : ∀ (L : List IV) (i : Nat) (x : IV), L[i]? = some x → ((L.flatMap fl3).drop (i * 3)).take 3 = fl3 x
  | [], i, x, h => by simp at h
  | y :: L, 0, x, h => by
    simp only [List.getElem?_cons_zero, Option.some.injEq] at h
    subst h
    rfl
  | y :: L, i + 1, x, h => by
    rw [List.getElem?_cons_succ] at h
    have := fl3_drop L i x h
    rw [List.flatMap_cons, show (i + 1) * 3 = 3 + i * 3 by omega, ← List.drop_drop]
    exact this
theorem cw_take (off : Nat) {L : List IV} {i : Nat} {x : IV} (h : L[i]? = some x) : ((cw off L).toList.drop (off + i * 3)).take 3 = fl3 x := by
  show ((List.replicate off ud ++ L.flatMap fl3).drop (off + i * 3)).take 3 = fl3 x
  rw [List.drop_append, List.length_replicate, List.drop_eq_nil_of_le (by simp), List.nil_append, Nat.add_sub_cancel_left]
  exact fl3_drop L i x h
theorem cw_at (off : Nat) {L : List IV} {i : Nat} {x : IV} (h : L[i]? = some x) : (cw off L)[off + i * 3]? = some (ii x.1) ∧ (cw off L)[off + i * 3 + 1]? = some (ii x.2.1) ∧ (cw off L)[off + i * 3 + 2]? = some (bb x.2.2) := by
  have k := cw_take off h
  have g : ∀ j, j < 3 → (cw off L)[off + i * 3 + j]? = (fl3 x)[j]? := fun j hj => by
    rw [← k, List.getElem?_take_of_lt hj, List.getElem?_drop, Array.getElem?_toList]
  exact ⟨g 0 (by decide), g 1 (by decide), g 2 (by decide)⟩
theorem cw_plain (off : Nat) (L : List IV) : wfA noB (cw off L) = true := by
  rw [wfA_list, wfL_all]
  intro v hv
  rcases List.mem_append.1 (show v ∈ List.replicate off ud ++ L.flatMap fl3 from hv) with h | h
  · rw [(List.mem_replicate.1 h).2]; rfl
  · obtain ⟨x, -, hx⟩ := List.mem_flatMap.1 h
    simp only [fl3, List.mem_cons, List.not_mem_nil, or_false] at hx
    rcases hx with rfl | rfl | rfl <;> rfl

def tmpsOf (x : Option (Ex × List Value × Hp × List Prop)) : List Value := match x with | some r => r.2.1 | none => []
def lt (x : Option (Ex × List Value × Hp × List Prop)) (j : Nat) : Value := (tmpsOf x).getD j ud
abbrev slw (b off n cap : Nat) : Value := .slice (some ⟨b, off, none⟩) n cap
noncomputable def b13 : Code := match Tryz.f13.body with | some c => c | none => .skip
noncomputable def FL : Code := cK (cK (cB (cA (cB b13))))
theorem b13_eq : Tryz.f13.body = some (.seq (cA b13) (.seq (.seq (cA (cA (cB b13))) (.block 0 (.loop FL))) (cB (cB b13)))) := by kernel_rfl
def FT (off n cap : Nat) (i : Int) (X : Nat → Value) : List Value := [slw 1 off n cap, ud, bb false, i6 i, X 4, X 5, X 6, X 7, X 8, X 9, X 10, X 11, X 12, X 13, X 14, X 15, X 16, X 17, X 18, X 19, X 20, X 21, X 22, X 23, X 24, X 25, X 26, X 27, X 28, X 29, X 30, X 31, X 32, X 33, X 34, X 35, X 36, X 37, X 38, X 39, X 40, X 41, X 42, X 43]
section
variable (off n' cap : Nat) (c : Array Value) (i l h : Int) (p : Bool) (X : Nat → Value)
abbrev HW (off : Nat) (c : Array Value) : Hp := [(1, win off c)]
theorem fq_0 : runLS Tryz.prog 3000 (cA b13) (frame0 Tryz.f13 #[slw 1 off n' cap]) (HW off c) [] [] [] [] = some (.normal, [slw 1 off n' cap, ud, bb false] ++ List.replicate 41 ud, HW off c, []) := by kernel_rfl
theorem fq_1 : runLS Tryz.prog 3000 (cA (cA (cB b13))) ([slw 1 off n' cap, ud, bb false] ++ List.replicate 41 ud) (HW off c) [] [] [] [] = some (.normal, FT off n' cap 0 (fun _ => ud), HW off c, []) := by kernel_rfl
theorem fq_x : runLS Tryz.prog 3000 FL (FT off n' cap i X) (HW off c) [f] [] [] [] = some (.exit 0, FT off n' cap i (lt (runLS Tryz.prog 3000 FL (FT off n' cap i X) (HW off c) [f] [] [] [])), HW off c, [decide (i < (n' : Int)) = false]) := by kernel_rfl
theorem fq_e : ∃ T, runLS Tryz.prog 3000 (cB (cB b13)) (FT off n' cap i X) (HW off c) [] [] [] [] = some (.ret, T, HW off c, []) ∧ vresults Tryz.prog Tryz.f13 T (HW off c) = some (bb true) := ⟨_, rfl, rfl⟩

theorem fq_r : runLS Tryz.prog 3000 FL (FT off n' cap i X) (HW off c) [t, f, n, n, n, n, n, f, n, n, n, n, n, n, n, n, n, n, f, n, n, n, n, n, f] [] [] [[bb p], [ii l], [ii l], [ii h], [ii h]] = some (.normal, FT off n' cap (IntKind.i64.wrap (i + 1)) (lt (runLS Tryz.prog 3000 FL (FT off n' cap i X) (HW off c) [t, f, n, n, n, n, n, f, n, n, n, n, n, n, n, n, n, n, f, n, n, n, n, n, f] [] [] [[bb p], [ii l], [ii l], [ii h], [ii h]])), HW off c, [decide (i < (n' : Int)) = true, (0 ≤ i ∧ i < (n' : Int)), off ≤ off + i.toNat * 3 + 2, c[off + i.toNat * 3 + 2]? = some (bb p), p = false, (0 ≤ i ∧ i < (n' : Int)), off ≤ off + i.toNat * 3, c[off + i.toNat * 3]? = some (ii l), decide (l < -1152921504606846976) = false, (0 ≤ i ∧ i < (n' : Int)), off ≤ off + i.toNat * 3, c[off + i.toNat * 3]? = some (ii l), (0 ≤ i ∧ i < (n' : Int)), off ≤ off + i.toNat * 3 + 1, c[off + i.toNat * 3 + 1]? = some (ii h), decide (h < l) = false, (0 ≤ i ∧ i < (n' : Int)), off ≤ off + i.toNat * 3 + 1, c[off + i.toNat * 3 + 1]? = some (ii h), decide (1152921504606846976 < h) = false]) := by kernel_rfl
theorem fq_n0 : runLS Tryz.prog 3000 FL (FT off n' cap i X) (HW off c) [t, t] [] [] [[bb p]] = some (.ret, tmpsOf (runLS Tryz.prog 3000 FL (FT off n' cap i X) (HW off c) [t, t] [] [] [[bb p]]), HW off c, [decide (i < (n' : Int)) = true, (0 ≤ i ∧ i < (n' : Int)), off ≤ off + i.toNat * 3 + 2, c[off + i.toNat * 3 + 2]? = some (bb p), p = true]) ∧ vresults Tryz.prog Tryz.f13 (tmpsOf (runLS Tryz.prog 3000 FL (FT off n' cap i X) (HW off c) [t, t] [] [] [[bb p]])) (HW off c) = some (bb false) := ⟨by kernel_rfl, by kernel_rfl⟩
theorem fq_n1 : runLS Tryz.prog 3000 FL (FT off n' cap i X) (HW off c) [t, f, n, n, n, n, n, t] [] [] [[bb p], [ii l]] = some (.ret, tmpsOf (runLS Tryz.prog 3000 FL (FT off n' cap i X) (HW off c) [t, f, n, n, n, n, n, t] [] [] [[bb p], [ii l]]), HW off c, [decide (i < (n' : Int)) = true, (0 ≤ i ∧ i < (n' : Int)), off ≤ off + i.toNat * 3 + 2, c[off + i.toNat * 3 + 2]? = some (bb p), p = false, (0 ≤ i ∧ i < (n' : Int)), off ≤ off + i.toNat * 3, c[off + i.toNat * 3]? = some (ii l), decide (l < -1152921504606846976) = true]) ∧ vresults Tryz.prog Tryz.f13 (tmpsOf (runLS Tryz.prog 3000 FL (FT off n' cap i X) (HW off c) [t, f, n, n, n, n, n, t] [] [] [[bb p], [ii l]])) (HW off c) = some (bb false) := ⟨by kernel_rfl, by kernel_rfl⟩
theorem fq_n2 : runLS Tryz.prog 3000 FL (FT off n' cap i X) (HW off c) [t, f, n, n, n, n, n, f, n, n, n, n, n, n, n, n, n, n, t] [] [] [[bb p], [ii l], [ii l], [ii h]] = some (.ret, tmpsOf (runLS Tryz.prog 3000 FL (FT off n' cap i X) (HW off c) [t, f, n, n, n, n, n, f, n, n, n, n, n, n, n, n, n, n, t] [] [] [[bb p], [ii l], [ii l], [ii h]]), HW off c, [decide (i < (n' : Int)) = true, (0 ≤ i ∧ i < (n' : Int)), off ≤ off + i.toNat * 3 + 2, c[off + i.toNat * 3 + 2]? = some (bb p), p = false, (0 ≤ i ∧ i < (n' : Int)), off ≤ off + i.toNat * 3, c[off + i.toNat * 3]? = some (ii l), decide (l < -1152921504606846976) = false, (0 ≤ i ∧ i < (n' : Int)), off ≤ off + i.toNat * 3, c[off + i.toNat * 3]? = some (ii l), (0 ≤ i ∧ i < (n' : Int)), off ≤ off + i.toNat * 3 + 1, c[off + i.toNat * 3 + 1]? = some (ii h), decide (h < l) = true]) ∧ vresults Tryz.prog Tryz.f13 (tmpsOf (runLS Tryz.prog 3000 FL (FT off n' cap i X) (HW off c) [t, f, n, n, n, n, n, f, n, n, n, n, n, n, n, n, n, n, t] [] [] [[bb p], [ii l], [ii l], [ii h]])) (HW off c) = some (bb false) := ⟨by kernel_rfl, by kernel_rfl⟩
theorem fq_n3 : runLS Tryz.prog 3000 FL (FT off n' cap i X) (HW off c) [t, f, n, n, n, n, n, f, n, n, n, n, n, n, n, n, n, n, f, n, n, n, n, n, t] [] [] [[bb p], [ii l], [ii l], [ii h], [ii h]] = some (.ret, tmpsOf (runLS Tryz.prog 3000 FL (FT off n' cap i X) (HW off c) [t, f, n, n, n, n, n, f, n, n, n, n, n, n, n, n, n, n, f, n, n, n, n, n, t] [] [] [[bb p], [ii l], [ii l], [ii h], [ii h]]), HW off c, [decide (i < (n' : Int)) = true, (0 ≤ i ∧ i < (n' : Int)), off ≤ off + i.toNat * 3 + 2, c[off + i.toNat * 3 + 2]? = some (bb p), p = false, (0 ≤ i ∧ i < (n' : Int)), off ≤ off + i.toNat * 3, c[off + i.toNat * 3]? = some (ii l), decide (l < -1152921504606846976) = false, (0 ≤ i ∧ i < (n' : Int)), off ≤ off + i.toNat * 3, c[off + i.toNat * 3]? = some (ii l), (0 ≤ i ∧ i < (n' : Int)), off ≤ off + i.toNat * 3 + 1, c[off + i.toNat * 3 + 1]? = some (ii h), decide (h < l) = false, (0 ≤ i ∧ i < (n' : Int)), off ≤ off + i.toNat * 3 + 1, c[off + i.toNat * 3 + 1]? = some (ii h), decide (1152921504606846976 < h) = true]) ∧ vresults Tryz.prog Tryz.f13 (tmpsOf (runLS Tryz.prog 3000 FL (FT off n' cap i X) (HW off c) [t, f, n, n, n, n, n, f, n, n, n, n, n, n, n, n, n, n, f, n, n, n, n, n, t] [] [] [[bb p], [ii l], [ii l], [ii h], [ii h]])) (HW off c) = some (bb false) := ⟨by kernel_rfl, by kernel_rfl⟩
end
theorem loop13 (off cap : Nat) (L : List IV) (hL : L.length ≤ 20) : ∀ (j i : Nat) (X : Nat → Value), i + j = L.length →
    ((L.drop i).all okV = true → ∃ r Y, LoopN Tryz.prog FL r (FT off L.length cap i X) [] (HW off (cw off L)) (.exit 0) (FT off L.length cap L.length Y) [] (HW off (cw off L))) ∧
    ((L.drop i).all okV = false → ∃ r T, LoopN Tryz.prog FL r (FT off L.length cap i X) [] (HW off (cw off L)) .ret T [] (HW off (cw off L)) ∧ vresults Tryz.prog Tryz.f13 T (HW off (cw off L)) = some (bb false))
  | 0, i, X, hi => by
    have e : i = L.length := by omega
    subst e
    refine ⟨fun _ => ?_, fun h => ?_⟩
    · have s := runLS_step mix (fq_x off L.length cap (cw off L) L.length X) ⟨decide_eq_false (by omega), trivial⟩
      exact ⟨1, _, LoopN.last s⟩
    · rw [List.drop_length] at h
      cases h
  | j + 1, i, X, hi => by
    have hlt : i < L.length := by omega
    have hx : L[i]? = some L[i] := List.getElem?_eq_getElem hlt
    have hd : L.drop i = L[i] :: L.drop (i + 1) := List.drop_eq_getElem_cons hlt
    rw [hd]
    generalize L[i] = x at hx
    obtain ⟨c0, c1, c2⟩ := cw_at off hx
    have ht : decide ((i : Int) < (L.length : Int)) = true := decide_eq_true (by omega)
    have hix : 0 ≤ (i : Int) ∧ (i : Int) < (L.length : Int) := by omega
    have b0 : off ≤ off + (i : Int).toNat * 3 := Nat.le_add_right _ _
    have b1 : off ≤ off + (i : Int).toNat * 3 + 1 := by omega
    have b2 : off ≤ off + (i : Int).toNat * 3 + 2 := by omega
    have hw : IntKind.i64.wrap ((i : Int) + 1) = ((i + 1 : Nat) : Int) := by rw [wrapI (by omega)]; omega
    simp only [List.all_cons]
    have ih := loop13 off cap L hL j (i + 1)
    by_cases k0 : x.2.2 = true
    · refine ⟨fun h => ?_, fun _ => ?_⟩
      · rw [Bool.and_eq_true] at h
        have := (okV_iff.1 h.1).1
        rw [k0] at this
        cases this
      · have q := fq_n0 off L.length cap (cw off L) i x.2.2 X
        exact ⟨1, _, LoopN.lastRet (runLS_step mix q.1 ⟨ht, hix, b2, c2, k0, trivial⟩), q.2⟩
    have k0' : x.2.2 = false := by simpa using k0
    by_cases k1 : x.1 < -1152921504606846976
    · refine ⟨fun h => ?_, fun _ => ?_⟩
      · rw [Bool.and_eq_true] at h
        have := (okV_iff.1 h.1).2.1
        omega
      · have q := fq_n1 off L.length cap (cw off L) i x.1 x.2.2 X
        exact ⟨1, _, LoopN.lastRet (runLS_step mix q.1 ⟨ht, hix, b2, c2, k0', hix, b0, c0, decide_eq_true k1, trivial⟩), q.2⟩
    by_cases k2 : x.2.1 < x.1
    · refine ⟨fun h => ?_, fun _ => ?_⟩
      · rw [Bool.and_eq_true] at h
        have := (okV_iff.1 h.1).2.2.1
        omega
      · have q := fq_n2 off L.length cap (cw off L) i x.1 x.2.1 x.2.2 X
        exact ⟨1, _, LoopN.lastRet (runLS_step mix q.1 ⟨ht, hix, b2, c2, k0', hix, b0, c0, decide_eq_false k1, hix, b0, c0, hix, b1, c1, decide_eq_true k2, trivial⟩), q.2⟩
    by_cases k3 : 1152921504606846976 < x.2.1
    · refine ⟨fun h => ?_, fun _ => ?_⟩
      · rw [Bool.and_eq_true] at h
        have := (okV_iff.1 h.1).2.2.2
        omega
      · have q := fq_n3 off L.length cap (cw off L) i x.1 x.2.1 x.2.2 X
        exact ⟨1, _, LoopN.lastRet (runLS_step mix q.1 ⟨ht, hix, b2, c2, k0', hix, b0, c0, decide_eq_false k1, hix, b0, c0, hix, b1, c1, decide_eq_false k2, hix, b1, c1, decide_eq_true k3, trivial⟩), q.2⟩
    have ok : okV x = true := okV_iff.2 ⟨k0', by omega, by omega, by omega⟩
    rw [ok, Bool.true_and]
    have s := runLS_step mix (fq_r off L.length cap (cw off L) i x.1 x.2.1 x.2.2 X) ⟨ht, hix, b2, c2, k0', hix, b0, c0, decide_eq_false k1, hix, b0, c0, hix, b1, c1, decide_eq_false k2, hix, b1, c1, decide_eq_false k3, trivial⟩
    rw [hw] at s
    obtain ⟨i1, i2⟩ := ih _ (by omega)
    refine ⟨fun h => ?_, fun h => ?_⟩
    · obtain ⟨r, Y, hl⟩ := i1 h
      exact ⟨r + 1, Y, LoopN.round s hl⟩
    · obtain ⟨r, T, hl, hv⟩ := i2 h
      exact ⟨r + 1, T, LoopN.round s hl, hv⟩
/-- The document's Fine, of a list that lies in a window. -/
theorem rfine_w (off cap : Nat) (L : List IV) (hL : L.length ≤ 20) : CallsV Tryz.prog (.func 13) #[slw 1 off L.length cap] (HW off (cw off L)) (rt (bb (L.all okV))) (HW off (cw off L)) := by
  have s0 := runLS_step mix (fq_0 off L.length cap (cw off L)) trivial
  have s1 := runLS_step mix (fq_1 off L.length cap (cw off L)) trivial
  obtain ⟨l1, l2⟩ := loop13 off cap L hL L.length 0 (fun _ => ud) (by omega)
  rw [List.drop_zero] at l1 l2
  cases hk : L.all okV
  · obtain ⟨r, T, hl, hv⟩ := l2 hk
    have hw := StepV.seq s0 (StepV.seqrW (y := cB (cB b13)) (StepV.seq s1 (StepV.blockrW (id := 0) (LoopN.loop hl))))
    exact callsV_step Tryz.func13 b13_eq hw rfl hv rfl (fun i o h => h) rfl
  · obtain ⟨r, Y, hl⟩ := l1 hk
    obtain ⟨T, hE, hv⟩ := fq_e off L.length cap (cw off L) L.length Y
    have hw := StepV.seq s0 (StepV.seq (StepV.seq s1 (LoopN.loop hl).block) (runLS_step mix hE trivial))
    exact callsV_step Tryz.func13 b13_eq hw rfl hv rfl (fun i o h => h) rfl

end Go.Proofs.YtlioffkonfkflaaGreat

/- Lists of intervals that lie in the world's memory: hulls. -/
namespace Go.Proofs.YtlioffkonfkflaaGreat
open Go Go.RowKit
set_option linter.unusedSimpArgs false
set_option linter.unusedVariables false
set_option maxRecDepth 100000

noncomputable def b23 : Code := match Tryz.f23.body with | some c => c | none => .skip
noncomputable def HLo : Code := cK (cK (cB (cA (cB (cB (cB b23))))))
theorem b23_eq : Tryz.f23.body = some (.seq (cA b23) (.seq (cA (cB b23)) (.seq (cA (cB (cB b23))) (.seq (.seq (cA (cA (cB (cB (cB b23))))) (.block 0 (.loop HLo))) (cB (cB (cB (cB b23)))))))) := by kernel_rfl
noncomputable def b22 : Code := match Tryz.f22.body with | some c => c | none => .skip
noncomputable def s22 : Code := match cB b22 with | .scope c => c | c => c
noncomputable def r22 : Code := cB (cB (cB s22))
theorem b22_eq : Tryz.f22.body = some (.seq (cA b22) (.scope s22)) := by kernel_rfl
theorem s22_eq : s22 = .seq (cA s22) (.seq (cA (cB s22)) (.seq (cA (cB (cB s22))) r22)) := by kernel_rfl
theorem s22_at : findLabel s22 0 = some (.seq .skip r22) := by kernel_rfl
theorem skp (t : List Value) (H : Hp) : StepV Tryz.prog .skip t [] H .normal t [] H := runLS_step (n := 3002) (orc := []) (ans := []) (bls := []) (lds := []) mix (show runLS Tryz.prog 3002 .skip t H [] [] [] [] = some (.normal, t, H, []) from rfl) trivial
def HT (off n cap : Nat) (i : Int) (X : Nat → Value) : List Value := [slw 1 off n cap, ud, ptr 3000, ptr 3001, i6 i, X 5, X 6, X 7, X 8, X 9, X 10, X 11, X 12, X 13, X 14, X 15, X 16, X 17, X 18, X 19, X 20, X 21, X 22, X 23, X 24, X 25, X 26, X 27, X 28, X 29, X 30, X 31, X 32, X 33, X 34, X 35, X 36, X 37, X 38, X 39, X 40, X 41]
def GT (off n cap : Nat) (X : Nat → Value) : List Value := [slw 1 off n cap, ud, ptr 3000, ptr 3001, X 4, X 5, X 6, X 7, X 8, X 9, X 10, X 11, X 12, X 13, X 14, X 15, X 16, X 17, X 18, X 19, X 20, X 21, X 22, X 23, X 24, X 25, X 26, X 27, X 28, X 29, X 30, X 31, X 32, X 33, X 34, X 35, X 36, X 37]
abbrev HA (off : Nat) (c : Array Value) : Hp := [(3000, iW 0 0 false), (1, win off c)]
abbrev HB (off : Nat) (c : Array Value) : Hp := [(1, win off c), (3000, iW 0 0 false)]
abbrev HC (off : Nat) (c : Array Value) (l h : Int) (p : Bool) : Hp := [(3001, iW l h p), (1, win off c), (3000, iW 0 0 false)]
section
variable (off w n' cap : Nat) (c : Array Value) (i l h a b : Int) (p : Bool) (X : Nat → Value)
theorem q23_0 : runLS Tryz.prog 3000 (cA b23) (frame0 Tryz.f23 #[slw 1 off n' cap]) (HW off c) [] [] [] [] = some (.normal, [slw 1 off n' cap, ud, ptr 3000] ++ List.replicate 39 ud, HA off c, []) := by kernel_rfl
theorem q23_1z : ∃ H, runLS Tryz.prog 3001 (cA (cB b23)) ([slw 1 off n' cap, ud, ptr 3000] ++ List.replicate 39 ud) (HA off c) [t] [] [] [] = some (.ret, tmpsOf (runLS Tryz.prog 3001 (cA (cB b23)) ([slw 1 off n' cap, ud, ptr 3000] ++ List.replicate 39 ud) (HA off c) [t] [] [] []), H, [((n' : Int) == 0) = true]) ∧ vresults Tryz.prog Tryz.f23 (tmpsOf (runLS Tryz.prog 3001 (cA (cB b23)) ([slw 1 off n' cap, ud, ptr 3000] ++ List.replicate 39 ud) (HA off c) [t] [] [] [])) H = some (iv 0 0 true) ∧ look H 1 = some (win off c) := ⟨[(3000, iW 0 0 true), (1, win off c)], by kernel_rfl, by kernel_rfl, rfl⟩
theorem q23_1f : ∃ H, runLS Tryz.prog 3001 (cA (cB b23)) ([slw 1 off n' cap, ud, ptr 3000] ++ List.replicate 39 ud) (HA off c) [f] [] [(13, rt (bb false), HW off c)] [] = some (.ret, tmpsOf (runLS Tryz.prog 3001 (cA (cB b23)) ([slw 1 off n' cap, ud, ptr 3000] ++ List.replicate 39 ud) (HA off c) [f] [] [(13, rt (bb false), HW off c)] []), H, [((n' : Int) == 0) = false, CallsV Tryz.prog (.func 13) #[slw 1 off n' cap] (HW off c) (rt (bb false)) (HW off c)]) ∧ vresults Tryz.prog Tryz.f23 (tmpsOf (runLS Tryz.prog 3001 (cA (cB b23)) ([slw 1 off n' cap, ud, ptr 3000] ++ List.replicate 39 ud) (HA off c) [f] [] [(13, rt (bb false), HW off c)] [])) H = some (iv 0 0 true) ∧ look H 1 = some (win off c) := ⟨[(3000, iW 0 0 true), (1, win off c)], by kernel_rfl, by kernel_rfl, rfl⟩
def q23_T (off n' cap : Nat) (X : Nat → Value) : List Value := [slw 1 off n' cap, ud, ptr 3000, ud, ud, X 5, X 6, X 7, X 8, X 9, X 10, X 11, X 12, X 13] ++ List.replicate 28 ud
theorem q23_1t : runLS Tryz.prog 3001 (cA (cB b23)) ([slw 1 off n' cap, ud, ptr 3000] ++ List.replicate 39 ud) (HA off c) [f] [] [(13, rt (bb true), HW off c)] [] = some (.normal, q23_T off n' cap (lt (runLS Tryz.prog 3001 (cA (cB b23)) ([slw 1 off n' cap, ud, ptr 3000] ++ List.replicate 39 ud) (HA off c) [f] [] [(13, rt (bb true), HW off c)] [])), HB off c, [((n' : Int) == 0) = false, CallsV Tryz.prog (.func 13) #[slw 1 off n' cap] (HW off c) (rt (bb true)) (HW off c)]) := by kernel_rfl
theorem q23_1tE : ∃ Z, runLS Tryz.prog 3001 (cA (cB b23)) ([slw 1 off n' cap, ud, ptr 3000] ++ List.replicate 39 ud) (HA off c) [f] [] [(13, rt (bb true), HW off c)] [] = some (.normal, q23_T off n' cap Z, HB off c, [((n' : Int) == 0) = false, CallsV Tryz.prog (.func 13) #[slw 1 off n' cap] (HW off c) (rt (bb true)) (HW off c)]) := ⟨_, q23_1t off n' cap c⟩
def q23_U (off n' cap : Nat) (X : Nat → Value) : List Value := [slw 1 off n' cap, ud, ptr 3000, ptr 3001, ud, X 5, X 6, X 7, X 8, X 9, X 10, X 11, X 12, X 13, X 14, X 15, X 16, X 17, X 18, X 19, X 20, X 21, X 22, X 23, X 24, X 25, X 26, X 27, X 28, X 29, X 30, X 31, X 32, X 33, X 34, X 35, X 36, X 37, X 38, X 39, X 40, X 41]
theorem q23_2 : runLS Tryz.prog 3001 (cA (cB (cB b23))) (q23_T off n' cap X) (HB off c) [] [] [] [[ii l, ii h, bb p]] = some (.normal, q23_U off n' cap (lt (runLS Tryz.prog 3001 (cA (cB (cB b23))) (q23_T off n' cap X) (HB off c) [] [] [] [[ii l, ii h, bb p]])), HC off c l h p, [0 ≤ (0 : Int) ∧ (0 : Int) < (n' : Int), off ≤ off, (c.toList.drop off).take 3 = [ii l, ii h, bb p]]) := by kernel_rfl
theorem q23_2E : ∃ Z, runLS Tryz.prog 3001 (cA (cB (cB b23))) (q23_T off n' cap X) (HB off c) [] [] [] [[ii l, ii h, bb p]] = some (.normal, q23_U off n' cap Z, HC off c l h p, [0 ≤ (0 : Int) ∧ (0 : Int) < (n' : Int), off ≤ off, (c.toList.drop off).take 3 = [ii l, ii h, bb p]]) := ⟨_, q23_2 off n' cap c l h p X⟩
theorem q23_3 : runLS Tryz.prog 3002 (cA (cA (cB (cB (cB b23))))) (q23_U off n' cap X) (HC off c l h p) [] [] [] [] = some (.normal, HT off n' cap 1 X, HC off c l h p, []) := by kernel_rfl
theorem q22_0 : runLS Tryz.prog 3000 (cA b22) (frame0 Tryz.f22 #[slw 1 off n' cap]) (HW off c) [] [] [] [] = some (.normal, [slw 1 off n' cap, ud, ptr 3000] ++ List.replicate 35 ud, HA off c, []) := by kernel_rfl
theorem q22_1z : ∃ H, runLS Tryz.prog 3001 (cA s22) ([slw 1 off n' cap, ud, ptr 3000] ++ List.replicate 35 ud) (HA off c) [t] [] [] [] = some (.ret, tmpsOf (runLS Tryz.prog 3001 (cA s22) ([slw 1 off n' cap, ud, ptr 3000] ++ List.replicate 35 ud) (HA off c) [t] [] [] []), H, [((n' : Int) == 0) = true]) ∧ vresults Tryz.prog Tryz.f22 (tmpsOf (runLS Tryz.prog 3001 (cA s22) ([slw 1 off n' cap, ud, ptr 3000] ++ List.replicate 35 ud) (HA off c) [t] [] [] [])) H = some (iv 0 0 true) ∧ look H 1 = some (win off c) := ⟨[(3000, iW 0 0 true), (1, win off c)], by kernel_rfl, by kernel_rfl, rfl⟩
theorem q22_1f : ∃ H, runLS Tryz.prog 3001 (cA s22) ([slw 1 off n' cap, ud, ptr 3000] ++ List.replicate 35 ud) (HA off c) [f] [] [(12, rt (bb false), HW off c)] [] = some (.ret, tmpsOf (runLS Tryz.prog 3001 (cA s22) ([slw 1 off n' cap, ud, ptr 3000] ++ List.replicate 35 ud) (HA off c) [f] [] [(12, rt (bb false), HW off c)] []), H, [((n' : Int) == 0) = false, CallsV Tryz.prog (.func 12) #[slw 1 off n' cap] (HW off c) (rt (bb false)) (HW off c)]) ∧ vresults Tryz.prog Tryz.f22 (tmpsOf (runLS Tryz.prog 3001 (cA s22) ([slw 1 off n' cap, ud, ptr 3000] ++ List.replicate 35 ud) (HA off c) [f] [] [(12, rt (bb false), HW off c)] [])) H = some (iv 0 0 true) ∧ look H 1 = some (win off c) := ⟨[(3000, iW 0 0 true), (1, win off c)], by kernel_rfl, by kernel_rfl, rfl⟩
def q22_T (off n' cap : Nat) (X : Nat → Value) : List Value := [slw 1 off n' cap, ud, ptr 3000, ud, X 4, X 5, X 6, X 7, X 8, X 9, X 10, X 11] ++ List.replicate 26 ud
theorem q22_1t : runLS Tryz.prog 3001 (cA s22) ([slw 1 off n' cap, ud, ptr 3000] ++ List.replicate 35 ud) (HA off c) [f] [] [(12, rt (bb true), HW off c)] [] = some (.normal, q22_T off n' cap (lt (runLS Tryz.prog 3001 (cA s22) ([slw 1 off n' cap, ud, ptr 3000] ++ List.replicate 35 ud) (HA off c) [f] [] [(12, rt (bb true), HW off c)] [])), HB off c, [((n' : Int) == 0) = false, CallsV Tryz.prog (.func 12) #[slw 1 off n' cap] (HW off c) (rt (bb true)) (HW off c)]) := by kernel_rfl
theorem q22_1tE : ∃ Z, runLS Tryz.prog 3001 (cA s22) ([slw 1 off n' cap, ud, ptr 3000] ++ List.replicate 35 ud) (HA off c) [f] [] [(12, rt (bb true), HW off c)] [] = some (.normal, q22_T off n' cap Z, HB off c, [((n' : Int) == 0) = false, CallsV Tryz.prog (.func 12) #[slw 1 off n' cap] (HW off c) (rt (bb true)) (HW off c)]) := ⟨_, q22_1t off n' cap c⟩
theorem q22_2 : runLS Tryz.prog 3001 (cA (cB s22)) (q22_T off n' cap X) (HB off c) [] [] [] [[ii l, ii h, bb p]] = some (.normal, GT off n' cap (lt (runLS Tryz.prog 3001 (cA (cB s22)) (q22_T off n' cap X) (HB off c) [] [] [] [[ii l, ii h, bb p]])), HC off c l h p, [0 ≤ (0 : Int) ∧ (0 : Int) < (n' : Int), off ≤ off, (c.toList.drop off).take 3 = [ii l, ii h, bb p]]) := by kernel_rfl
theorem q22_2E : ∃ Z, runLS Tryz.prog 3001 (cA (cB s22)) (q22_T off n' cap X) (HB off c) [] [] [] [[ii l, ii h, bb p]] = some (.normal, GT off n' cap Z, HC off c l h p, [0 ≤ (0 : Int) ∧ (0 : Int) < (n' : Int), off ≤ off, (c.toList.drop off).take 3 = [ii l, ii h, bb p]]) := ⟨_, q22_2 off n' cap c l h p X⟩
theorem q22_3 : runLS Tryz.prog 3002 (cA (cB (cB s22))) (GT off n' cap X) (HC off c l h p) [] [] [] [] = some (.normal, GT off n' cap X, HC off c l h p, []) := by kernel_rfl
theorem q23_r : runLS Tryz.prog 3002 HLo (HT off n' cap i X) (HC off c l h p) [t] [] [] [[ii a], [ii b]] = some (.normal, HT off n' cap (IntKind.i64.wrap (i + 1)) (lt (runLS Tryz.prog 3002 HLo (HT off n' cap i X) (HC off c l h p) [t] [] [] [[ii a], [ii b]])), HC off c (mnI l a) (mxI h b) p, [decide (i < (n' : Int)) = true, 0 ≤ i ∧ i < (n' : Int), off ≤ off + i.toNat * 3, c[off + i.toNat * 3]? = some (ii a), 0 ≤ i ∧ i < (n' : Int), off ≤ off + i.toNat * 3 + 1, c[off + i.toNat * 3 + 1]? = some (ii b)]) := by kernel_rfl
theorem q23_x : runLS Tryz.prog 3002 HLo (HT off n' cap i X) (HC off c l h p) [f] [] [] [] = some (.exit 0, HT off n' cap i (lt (runLS Tryz.prog 3002 HLo (HT off n' cap i X) (HC off c l h p) [f] [] [] [])), HC off c l h p, [decide (i < (n' : Int)) = false]) := by kernel_rfl
theorem q23_e : ∃ H, runLS Tryz.prog 3002 (cB (cB (cB (cB b23)))) (HT off n' cap i X) (HC off c l h p) [] [] [] [] = some (.ret, tmpsOf (runLS Tryz.prog 3002 (cB (cB (cB (cB b23)))) (HT off n' cap i X) (HC off c l h p) [] [] [] []), H, []) ∧ vresults Tryz.prog Tryz.f23 (tmpsOf (runLS Tryz.prog 3002 (cB (cB (cB (cB b23)))) (HT off n' cap i X) (HC off c l h p) [] [] [] [])) H = some (iv l h p) ∧ look H 1 = some (win off c) := ⟨[(3000, iW l h p), (3001, iW l h p), (1, win off c)], by kernel_rfl, by kernel_rfl, rfl⟩
theorem q22_r : runLS Tryz.prog 3002 r22 (GT w n' cap X) (HC off c l h p) [t] [] [] [[ii a], [ii b]] = some (.goto 0, GT (if cap = 1 then w else w + 3) (n' - 1) (cap - 1) (lt (runLS Tryz.prog 3002 r22 (GT w n' cap X) (HC off c l h p) [t] [] [] [[ii a], [ii b]])), HC off c (mnI l a) (mxI h b) p, [decide (0 < (n' : Int)) = true, 0 ≤ (0 : Int) ∧ (0 : Int) < (n' : Int), off ≤ w, c[w]? = some (ii a), 0 ≤ (0 : Int) ∧ (0 : Int) < (n' : Int), off ≤ w + 1, c[w + 1]? = some (ii b), 0 ≤ (1 : Int) ∧ (1 : Int) ≤ (n' : Int) ∧ cap ≤ maxLen]) := by kernel_rfl
theorem q22_e : ∃ H, runLS Tryz.prog 3002 r22 (GT w n' cap X) (HC off c l h p) [f] [] [] [] = some (.ret, tmpsOf (runLS Tryz.prog 3002 r22 (GT w n' cap X) (HC off c l h p) [f] [] [] []), H, [decide (0 < (n' : Int)) = false]) ∧ vresults Tryz.prog Tryz.f22 (tmpsOf (runLS Tryz.prog 3002 r22 (GT w n' cap X) (HC off c l h p) [f] [] [] [])) H = some (iv l h p) ∧ (look H 1 = some (win off c) ∧ look H 3000 = some (iW l h p) ∧ look H 3001 = some (iW l h p)) := ⟨[(3000, iW l h p), (3001, iW l h p), (1, win off c)], by kernel_rfl, by kernel_rfl, rfl, rfl, rfl⟩
end

/-- The ends of a hull. -/
def hf (a : Int × Int) (L : List IV) : Int × Int := L.foldl (fun a x => (mnI a.1 x.1, mxI a.2 x.2.1)) a
theorem hf_cons (a : Int × Int) (x : IV) (L : List IV) : hf a (x :: L) = hf (mnI a.1 x.1, mxI a.2 x.2.1) L := rfl
def hullL : List IV → IV
  | [] => bdV
  | x :: r => if (x :: r).all okV = true then ((hf (x.1, x.2.1) r).1, (hf (x.1, x.2.1) r).2, false) else bdV
theorem sub_w {H : Hp} {off : Nat} {c : Array Value} (h : look H 1 = some (win off c)) : Sub (HW off c) H := fun i x hi => by
  simp only [look] at hi
  split at hi
  · rename_i e; subst e; rw [h, ← hi]
  · cases hi
theorem loop23 (off cap : Nat) (L : List IV) (hL : L.length ≤ 20) (p : Bool) : ∀ (j i : Nat) (a : Int × Int) (X : Nat → Value), i + j = L.length →
    ∃ r Y, LoopN Tryz.prog HLo r (HT off L.length cap i X) [] (HC off (cw off L) a.1 a.2 p) (.exit 0) (HT off L.length cap L.length Y) [] (HC off (cw off L) (hf a (L.drop i)).1 (hf a (L.drop i)).2 p)
  | 0, i, a, X, hi => by
    have e : i = L.length := by omega
    subst e
    rw [List.drop_length]
    have s := runLS_step mix (q23_x off L.length cap (cw off L) L.length a.1 a.2 p X) ⟨decide_eq_false (by omega), trivial⟩
    exact ⟨1, _, LoopN.last s⟩
  | j + 1, i, a, X, hi => by
    have hlt : i < L.length := by omega
    have hx : L[i]? = some L[i] := List.getElem?_eq_getElem hlt
    have hd : L.drop i = L[i] :: L.drop (i + 1) := List.drop_eq_getElem_cons hlt
    rw [hd]
    generalize L[i] = x at hx
    obtain ⟨c0, c1, c2⟩ := cw_at off hx
    have hix : 0 ≤ (i : Int) ∧ (i : Int) < (L.length : Int) := by omega
    have b0 : off ≤ off + (i : Int).toNat * 3 := Nat.le_add_right _ _
    have b1 : off ≤ off + (i : Int).toNat * 3 + 1 := by omega
    have hw : IntKind.i64.wrap ((i : Int) + 1) = ((i + 1 : Nat) : Int) := by rw [wrapI (by omega)]; omega
    have s := runLS_step mix (q23_r off L.length cap (cw off L) i a.1 a.2 x.1 x.2.1 p X) ⟨decide_eq_true hix.2, hix, b0, c0, hix, b1, c1, trivial⟩
    rw [hw] at s
    obtain ⟨r, Y, hl⟩ := loop23 off cap L hL p j (i + 1) (mnI a.1 x.1, mxI a.2 x.2.1) (lt _) (by omega)
    rw [hf_cons]
    exact ⟨r + 1, Y, LoopN.round s hl⟩
/-- The document's Hull, of a list that lies in a window. -/
theorem rhull_w (off cap : Nat) (L : List IV) (hL : L.length ≤ 20) : CallsV Tryz.prog (.func 23) #[slw 1 off L.length cap] (HW off (cw off L)) (rt (ivv (hullL L))) (HW off (cw off L)) := by
  have s0 := runLS_step mix (q23_0 off L.length cap (cw off L)) trivial
  have hf := rfine_w off cap L hL
  cases L with
  | nil =>
    obtain ⟨H, h1, h2, h3⟩ := q23_1z off 0 cap (cw off [])
    have hw := StepV.seq s0 (StepV.seqrW (y := .seq (cA (cB (cB b23))) (.seq (.seq (cA (cA (cB (cB (cB b23))))) (.block 0 (.loop HLo))) (cB (cB (cB (cB b23)))))) (runLS_step mix h1 ⟨rfl, trivial⟩))
    exact callsV_step Tryz.func23 b23_eq hw rfl h2 rfl (sub_w h3) rfl
  | cons x r =>
    have hn0 : (((x :: r).length : Int) == 0) = false := beq_eq_false_iff_ne.2 (by simp <;> omega)
    rw [show hullL (x :: r) = if (x :: r).all okV = true then ((Go.Proofs.YtlioffkonfkflaaGreat.hf (x.1, x.2.1) r).1, (Go.Proofs.YtlioffkonfkflaaGreat.hf (x.1, x.2.1) r).2, false) else bdV from rfl]
    cases hk : (x :: r).all okV
    · rw [hk] at hf
      rw [if_neg (by decide)]
      obtain ⟨H, h1, h2, h3⟩ := q23_1f off (x :: r).length cap (cw off (x :: r))
      have hw := StepV.seq s0 (StepV.seqrW (y := .seq (cA (cB (cB b23))) (.seq (.seq (cA (cA (cB (cB (cB b23))))) (.block 0 (.loop HLo))) (cB (cB (cB (cB b23)))))) (runLS_step mix h1 ⟨hn0, hf, trivial⟩))
      exact callsV_step Tryz.func23 b23_eq hw rfl h2 rfl (sub_w h3) rfl
    · rw [hk] at hf
      rw [if_pos rfl]
      have ok : okV x = true := by rw [List.all_cons, Bool.and_eq_true] at hk; exact hk.1
      have kx := okV_iff.1 ok
      obtain ⟨Z1, z1⟩ := q23_1tE off (x :: r).length cap (cw off (x :: r))
      have s1 := runLS_step mix z1 ⟨hn0, hf, trivial⟩
      have tk := cw_take off (L := x :: r) (i := 0) (x := x) rfl
      rw [Nat.zero_mul, Nat.add_zero] at tk
      obtain ⟨Z2, z2⟩ := q23_2E off (x :: r).length cap (cw off (x :: r)) x.1 x.2.1 x.2.2 Z1
      have s2 := runLS_step mix z2 ⟨⟨by decide, by simp <;> omega⟩, Nat.le_refl _, tk, trivial⟩
      have s3 := runLS_step mix (q23_3 off (x :: r).length cap (cw off (x :: r)) x.1 x.2.1 x.2.2 Z2) trivial
      obtain ⟨m, Y, hl⟩ := loop23 off cap (x :: r) hL x.2.2 ((x :: r).length - 1) 1 (x.1, x.2.1) Z2 (by simp <;> omega)
      obtain ⟨H, hE, hv, h3⟩ := q23_e off (x :: r).length cap (cw off (x :: r)) (x :: r).length (Go.Proofs.YtlioffkonfkflaaGreat.hf (x.1, x.2.1) r).1 (Go.Proofs.YtlioffkonfkflaaGreat.hf (x.1, x.2.1) r).2 x.2.2 Y
      have hw := StepV.seq s0 (StepV.seq s1 (StepV.seq s2 (StepV.seq (StepV.seq s3 (LoopN.loop hl).block) (runLS_step mix hE trivial))))
      rw [kx.1] at hv
      exact callsV_step Tryz.func23 b23_eq hw rfl hv rfl (sub_w h3) rfl
theorem loop22 (off : Nat) (c : Array Value) (p : Bool) : ∀ (L : List IV) (w cap : Nat) (a : Int × Int) (X : Nat → Value), L.length ≤ cap → cap ≤ maxLen → off ≤ w →
    (∀ i x, L[i]? = some x → c[w + i * 3]? = some (ii x.1) ∧ c[w + i * 3 + 1]? = some (ii x.2.1)) →
    ∃ T H, ScV Tryz.prog s22 (.seq .skip r22) (GT w L.length cap X) (HC off c a.1 a.2 p) .ret T H ∧ vresults Tryz.prog Tryz.f22 T H = some (iv (hf a L).1 (hf a L).2 p) ∧ look H 1 = some (win off c)
  | [], w, cap, a, X, h1, h2, h3, hc => by
    obtain ⟨H, hE, hv, hl, -, -⟩ := q22_e off w 0 cap c a.1 a.2 p X
    exact ⟨_, H, ScV.ret (StepV.seq (skp _ _) (runLS_step mix hE ⟨rfl, trivial⟩)), hv, hl⟩
  | x :: r, w, cap, a, X, h1, h2, h3, hc => by
    obtain ⟨c0, c1⟩ := hc 0 x rfl
    rw [Nat.zero_mul, Nat.add_zero] at c0 c1
    have hl0 : (0 : Int) < ((x :: r).length : Int) := by simp <;> omega
    have s := runLS_step mix (q22_r off w (x :: r).length cap c a.1 a.2 x.1 x.2.1 p X) ⟨decide_eq_true hl0, ⟨by decide, hl0⟩, h3, c0, ⟨by decide, hl0⟩, by omega, c1, ⟨by decide, by omega, h2⟩, trivial⟩
    have hlen : (x :: r).length - 1 = r.length := rfl
    rw [hlen] at s
    have h1' : r.length + 1 ≤ cap := h1
    obtain ⟨T, H, hs, hv, hlk⟩ := loop22 off c p r (if cap = 1 then w else w + 3) (cap - 1) (mnI a.1 x.1, mxI a.2 x.2.1) (lt _) (by omega) (by omega) (by split <;> omega) (fun i y hy => by
      have hi : i < r.length := (List.getElem?_eq_some_iff.1 hy).1
      rw [if_neg (by omega)]
      have := hc (i + 1) y hy
      rw [show w + (i + 1) * 3 = w + 3 + i * 3 by omega] at this
      exact this)
    exact ⟨T, H, ScV.jump (StepV.seq (skp _ _) s) s22_at hs, hv, hlk⟩
/-- The program's Hull, of a list that lies in a window, given its Fine. -/
theorem hull_w (off cap : Nat) (L : List IV) (hL : L.length ≤ cap) (hcap : cap ≤ maxLen) (hf : CallsV Tryz.prog (.func 12) #[slw 1 off L.length cap] (HW off (cw off L)) (rt (bb (L.all okV))) (HW off (cw off L))) : CallsV Tryz.prog (.func 22) #[slw 1 off L.length cap] (HW off (cw off L)) (rt (ivv (hullL L))) (HW off (cw off L)) := by
  have s0 := runLS_step mix (q22_0 off L.length cap (cw off L)) trivial
  cases L with
  | nil =>
    obtain ⟨H, h1, h2, h3⟩ := q22_1z off 0 cap (cw off [])
    have st := StepV.seqrW (y := .seq (cA (cB s22)) (.seq (cA (cB (cB s22))) r22)) (runLS_step mix h1 ⟨rfl, trivial⟩)
    rw [← s22_eq] at st
    exact callsV_step Tryz.func22 b22_eq (StepV.seq s0 (ScV.ret st).scope) rfl h2 rfl (sub_w h3) rfl
  | cons x r =>
    have hn0 : (((x :: r).length : Int) == 0) = false := beq_eq_false_iff_ne.2 (by simp <;> omega)
    rw [show hullL (x :: r) = if (x :: r).all okV = true then ((Go.Proofs.YtlioffkonfkflaaGreat.hf (x.1, x.2.1) r).1, (Go.Proofs.YtlioffkonfkflaaGreat.hf (x.1, x.2.1) r).2, false) else bdV from rfl]
    cases hk : (x :: r).all okV
    · rw [hk] at hf
      rw [if_neg (by decide)]
      obtain ⟨H, h1, h2, h3⟩ := q22_1f off (x :: r).length cap (cw off (x :: r))
      have st := StepV.seqrW (y := .seq (cA (cB s22)) (.seq (cA (cB (cB s22))) r22)) (runLS_step mix h1 ⟨hn0, hf, trivial⟩)
      rw [← s22_eq] at st
      exact callsV_step Tryz.func22 b22_eq (StepV.seq s0 (ScV.ret st).scope) rfl h2 rfl (sub_w h3) rfl
    · rw [hk] at hf
      rw [if_pos rfl]
      have ok : okV x = true := by rw [List.all_cons, Bool.and_eq_true] at hk; exact hk.1
      have kx := okV_iff.1 ok
      obtain ⟨Z1, z1⟩ := q22_1tE off (x :: r).length cap (cw off (x :: r))
      have s1 := runLS_step mix z1 ⟨hn0, hf, trivial⟩
      have tk := cw_take off (L := x :: r) (i := 0) (x := x) rfl
      rw [Nat.zero_mul, Nat.add_zero] at tk
      have hl0 : (0 : Int) < ((x :: r).length : Int) := by simp <;> omega
      obtain ⟨Z2, z2⟩ := q22_2E off (x :: r).length cap (cw off (x :: r)) x.1 x.2.1 x.2.2 Z1
      have s2 := runLS_step mix z2 ⟨⟨by decide, hl0⟩, Nat.le_refl _, tk, trivial⟩
      have s3 := runLS_step mix (q22_3 off (x :: r).length cap (cw off (x :: r)) x.1 x.2.1 x.2.2 Z2) trivial
      have c01 : ∀ i y, (x :: r)[i]? = some y → (cw off (x :: r))[off + i * 3]? = some (ii y.1) ∧ (cw off (x :: r))[off + i * 3 + 1]? = some (ii y.2.1) := fun i y hy => ⟨(cw_at off hy).1, (cw_at off hy).2.1⟩
      obtain ⟨c0, c1⟩ := c01 0 x rfl
      rw [Nat.zero_mul, Nat.add_zero] at c0 c1
      have s4 := runLS_step mix (q22_r off off (x :: r).length cap (cw off (x :: r)) x.1 x.2.1 x.1 x.2.1 x.2.2 Z2) ⟨decide_eq_true hl0, ⟨by decide, hl0⟩, Nat.le_refl _, c0, ⟨by decide, hl0⟩, by omega, c1, ⟨by decide, by omega, hcap⟩, trivial⟩
      have hlen : (x :: r).length - 1 = r.length := rfl
      rw [hlen] at s4
      have h1' : r.length + 1 ≤ cap := hL
      obtain ⟨T, H, hs, hv, hlk⟩ := loop22 off (cw off (x :: r)) x.2.2 r (if cap = 1 then off else off + 3) (cap - 1) (mnI x.1 x.1, mxI x.2.1 x.2.1) (lt _) (by omega) (by omega) (by split <;> omega) (fun i y hy => by
        have hi : i < r.length := (List.getElem?_eq_some_iff.1 hy).1
        rw [if_neg (by omega)]
        have := c01 (i + 1) y hy
        rw [show off + (i + 1) * 3 = off + 3 + i * 3 by omega] at this
        exact this)
      have st := StepV.seq s1 (StepV.seq s2 (StepV.seq s3 s4))
      rw [← s22_eq] at st
      rw [show mnI x.1 x.1 = x.1 by unfold mnI; split <;> rfl, show mxI x.2.1 x.2.1 = x.2.1 by unfold mxI; split <;> rfl, kx.1] at hv
      exact callsV_step Tryz.func22 b22_eq (StepV.seq s0 (ScV.jump st s22_at hs).scope) rfl hv rfl (sub_w hlk) rfl

end Go.Proofs.YtlioffkonfkflaaGreat
