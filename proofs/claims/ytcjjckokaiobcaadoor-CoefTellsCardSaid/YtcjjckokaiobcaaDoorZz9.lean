/- Texts of the seat, joined. -/
import Derived.Test.YtcjjckokaiobcaaDoorZz8
import Derived.Test.YtcjjckokaiobcaaDoorZz7
import Derived.Test.YtcjjckokaiobcaaDoorZz6
/- Rounds over a method's parts: what comes of Parts. -/
namespace Go.Proofs.YtcjjckokaiobcaaDoor
open Go Go.RowKit
set_option linter.unusedSimpArgs false
set_option linter.unusedVariables false
set_option maxRecDepth 100000

noncomputable def b9 : Code := match Tryd.f9.body with | some c => c | none => .skip
noncomputable def as9 : Code := rgA (cK (cB (cA (cB (cB (cB b9))))))
noncomputable def bd9 : Code := rgB (cK (cB (cA (cB (cB (cB b9))))))
noncomputable def rec9 (m : Int) : Obj := .loop { state := .ready, pending := none, fn := 0, tmps := ⟨[ii m, ud, sl0, ii 0, ptr 1000, ud, ii m, bb true, bb false, ii m, .func (.func 34) #[] #[ptr 1001], ud, ud, ud, ud, ud, ud]⟩, params := #[11], assign := as9, body := bd9, defers := 1002 }
noncomputable abbrev H9 (m : Int) (r : Value) : Hp := [(1001, .cells ⟨[ii m]⟩ 3 (0, 0)), (1000, .cells ⟨[r]⟩ 26 (0, 0)), (1002, .deferred (some [])), (1003, rec9 m)]
def parN (m : Nat) : List Int := parL.getD m []
noncomputable def b11 : Code := match Tryd.f11.body with | some c => c | none => .skip
noncomputable def b36 : Code := match Tryd.f36.body with | some c => c | none => .skip
noncomputable def as11 : Code := rgA (cK (cB (cA (cB (cB (cB b11))))))
noncomputable def bd11 : Code := rgB (cK (cB (cA (cB (cB (cB b11))))))
noncomputable def as36 : Code := rgA (cK (cB (cB b36)))
noncomputable def bd36 : Code := rgB (cK (cB (cB b36)))
noncomputable def rec11 (m : Int) (v : Value) : Obj := .loop { state := .ready, pending := none, fn := 0, tmps := ⟨[ii m, ud, sl0, ii 0, ptr 1000, ud, ii m, bb true, bb false, ii m, v, ud, ud, ud, ud, ud, ud]⟩, params := #[11], assign := as11, body := bd11, defers := 1002 }
noncomputable def rec36 (m : Int) : Obj := .loop { state := .ready, pending := none, fn := 0, tmps := ⟨[yl 1003, ptr 1001, ptr 1004, ud, ud, ud, ii m, .func (.func 34) #[] #[ptr 1005], ud, ud, ud, ud, ud, ud, ud, ud, ud, ud, ud, ud, ud, ud]⟩, params := #[8], assign := as36, body := bd36, defers := 1006 }
noncomputable abbrev H11 (m : Int) (r : Value) : Hp := [(1005, .cells ⟨[ii m]⟩ 3 (0, 0)), (1004, .cells ⟨[yl 1003]⟩ 37 (0, 0)), (1001, .cells ⟨[ii m]⟩ 3 (0, 0)), (1000, .cells ⟨[r]⟩ 22 (0, 0)), (1002, .deferred (some [])), (1003, rec11 m (.func (.func 36) #[] #[ptr 1001])), (1006, .deferred (some [])), (1007, rec36 m)]
noncomputable abbrev H11t (r : Value) : Hp := [(1000, .cells ⟨[r]⟩ 22 (0, 0)), (1002, .deferred (some [])), (1003, rec11 4 (.func (.func 41) #[] #[]))]
def opsL (m : Nat) : List Op3 := if m = 4 then turL.map (fun o => (Int.ofNat o.1, o.2.1, o.2.2)) else (parN m).flatMap fun w => [(1, w, 2000000), (2, w, 1000000), (1, w, 2000000)]
noncomputable def L34 : Code := cK (cK R34)
theorem R34_eq : R34 = .block 0 (.loop L34) := by kernel_rfl
def hpOf (x : Option (Ex × List Value × Hp × List Prop)) : Hp := match x with | some r => r.2.2.1 | none => []
def F34 (q b : Nat) (m : Nat) (off n' : Nat) (i : Int) (X : Nat → Value) : List Value := [yl q, ptr b, ud, ud, X 4, ii m, pto 9100 m, slw 9101 off n' n', ii n', ii i, X 10, X 11, X 12, X 13, X 14, X 15, X 16, X 17]
def x34 (q : Nat) (off n' : Nat) (i j w : Int) (k : Nat) : Value := [ud, ud, ud, ud, ii w, ud, ud, ud, ud, ud, bb (decide (i < (n' : Int))), pto 9101 (off + i.toNat * 1), ii w, yl q, ii w, bb true, bb (!true), ii j].getD k ud
def ow34 (off n' : Nat) (c : Array Value) (i w : Int) : List Prop := [decide (i < (n' : Int)) = true, ixO i n', off ≤ off + i.toNat * 1, c[off + i.toNat * 1]? = some (ii w)]
theorem ow34_ok {off : Nat} {L : List Int} {i : Nat} {w : Int} (hx : L[i]? = some w) : AllP (ow34 off L.length (cwx fl1 off L) i w) := by
  have hlt : i < L.length := (List.getElem?_eq_some_iff.1 hx).1
  exact ⟨decide_eq_true (by omega), ⟨by omega, by omega⟩, Nat.le_add_right _ _, cwI_at off hx, trivial⟩
def szO (A : List Value) (l z by_ : Nat) : Prop := (⟨A⟩ : Array Value).size = l * z ∧ l + 1 ≤ maxLen ∧ (l + 1) * by_ ≤ 140737488355328
theorem t34_F (q b m n off : Nat) : t34 q b m n (slw 9101 off n n) = F34 q b m off n 0 (fun _ => ud) := rfl
theorem vr34 (q b m n off : Nat) (i : Int) (X : Nat → Value) (H : Hp) : vresults Tryd.prog Tryd.f34 (F34 q b m off n i X) H = some ud := rfl
/-- A step's operations of one part. -/
def wOps (w : Int) : List Op3 := [(1, w, 2000000), (2, w, 1000000), (1, w, 2000000)]
theorem opq_app (R M : List Op3) : opq 3 (⟨R.flatMap flO ++ M.flatMap flO⟩ : Array Value) 24 = KO.opq (R ++ M) := by
  unfold Kd.opq
  rw [List.flatMap_append]
  rfl
theorem opqI_app (R M : List Int) : opq 1 (⟨R.flatMap fl1 ++ M.flatMap fl1⟩ : Array Value) 3 = KI.opq (R ++ M) := by
  unfold Kd.opq
  rw [List.flatMap_append]
  rfl
theorem sz_app (A B : List Value) {l z : Nat} (h : (⟨A⟩ : Array Value).size = l * z) (g : B.length = z) : (⟨A ++ B⟩ : Array Value).size = (l + 1) * z := by
  simp only [List.size_toArray, List.length_append] at h ⊢
  rw [h, g, Nat.add_mul]
  omega
theorem flat_snoc {α β : Type} (f : α → List β) {L : List α} {i : Nat} {x : α} (h : L[i]? = some x) : (L.take (i + 1)).flatMap f = (L.take i).flatMap f ++ f x := by
  rw [List.take_add_one, h, List.flatMap_append]
  simp
section
variable (m off n' : Nat) (c : Array Value) (i j w : Int) (X : Nat → Value) (A : List Value) (l : Nat)
noncomputable abbrev p0 : Option (Ex × List Value × Hp × List Prop) := runLS Tryd.prog 4000 L34 (F34 1003 1001 m off n' i X) ((9101, win off c) :: (9100, deadO) :: H9 m sl0) [t] [] [] [[ii w]]
noncomputable abbrev p1 : Option (Ex × List Value × Hp × List Prop) := runLS Tryd.prog 4000 L34 (F34 1003 1001 m off n' i X) ((9000, opq 1 ⟨A⟩ 3) :: (9101, win off c) :: (9100, deadO) :: H9 m (slw 9000 0 l capU)) [t] [] [] [[ii w]]
theorem pf : p0 m off n' c i w X = some (.normal, F34 1003 1001 m off n' (wi (i + 1)) (x34 1003 off n' i (wi (i + 1)) w), hpOf (p0 m off n' c i w X), ow34 off n' c i w) := by kernel_rfl
theorem pl : p1 m off n' c i w X A l = some (.normal, F34 1003 1001 m off n' (wi (i + 1)) (x34 1003 off n' i (wi (i + 1)) w), hpOf (p1 m off n' c i w X A l), ow34 off n' c i w ++ [szO A l 1 8]) := by kernel_rfl
theorem pfo : look (hpOf (p0 m off n' c i w X)) 4001 = some (.cells ⟨[ii w]⟩ 3 (1, 1)) := by kernel_rfl
theorem px0 : ∃ Y, runLS Tryd.prog 4000 L34 (F34 1003 1001 m off n' i X) ((9101, win off c) :: (9100, deadO) :: H9 m sl0) [f] [] [] [] = some (.exit 0, F34 1003 1001 m off n' i Y, (9101, win off c) :: (9100, deadO) :: H9 m sl0, [decide (i < (n' : Int)) = false]) := ⟨lt (runLS Tryd.prog 4000 L34 (F34 1003 1001 m off n' i X) ((9101, win off c) :: (9100, deadO) :: H9 m sl0) [f] [] [] []), by kernel_rfl⟩
theorem px : ∃ Y, runLS Tryd.prog 4000 L34 (F34 1003 1001 m off n' i X) ((9000, opq 1 ⟨A⟩ 3) :: (9101, win off c) :: (9100, deadO) :: H9 m (slw 9000 0 l capU)) [f] [] [] [] = some (.exit 0, F34 1003 1001 m off n' i Y, (9000, opq 1 ⟨A⟩ 3) :: (9101, win off c) :: (9100, deadO) :: H9 m (slw 9000 0 l capU), [decide (i < (n' : Int)) = false]) := ⟨lt (runLS Tryd.prog 4000 L34 (F34 1003 1001 m off n' i X) ((9000, opq 1 ⟨A⟩ 3) :: (9101, win off c) :: (9100, deadO) :: H9 m (slw 9000 0 l capU)) [f] [] [] []), by kernel_rfl⟩
theorem prf : Renum ((9101, win off c) :: (9100, deadO) :: H9 m sl0) (F34 1003 1001 m off n' j (x34 1003 off n' i j w)) [] (hput (hpOf (p0 m off n' c i w X)) 4001 (opq 1 ⟨[ii w]⟩ 3)) (F34 1003 1001 m off n' j (x34 1003 off n' i j w)) [] ((9000, opq 1 ⟨[ii w]⟩ 3) :: (9101, win off c) :: (9100, deadO) :: H9 m (slw 9000 0 1 capU)) (rho [(9000, 4001)]) :=
  renum_of (by kernel_rfl) (by show renL _ [yl 1003, ptr 1001, ud, ud, ii w, ii m, pto 9100 m, slw 9101 off n' n', ii n', ii j, bb (decide (i < (n' : Int))), pto 9101 (off + i.toNat * 1), ii w, yl 1003, ii w, bb true, bb (!true), ii j] = _; simp only [renL, ren_slw, ren_pto]; kernel_rfl) ⟨fun _ => by kernel_rfl, fun _ => by kernel_rfl, fun h => (by cases h), fun _ => by kernel_rfl, fun _ => by simp only [renO, renA, renL, ren_slw]; kernel_rfl, fun _ => by kernel_rfl, fun _ => by kernel_rfl, trivial⟩ (by kernel_rfl) (by kernel_rfl) (by kernel_rfl)
theorem prl : Renum ((9101, win off c) :: (9100, deadO) :: H9 m sl0) (F34 1003 1001 m off n' j (x34 1003 off n' i j w)) [] (hpOf (p1 m off n' c i w X A l)) (F34 1003 1001 m off n' j (x34 1003 off n' i j w)) [] ((9000, opq 1 ⟨A ++ [ii w]⟩ 3) :: (9101, win off c) :: (9100, deadO) :: H9 m (slw 9000 0 (l + 1) capU)) (rho [(9000, 4001)]) :=
  renum_of (by kernel_rfl) (by show renL _ [yl 1003, ptr 1001, ud, ud, ii w, ii m, pto 9100 m, slw 9101 off n' n', ii n', ii j, bb (decide (i < (n' : Int))), pto 9101 (off + i.toNat * 1), ii w, yl 1003, ii w, bb true, bb (!true), ii j] = _; simp only [renL, ren_slw, ren_pto]; kernel_rfl) ⟨fun _ => by kernel_rfl, fun _ => by kernel_rfl, fun h => (by cases h), fun _ => by kernel_rfl, fun _ => by simp only [renO, renA, renL, ren_slw]; kernel_rfl, fun _ => by kernel_rfl, fun _ => by kernel_rfl, trivial⟩ (by kernel_rfl) (by kernel_rfl) (by kernel_rfl)
end

end Go.Proofs.YtcjjckokaiobcaaDoor

/- Rounds over a method's parts: what comes of Ops. -/
namespace Go.Proofs.YtcjjckokaiobcaaDoor
open Go Go.RowKit
set_option linter.unusedSimpArgs false
set_option linter.unusedVariables false
set_option maxRecDepth 100000

section
variable (m off n' : Nat) (c : Array Value) (i j w : Int) (X : Nat → Value) (A : List Value) (l : Nat)
noncomputable abbrev o0 : Option (Ex × List Value × Hp × List Prop) := runLS Tryd.prog 4000 L34 (F34 1007 1005 m off n' i X) ((9101, win off c) :: (9100, deadO) :: H11 m sl0) [t] [] [] [[ii w]]
noncomputable abbrev o1 : Option (Ex × List Value × Hp × List Prop) := runLS Tryd.prog 4000 L34 (F34 1007 1005 m off n' i X) ((9000, opq 3 ⟨A⟩ 24) :: (9101, win off c) :: (9100, deadO) :: H11 m (slw 9000 0 l capU)) [t] [] [] [[ii w]]
theorem of : o0 m off n' c i w X = some (.normal, F34 1007 1005 m off n' (wi (i + 1)) (x34 1007 off n' i (wi (i + 1)) w), hpOf (o0 m off n' c i w X), ow34 off n' c i w) := by kernel_rfl
theorem ol : o1 m off n' c i w X A l = some (.normal, F34 1007 1005 m off n' (wi (i + 1)) (x34 1007 off n' i (wi (i + 1)) w), hpOf (o1 m off n' c i w X A l), ow34 off n' c i w ++ [szO A l 3 24, szO (A ++ flO (1, w, 2000000)) (l + 1) 3 24, szO ((A ++ flO (1, w, 2000000)) ++ flO (2, w, 1000000)) (l + 2) 3 24]) := by kernel_rfl
theorem ofo : look (hpOf (o0 m off n' c i w X)) 4018 = some (.cells ⟨(wOps w).flatMap flO⟩ 24 (1, 3)) := by kernel_rfl
theorem ox0 : ∃ Y, runLS Tryd.prog 4000 L34 (F34 1007 1005 m off n' i X) ((9101, win off c) :: (9100, deadO) :: H11 m sl0) [f] [] [] [] = some (.exit 0, F34 1007 1005 m off n' i Y, (9101, win off c) :: (9100, deadO) :: H11 m sl0, [decide (i < (n' : Int)) = false]) := ⟨lt (runLS Tryd.prog 4000 L34 (F34 1007 1005 m off n' i X) ((9101, win off c) :: (9100, deadO) :: H11 m sl0) [f] [] [] []), by kernel_rfl⟩
theorem ox : ∃ Y, runLS Tryd.prog 4000 L34 (F34 1007 1005 m off n' i X) ((9000, opq 3 ⟨A⟩ 24) :: (9101, win off c) :: (9100, deadO) :: H11 m (slw 9000 0 l capU)) [f] [] [] [] = some (.exit 0, F34 1007 1005 m off n' i Y, (9000, opq 3 ⟨A⟩ 24) :: (9101, win off c) :: (9100, deadO) :: H11 m (slw 9000 0 l capU), [decide (i < (n' : Int)) = false]) := ⟨lt (runLS Tryd.prog 4000 L34 (F34 1007 1005 m off n' i X) ((9000, opq 3 ⟨A⟩ 24) :: (9101, win off c) :: (9100, deadO) :: H11 m (slw 9000 0 l capU)) [f] [] [] []), by kernel_rfl⟩
theorem orf : Renum ((9101, win off c) :: (9100, deadO) :: H11 m sl0) (F34 1007 1005 m off n' j (x34 1007 off n' i j w)) [] (hput (hpOf (o0 m off n' c i w X)) 4018 (opq 3 ⟨(wOps w).flatMap flO⟩ 24)) (F34 1007 1005 m off n' j (x34 1007 off n' i j w)) [] ((9000, opq 3 ⟨(wOps w).flatMap flO⟩ 24) :: (9101, win off c) :: (9100, deadO) :: H11 m (slw 9000 0 3 capU)) (rho [(9000, 4018)]) :=
  renum_of (by kernel_rfl) (by show renL _ [yl 1007, ptr 1005, ud, ud, ii w, ii m, pto 9100 m, slw 9101 off n' n', ii n', ii j, bb (decide (i < (n' : Int))), pto 9101 (off + i.toNat * 1), ii w, yl 1007, ii w, bb true, bb (!true), ii j] = _; simp only [renL, ren_slw, ren_pto]; kernel_rfl) ⟨fun _ => by kernel_rfl, fun _ => by kernel_rfl, fun h => (by cases h), fun _ => by kernel_rfl, fun _ => by kernel_rfl, fun _ => by kernel_rfl, fun _ => by simp only [renO, renA, renL, ren_slw]; kernel_rfl, fun _ => by kernel_rfl, fun _ => by kernel_rfl, fun _ => by kernel_rfl, fun _ => by kernel_rfl, trivial⟩ (by kernel_rfl) (by kernel_rfl) (by kernel_rfl)
theorem orl : Renum ((9101, win off c) :: (9100, deadO) :: H11 m sl0) (F34 1007 1005 m off n' j (x34 1007 off n' i j w)) [] (hpOf (o1 m off n' c i w X A l)) (F34 1007 1005 m off n' j (x34 1007 off n' i j w)) [] ((9000, opq 3 ⟨((A ++ flO (1, w, 2000000)) ++ flO (2, w, 1000000)) ++ flO (1, w, 2000000)⟩ 24) :: (9101, win off c) :: (9100, deadO) :: H11 m (slw 9000 0 (l + 3) capU)) (rho [(9000, 4018)]) :=
  renum_of (by kernel_rfl) (by show renL _ [yl 1007, ptr 1005, ud, ud, ii w, ii m, pto 9100 m, slw 9101 off n' n', ii n', ii j, bb (decide (i < (n' : Int))), pto 9101 (off + i.toNat * 1), ii w, yl 1007, ii w, bb true, bb (!true), ii j] = _; simp only [renL, ren_slw, ren_pto]; kernel_rfl) ⟨fun _ => by kernel_rfl, fun _ => by kernel_rfl, fun h => (by cases h), fun _ => by kernel_rfl, fun _ => by kernel_rfl, fun _ => by kernel_rfl, fun _ => by simp only [renO, renA, renL, ren_slw]; kernel_rfl, fun _ => by kernel_rfl, fun _ => by kernel_rfl, fun _ => by kernel_rfl, fun _ => by kernel_rfl, trivial⟩ (by kernel_rfl) (by kernel_rfl) (by kernel_rfl)
end

end Go.Proofs.YtcjjckokaiobcaaDoor

/- The rounds over a method's parts, all. -/
namespace Go.Proofs.YtcjjckokaiobcaaDoor
open Go Go.RowKit
set_option linter.unusedSimpArgs false
set_option linter.unusedVariables false
set_option maxRecDepth 100000

theorem fl1_size (R : List Int) : (⟨R.flatMap fl1⟩ : Array Value).size = R.length * 1 := by
  simp only [List.size_toArray]; exact KI.size R
theorem domP {m off : Nat} {c A : Array Value} {l : Nat} {i : Nat} : domB ((9101, win off c) :: (9100, deadO) :: H9 m sl0) i = true → domB ((9000, opq 1 A 3) :: (9101, win off c) :: (9100, deadO) :: H9 m (slw 9000 0 l capU)) i = true := all_dom (by kernel_rfl) i
theorem domO {m off : Nat} {c A : Array Value} {l : Nat} {i : Nat} : domB ((9101, win off c) :: (9100, deadO) :: H11 m sl0) i = true → domB ((9000, opq 3 A 24) :: (9101, win off c) :: (9100, deadO) :: H11 m (slw 9000 0 l capU)) i = true := all_dom (by kernel_rfl) i
theorem loopP (m off : Nat) (L : List Int) (hL : L.length ≤ 15) : ∀ (j i : Nat) (X : Nat → Value) (R : List Int), i + j = L.length → R = L.take i →
    ∃ r Y, LoopI Tryd.prog L34 ((9101, win off (cwx fl1 off L)) :: (9100, deadO) :: H9 m sl0) r (F34 1003 1001 m off L.length i X) ((9000, KI.opq R) :: ((9101, win off (cwx fl1 off L)) :: (9100, deadO) :: H9 m (slw 9000 0 R.length capU))) (.exit 0) (F34 1003 1001 m off L.length L.length Y) ((9000, KI.opq L) :: ((9101, win off (cwx fl1 off L)) :: (9100, deadO) :: H9 m (slw 9000 0 L.length capU)))
  | 0, i, X, R, hi, hR => by
    have e : i = L.length := by omega
    subst e
    rw [List.take_length] at hR
    subst hR
    obtain ⟨Y, e⟩ := px m off R.length (cwx fl1 off R) R.length X (R.flatMap fl1) R.length
    exact ⟨1, Y, LoopI.last (fun _ => domP) (runLS_step mix e ⟨decide_eq_false (by omega), trivial⟩)⟩
  | j + 1, i, X, R, hi, hR => by
    have hlt : i < L.length := by omega
    have hx : L[i]? = some L[i] := List.getElem?_eq_getElem hlt
    generalize L[i] = w at hx
    have hRl : R.length = i := by rw [hR, List.length_take]; omega
    have hs := runLS_step mix (pl m off L.length (cwx fl1 off L) i w X (R.flatMap fl1) R.length) (allP_app (ow34_ok hx) ⟨⟨fl1_size R, by show _ ≤ 9223372036854775807; omega, by omega⟩, trivial⟩)
    have hn := prl m off L.length (cwx fl1 off L) i (wi ((i : Int) + 1)) w X (R.flatMap fl1) R.length
    have hw : wi ((i : Int) + 1) = ((i + 1 : Nat) : Int) := wi_nx hlt (by omega)
    rw [hw] at hs hn
    have e2 : opq 1 (⟨R.flatMap fl1 ++ [ii w]⟩ : Array Value) 3 = KI.opq (R ++ [w]) := opqI_app R [w]
    rw [e2] at hn
    obtain ⟨r, Y, ih⟩ := loopP m off L hL j (i + 1) (x34 1003 off L.length i (i + 1 : Nat) w) (R ++ [w]) (by omega) (by rw [hR, List.take_add_one, hx]; rfl)
    rw [List.length_append, List.length_singleton] at ih
    exact ⟨r + 1, Y, LoopI.round (fun _ => domP) hs hn ih⟩
theorem loopO (m off : Nat) (L : List Int) (hL : L.length ≤ 15) : ∀ (j i : Nat) (X : Nat → Value) (R : List Op3), i + j = L.length → R = (L.take i).flatMap wOps →
    ∃ r Y, LoopI Tryd.prog L34 ((9101, win off (cwx fl1 off L)) :: (9100, deadO) :: H11 m sl0) r (F34 1007 1005 m off L.length i X) ((9000, KO.opq R) :: ((9101, win off (cwx fl1 off L)) :: (9100, deadO) :: H11 m (slw 9000 0 R.length capU))) (.exit 0) (F34 1007 1005 m off L.length L.length Y) ((9000, KO.opq (L.flatMap wOps)) :: ((9101, win off (cwx fl1 off L)) :: (9100, deadO) :: H11 m (slw 9000 0 (L.flatMap wOps).length capU)))
  | 0, i, X, R, hi, hR => by
    have e : i = L.length := by omega
    subst e
    rw [List.take_length] at hR
    subst hR
    obtain ⟨Y, e⟩ := ox m off L.length (cwx fl1 off L) L.length X ((L.flatMap wOps).flatMap flO) (L.flatMap wOps).length
    exact ⟨1, Y, LoopI.last (fun _ => domO) (runLS_step mix e ⟨decide_eq_false (by omega), trivial⟩)⟩
  | j + 1, i, X, R, hi, hR => by
    have hlt : i < L.length := by omega
    have hx : L[i]? = some L[i] := List.getElem?_eq_getElem hlt
    generalize L[i] = w at hx
    have hlen : ∀ M : List Int, (M.flatMap wOps).length = 3 * M.length := fun M => by
      induction M with
      | nil => rfl
      | cons x r ih => rw [List.flatMap_cons, List.length_append, ih, List.length_cons]; simp [wOps]; omega
    have hRl : R.length = 3 * i := by rw [hR, hlen, List.length_take]; omega
    have hm : ∀ k, k ≤ 100 → k ≤ maxLen := fun k hk => by show k ≤ 9223372036854775807; omega
    have a1 : szO (R.flatMap flO) R.length 3 24 := ⟨flO_size R, hm _ (by omega), by omega⟩
    have a2 : szO (R.flatMap flO ++ flO (1, w, 2000000)) (R.length + 1) 3 24 := ⟨sz_app _ _ a1.1 rfl, hm _ (by omega), by omega⟩
    have a3 : szO ((R.flatMap flO ++ flO (1, w, 2000000)) ++ flO (2, w, 1000000)) (R.length + 2) 3 24 := ⟨sz_app _ _ a2.1 rfl, hm _ (by omega), by omega⟩
    have hs := runLS_step mix (ol m off L.length (cwx fl1 off L) i w X (R.flatMap flO) R.length) (allP_app (ow34_ok hx) ⟨a1, a2, a3, trivial⟩)
    have hn := orl m off L.length (cwx fl1 off L) i (wi ((i : Int) + 1)) w X (R.flatMap flO) R.length
    have hw : wi ((i : Int) + 1) = ((i + 1 : Nat) : Int) := wi_nx hlt (by omega)
    rw [hw] at hs hn
    have e2 : opq 3 (⟨((R.flatMap flO ++ flO (1, w, 2000000)) ++ flO (2, w, 1000000)) ++ flO (1, w, 2000000)⟩ : Array Value) 24 = KO.opq (R ++ wOps w) := by
      rw [← opq_app R (wOps w)]
      simp only [List.append_assoc]
      rfl
    rw [e2] at hn
    obtain ⟨r, Y, ih⟩ := loopO m off L hL j (i + 1) (x34 1007 off L.length i (i + 1 : Nat) w) (R ++ wOps w) (by omega) (by rw [hR, flat_snoc wOps hx])
    rw [List.length_append, show (wOps w).length = 3 from rfl] at ih
    exact ⟨r + 1, Y, LoopI.round (fun _ => domO) hs hn ih⟩
theorem par_len {m : Nat} {L : List Int} (hm : parL[m]? = some L) : m < 4 ∧ L.length ≤ 15 ∧ L ≠ [] ∧ parN m = L := by
  have h1 : m < 4 := (List.getElem?_eq_some_iff.1 hm).1
  have h2 : ∀ L ∈ parL, L.length ≤ 15 ∧ L ≠ [] := by decide
  obtain ⟨h3, h4⟩ := h2 L (List.mem_of_getElem? hm)
  refine ⟨h1, h3, h4, ?_⟩
  unfold parN
  rw [List.getD_eq_getElem?_getD, hm]
  rfl
theorem c34P {m : Nat} {L : List Int} (hm : parL[m]? = some L) : CallsV Tryd.prog (.func 34) #[yl 1003, ptr 1001] (H9 m sl0) (rt ud) ((9000, KI.opq L) :: H9 m (slw 9000 0 L.length capU)) := by
  obtain ⟨hm4, hL, hne, -⟩ := par_len hm
  refine calls34c hm (by kernel_rfl) (by kernel_rfl) (by kernel_rfl) (by kernel_rfl) (fun off => ?_) (by kernel_rfl) (by kernel_rfl) (fun off => by kernel_rfl)
  cases L with
  | nil => exact absurd rfl hne
  | cons w r =>
    have hx : (w :: r)[0]? = some w := rfl
    have hs := (runLS_step mix (pf m off (w :: r).length (cwx fl1 off (w :: r)) (0 : Nat) w (fun _ => ud)) (ow34_ok hx)).opaq (pfo m off (w :: r).length (cwx fl1 off (w :: r)) (0 : Nat) w (fun _ => ud)) rfl
    have hn := prf m off (w :: r).length (cwx fl1 off (w :: r)) (0 : Nat) (wi (((0 : Nat) : Int) + 1)) w (fun _ => ud)
    have hw : wi (((0 : Nat) : Int) + 1) = ((0 + 1 : Nat) : Int) := by decide
    rw [hw] at hs hn
    have e2 : opq 1 (⟨[ii w]⟩ : Array Value) 3 = KI.opq [w] := rfl
    rw [e2] at hn hs
    obtain ⟨k, Y, ih⟩ := loopP m off (w :: r) hL r.length 1 (x34 1003 off (w :: r).length 0 1 w) [w] (by simp; omega) rfl
    have h4 := LoopI.loop (fun i hi => domP hi) (LoopI.round (fun _ hi => hi) hs hn ih)
    exact ⟨_, _, .normal, R34_eq ▸ (h4.block (id := 0)), rfl, rfl, sameL_sub ⟨rfl, rfl, rfl, rfl, rfl, trivial⟩⟩
theorem c34O {m : Nat} {L : List Int} (hm : parL[m]? = some L) : CallsV Tryd.prog (.func 34) #[yl 1007, ptr 1005] (H11 m sl0) (rt ud) ((9000, KO.opq (L.flatMap wOps)) :: H11 m (slw 9000 0 (L.flatMap wOps).length capU)) := by
  obtain ⟨hm4, hL, hne, -⟩ := par_len hm
  refine calls34c hm (by kernel_rfl) (by kernel_rfl) (by kernel_rfl) (by kernel_rfl) (fun off => ?_) (by kernel_rfl) (by kernel_rfl) (fun off => by kernel_rfl)
  cases L with
  | nil => exact absurd rfl hne
  | cons w r =>
    have hx : (w :: r)[0]? = some w := rfl
    have hs := (runLS_step mix (of m off (w :: r).length (cwx fl1 off (w :: r)) (0 : Nat) w (fun _ => ud)) (ow34_ok hx)).opaq (ofo m off (w :: r).length (cwx fl1 off (w :: r)) (0 : Nat) w (fun _ => ud)) rfl
    have hn := orf m off (w :: r).length (cwx fl1 off (w :: r)) (0 : Nat) (wi (((0 : Nat) : Int) + 1)) w (fun _ => ud)
    have hw : wi (((0 : Nat) : Int) + 1) = ((0 + 1 : Nat) : Int) := by decide
    rw [hw] at hs hn
    have e2 : opq 3 (⟨(wOps w).flatMap flO⟩ : Array Value) 24 = KO.opq (wOps w) := rfl
    rw [e2] at hn hs
    obtain ⟨k, Y, ih⟩ := loopO m off (w :: r) hL r.length 1 (x34 1007 off (w :: r).length 0 1 w) (wOps w) (by simp; omega) (by simp)
    have h4 := LoopI.loop (fun i hi => domO hi) (LoopI.round (fun _ hi => hi) hs hn ih)
    exact ⟨_, _, .normal, R34_eq ▸ (h4.block (id := 0)), rfl, rfl, sameL_sub ⟨rfl, rfl, rfl, rfl, rfl, rfl, rfl, rfl, rfl, trivial⟩⟩

end Go.Proofs.YtcjjckokaiobcaaDoor

/- A method's parts, and its step's operations, as the program tells them. -/
namespace Go.Proofs.YtcjjckokaiobcaaDoor
open Go Go.RowKit
set_option linter.unusedSimpArgs false
set_option linter.unusedVariables false
set_option maxRecDepth 100000

abbrev mkA (s : Value) : Value := tp [s, ii 0]
theorem mkA_ren : ∀ (β : Num) (s : Value), ren β (mkA s) = mkA (ren β s) := fun _ _ => rfl
theorem p9_raw (m l : Nat) (A : List Value) : runF Tryd.prog 1000 [9000] 9 #[ii m] [] [n] [(23, rt (bb true))] [(34, rt ud, (9000, opq 1 ⟨A⟩ 3) :: H9 m (slw 9000 0 l capU))] [] = some (rt (mkA (slw 9000 0 l capU)), [(9000, opq 1 ⟨A⟩ 3)], [PureX Tryd.prog 23 #[ii m] (rt (bb true)), CallsV Tryd.prog (.func 34) #[yl 1003, ptr 1001] (H9 m sl0) (rt ud) ((9000, opq 1 ⟨A⟩ 3) :: H9 m (slw 9000 0 l capU))]) := by kernel_rfl
theorem p9_4 : runF Tryd.prog 1000 [] 9 #[ii 4] [] [n] [(23, rt (bb true))] [(34, rt ud, H9 4 sl0)] [] = some (rt (mkA sl0), [], [PureX Tryd.prog 23 #[ii 4] (rt (bb true)), CallsV Tryd.prog (.func 34) #[yl 1003, ptr 1001] (H9 4 sl0) (rt ud) (H9 4 sl0)]) := by kernel_rfl
theorem p9_bad (a : Int) : runF Tryd.prog 1000 [] 9 #[ii a] [] [n] [(23, rt (bb false))] [] [] = some (rt (tp [sl0, ii 2]), [], [PureX Tryd.prog 23 #[ii a] (rt (bb false))]) := by kernel_rfl
theorem p11_raw (m l : Nat) (A : List Value) : runF Tryd.prog 1000 [9000] 11 #[ii m] [] [n, f] [(23, rt (bb true))] [(34, rt ud, (9000, opq 3 ⟨A⟩ 24) :: H11 m (slw 9000 0 l capU))] [] = some (rt (mkA (slw 9000 0 l capU)), [(9000, opq 3 ⟨A⟩ 24)], [PureX Tryd.prog 23 #[ii m] (rt (bb true)), ((m : Int) == 4) = false, CallsV Tryd.prog (.func 34) #[yl 1007, ptr 1005] (H11 m sl0) (rt ud) ((9000, opq 3 ⟨A⟩ 24) :: H11 m (slw 9000 0 l capU))]) := by kernel_rfl
theorem p11_bad (a : Int) : runF Tryd.prog 1000 [] 11 #[ii a] [] [n] [(23, rt (bb false))] [] [] = some (rt (tp [sl0, ii 2]), [], [PureX Tryd.prog 23 #[ii a] (rt (bb false))]) := by kernel_rfl
theorem is_ok {m : Nat} (h : m < 5) : PureX Tryd.prog 23 #[ii m] (rt (bb true)) := (is_v m).is (by simp; omega)
theorem parts_n {m : Nat} {L : List Int} (hm : parL[m]? = some L) : NewA KI Tryd.prog 9 (fun _ => #[ii m]) [] KI mkA L :=
  newA_0 (k := 9000) (o := KI.opq L) (cc := capU) mkA_ren (fun _ => rfl) (.inr (.inl ⟨rfl, rfl⟩)) (runF_calls mix (p9_raw m L.length (L.flatMap fl1)) ⟨is_ok (by have := (par_len hm).1; omega), c34P hm, trivial⟩ rfl rfl)
theorem t34_4 (off : Nat) (p) : runLS Tryd.prog 4000 R34 (t34 1003 1001 4 0 (.slice (some ⟨9101, off, p⟩) 0 0)) ((9101, deadO) :: (9100, deadO) :: H9 4 sl0) [] [] [] [] = some (.normal, tmpsOf (runLS Tryd.prog 4000 R34 (t34 1003 1001 4 0 (.slice (some ⟨9101, off, p⟩) 0 0)) ((9101, deadO) :: (9100, deadO) :: H9 4 sl0) [] [] [] []), (9101, deadO) :: (9100, deadO) :: H9 4 sl0, []) ∧ vresults Tryd.prog Tryd.f34 (tmpsOf (runLS Tryd.prog 4000 R34 (t34 1003 1001 4 0 (.slice (some ⟨9101, off, p⟩) 0 0)) ((9101, deadO) :: (9100, deadO) :: H9 4 sl0) [] [] [] [])) ((9101, deadO) :: (9100, deadO) :: H9 4 sl0) = some ud := ⟨by kernel_rfl, by kernel_rfl⟩
theorem parts_4 : PureX Tryd.prog 9 #[ii 4] (rt (mkA sl0)) :=
  runF_pure mix p9_4 ⟨is_ok (m := 4) (by decide), calls34_0 (ex := .normal) (by kernel_rfl) (by kernel_rfl) (by kernel_rfl) (by kernel_rfl) (fun off p => ⟨_, runLS_step mix (t34_4 off p).1 trivial, (t34_4 off p).2⟩) rfl (by kernel_rfl) (fun off p => by kernel_rfl), trivial⟩ rfl rfl
theorem parts_bad (a : Int) (h : (decide (0 ≤ a) && decide (a ≤ 4)) = false) : PureX Tryd.prog 9 #[ii a] (rt (tp [sl0, ii 2])) := runF_pure mix (p9_bad a) ⟨(is_v a).is (by rw [h]), trivial⟩ rfl rfl
theorem ops_bad (a : Int) (h : (decide (0 ≤ a) && decide (a ≤ 4)) = false) : PureX Tryd.prog 11 #[ii a] (rt (tp [sl0, ii 2])) := runF_pure mix (p11_bad a) ⟨(is_v a).is (by rw [h]), trivial⟩ rfl rfl
theorem ops_n {m : Nat} {L : List Int} (hm : parL[m]? = some L) : NewA KI Tryd.prog 11 (fun _ => #[ii m]) [] KO mkA (L.flatMap wOps) :=
  newA_0 (k := 9000) (o := KO.opq (L.flatMap wOps)) (cc := capU) mkA_ren (fun _ => rfl) (.inr (.inl ⟨rfl, rfl⟩)) (runF_calls mix (p11_raw m (L.flatMap wOps).length ((L.flatMap wOps).flatMap flO)) ⟨is_ok (by have := (par_len hm).1; omega), by have := (par_len hm).1; simp; omega, c34O hm, trivial⟩ rfl rfl)
/-- The turning method's step. -/
def turO : List Op3 := [(1, 1, 4), (3, -8, 17), (1, 1, 4), (2, 1, 1), (1, 1, 4), (3, -8, 17), (1, 1, 4)]
theorem p11_4 : runF Tryd.prog 1000 [4027] 11 #[ii 4] [] [n, n] [(23, rt (bb true))] [(41, rt ud, (4027, KO.own turO) :: H11t (slw 4027 0 7 capU))] [] = some (rt (mkA (slw 4027 0 7 capU)), [(4027, KO.own turO)], [PureX Tryd.prog 23 #[ii 4] (rt (bb true)), CallsV Tryd.prog (.func 41) #[yl 1003] (H11t sl0) (rt ud) ((4027, KO.own turO) :: H11t (slw 4027 0 7 capU))]) := by kernel_rfl
noncomputable abbrev r41 : Option (Ex × List Value × Hp × List Prop) := runLS Tryd.prog 4000 (.block 0 (.loop L41)) ([yl 1003, ud, ud, ud, turV, ii 0] ++ List.replicate 7 ud) (H11t sl0) [] [] [] []
theorem t41_r : r41 = some (.normal, tmpsOf r41, hpOf r41, []) := by kernel_rfl
theorem t41_s : SameL ((4027, KO.own turO) :: H11t (slw 4027 0 7 capU)) (hpOf r41) := ⟨by kernel_rfl, by kernel_rfl, by kernel_rfl, by kernel_rfl, trivial⟩
theorem c41 : CallsV Tryd.prog (.func 41) #[yl 1003] (H11t sl0) (rt ud) ((4027, KO.own turO) :: H11t (slw 4027 0 7 capU)) :=
  callsV_step (f := 41) (fc := Tryd.f41) rfl b41_eq ((s41_0 1003 (H11t sl0)).seq (runLS_step mix t41_r trivial)) rfl (by kernel_rfl) (by kernel_rfl) (sameL_sub t41_s) (by kernel_rfl)
theorem ops_4 : NewA KI Tryd.prog 11 (fun _ => #[ii 4]) [] KO mkA turO :=
  newA_0 (k := 4027) (o := KO.own turO) (cc := capU) mkA_ren (fun _ => rfl) (.inl ⟨rfl, rfl⟩) (runF_calls mix p11_4 ⟨is_ok (m := 4) (by decide), c41, trivial⟩ rfl rfl)

end Go.Proofs.YtcjjckokaiobcaaDoor
