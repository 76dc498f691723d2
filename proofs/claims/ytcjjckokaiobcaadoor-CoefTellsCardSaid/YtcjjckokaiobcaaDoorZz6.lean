/- Texts of the seat, joined. -/
import Derived.Test.YtcjjckokaiobcaaDoorZz5
/- The document's operations back: its rounds. -/
namespace Go.Proofs.YtcjjckokaiobcaaDoor
open Go Go.RowKit
set_option linter.unusedSimpArgs false
set_option linter.unusedVariables false
set_option maxRecDepth 100000

theorem ren_ii (ρ : Nat → Nat) (x : Int) : ren (rnm ρ) (ii x) = ii x := rfl
/-- The one that takes it back. -/
def ngO (o : Op3) : Op3 := (o.1, wi (0 - o.2.1), o.2.2)
/-- Operations back. -/
def bkL (L : List Op3) : List Op3 := L.reverse.map ngO
def LstA {α α3 : Type} (K : Kd α) (P : Program) (f : Nat) (args : Value → Array Value) (L : List α) (K3 : Kd α3) (R : List α3) : Prop :=
  (R = [] → SemA K P f args L sl0) ∧ (R ≠ [] → NewA K P f args L K3 (fun s => s) R)
theorem opq_snoc (R : List Op3) (x : Op3) : opq 3 (⟨R.flatMap flO ++ flO x⟩ : Array Value) 24 = KO.opq (R ++ [x]) := by
  unfold Kd.opq
  rw [List.flatMap_append]
  simp [KO]
theorem opq_one (x : Op3) : opq 3 (⟨flO x⟩ : Array Value) 24 = KO.opq [x] := by
  unfold Kd.opq
  simp [KO]
theorem bk_drop {L : List Op3} {k : Nat} {x : Op3} (h : L[k]? = some x) : ((L.drop k).reverse).map ngO = ((L.drop (k + 1)).reverse).map ngO ++ [ngO x] := by
  obtain ⟨hlt, rfl⟩ := List.getElem?_eq_some_iff.1 h
  rw [List.drop_eq_getElem_cons hlt, List.reverse_cons, List.map_append]
  rfl
theorem wi_pv {k m : Nat} (h : k ≤ m) (hm : m ≤ 9223372036854775807) : wi ((k : Int) - 1) = (k : Int) - 1 := wi_id (by omega) (by omega)

noncomputable def b18 : Code := match Tryd.f18.body with | some c => c | none => .skip
noncomputable def L18 : Code := cK (cK (cB (pcx 2 b18)))
theorem b18_eq : Tryd.f18.body = some (.seq (pcx 0 b18) (.seq (pcx 1 b18) (.seq (.seq (cA (pcx 2 b18)) (.block 0 (.loop L18))) (cB (cB (cB b18)))))) := by kernel_rfl
def F18 (off n' cap : Nat) (r : Value) (i : Int) (X : Nat → Value) : List Value := [slw 1 off n' cap, ud, sl0, r, ii i, slw 1 off n' cap, ii n', ii (wi (n' - 1)), X 8, X 9, X 10, X 11, X 12, X 13, X 14, X 15, X 16, X 17, X 18, X 19, X 20, X 21, X 22, X 23, X 24, X 25, X 26, X 27, X 28, X 29, X 30, X 31, ud]
def xF (off n' cap : Nat) (i : Int) (o : Op3) (m q p z : Nat) (j : Nat) : Value := [slw 1 off n' cap, ud, sl0, slw q 0 1 capU, ii (wi (i - 1)), slw 1 off n' cap, ii n', ii (wi (n' - 1)), ii i, bb (decide (0 ≤ i)), ii i, ii (wi (i - 1)), sl0, slw 1 off n' cap, ii i, pto 1 (off + i.toNat * 3), pto 1 (off + i.toNat * 3), uu o.1, slw 1 off n' cap, ii i, pto 1 (off + i.toNat * 3), pto 1 (off + i.toNat * 3 + 1), ii o.2.1, ii (wi (0 - o.2.1)), slw 1 off n' cap, ii i, pto 1 (off + i.toNat * 3), pto 1 (off + i.toNat * 3 + 2), ii o.2.2, ov (ngO o), slw p 0 1 1, slw q 0 1 capU, ud].getD j ud
def xL (off n' cap : Nat) (i : Int) (o : Op3) (m q p z : Nat) (j : Nat) : Value := [slw 1 off n' cap, ud, sl0, slw q 0 (m + 1) capU, ii (wi (i - 1)), slw 1 off n' cap, ii n', ii (wi (n' - 1)), ii i, bb (decide (0 ≤ i)), ii i, ii (wi (i - 1)), slw z 0 m capU, slw 1 off n' cap, ii i, pto 1 (off + i.toNat * 3), pto 1 (off + i.toNat * 3), uu o.1, slw 1 off n' cap, ii i, pto 1 (off + i.toNat * 3), pto 1 (off + i.toNat * 3 + 1), ii o.2.1, ii (wi (0 - o.2.1)), slw 1 off n' cap, ii i, pto 1 (off + i.toNat * 3), pto 1 (off + i.toNat * 3 + 2), ii o.2.2, ov (ngO o), slw p 0 1 1, slw q 0 (m + 1) capU, ud].getD j ud
abbrev H18 (off : Nat) (c : Array Value) : Hp := [(9001, deadO), (9002, deadO), (1, win off c)]
section
variable (off n' cap : Nat) (c : Array Value) (i : Int) (X : Nat → Value) (o : Op3) (A : List Value) (m : Nat)
def owB : List Prop := [decide (0 ≤ i) = true, ixO i n', off ≤ off + i.toNat * 3, c[off + i.toNat * 3]? = some (uu o.1), ixO i n', off ≤ off + i.toNat * 3 + 1, c[off + i.toNat * 3 + 1]? = some (ii o.2.1), ixO i n', off ≤ off + i.toNat * 3 + 2, c[off + i.toNat * 3 + 2]? = some (ii o.2.2)]
abbrev ldB : List (List Value) := [[uu o.1], [ii o.2.1], [ii o.2.2]]
theorem t18_p0 : runLS Tryd.prog 4000 (pcx 0 b18) (frame0 Tryd.f18 #[slw 1 off n' cap]) (HW off c) [] [] [] [] = some (.normal, [slw 1 off n' cap, ud, sl0] ++ List.replicate 30 ud, HW off c, []) := by kernel_rfl
theorem t18_p1 : runLS Tryd.prog 4000 (pcx 1 b18) ([slw 1 off n' cap, ud, sl0] ++ List.replicate 30 ud) (HW off c) [] [] [] [] = some (.normal, [slw 1 off n' cap, ud, sl0, sl0] ++ List.replicate 29 ud, HW off c, []) := by kernel_rfl
theorem t18_p2 : runLS Tryd.prog 4000 (cA (pcx 2 b18)) ([slw 1 off n' cap, ud, sl0, sl0] ++ List.replicate 29 ud) (HW off c) [] [] [] [] = some (.normal, F18 off n' cap sl0 (wi (n' - 1)) (fun _ => ud), HW off c, []) := by kernel_rfl
theorem t18_x0 : ∃ Y, runLS Tryd.prog 4000 L18 (F18 off n' cap sl0 i X) (HW off c) [f] [] [] [] = some (.exit 0, F18 off n' cap sl0 i Y, HW off c, [decide (0 ≤ i) = false]) := ⟨lt (runLS Tryd.prog 4000 L18 (F18 off n' cap sl0 i X) (HW off c) [f] [] [] []), by kernel_rfl⟩
theorem t18_x : ∃ Y, runLS Tryd.prog 4000 L18 (F18 off n' cap (slw 9000 0 m capU) i X) ((9000, opq 3 ⟨A⟩ 24) :: H18 off c) [f] [] [] [] = some (.exit 0, F18 off n' cap (slw 9000 0 m capU) i Y, (9000, opq 3 ⟨A⟩ 24) :: H18 off c, [decide (0 ≤ i) = false]) := ⟨lt (runLS Tryd.prog 4000 L18 (F18 off n' cap (slw 9000 0 m capU) i X) ((9000, opq 3 ⟨A⟩ 24) :: H18 off c) [f] [] [] []), by kernel_rfl⟩
theorem t18_f : runLS Tryd.prog 4000 L18 (F18 off n' cap sl0 i X) (H18 off c) [t] [] [] (ldB o) = some (.normal, F18 off n' cap (slw 4001 0 1 capU) (wi (i - 1)) (xF off n' cap i o 0 4001 4000 0), [(4001, .cells ⟨flO (ngO o)⟩ 24 (1, 3)), (4000, .cells ⟨flO (ngO o)⟩ 24 (0, 0)), (9001, deadO), (9002, deadO), (1, win off c)], owB off n' c i o) := by kernel_rfl
theorem t18_l : runLS Tryd.prog 4000 L18 (F18 off n' cap (slw 9000 0 m capU) i X) ((9000, opq 3 ⟨A⟩ 24) :: H18 off c) [t] [] [] (ldB o) = some (.normal, F18 off n' cap (slw 4001 0 (m + 1) capU) (wi (i - 1)) (xL off n' cap i o m 4001 4000 9000), [(4001, opq 3 ⟨A ++ flO (ngO o)⟩ 24), (9000, deadO), (4000, .cells ⟨flO (ngO o)⟩ 24 (0, 0)), (9001, deadO), (9002, deadO), (1, win off c)], owB off n' c i o ++ [(⟨A⟩ : Array Value).size = m * 3 ∧ m + 1 ≤ maxLen ∧ (m + 1) * 24 ≤ 140737488355328]) := by kernel_rfl
theorem t18_t0 : ∃ T, runLS Tryd.prog 4000 (cB (cB (cB b18))) (F18 off n' cap sl0 i X) (HW off c) [] [] [] [] = some (.ret, T, HW off c, []) ∧ vresults Tryd.prog Tryd.f18 T (HW off c) = some sl0 := ⟨_, rfl, rfl⟩
theorem t18_t : ∃ T, runLS Tryd.prog 4000 (cB (cB (cB b18))) (F18 off n' cap (slw 9000 0 m capU) i X) ((9000, opq 3 ⟨A⟩ 24) :: H18 off c) [] [] [] [] = some (.ret, T, (9000, opq 3 ⟨A⟩ 24) :: H18 off c, []) ∧ vresults Tryd.prog Tryd.f18 T ((9000, opq 3 ⟨A⟩ 24) :: H18 off c) = some (slw 9000 0 m capU) := ⟨_, rfl, rfl⟩
theorem rn18_0 : Renum (HW off c) (F18 off n' cap sl0 i (fun _ => ud)) [] (HW off c) (F18 off n' cap sl0 i (fun _ => ud)) [] (H18 off c) (rho []) :=
  renum_of (by kernel_rfl) (by unfold F18; simp only [renL, ren_slw]; kernel_rfl) ⟨fun h => (by cases h), fun h => (by cases h), fun _ => by kernel_rfl, trivial⟩ (by kernel_rfl) (by kernel_rfl) (by kernel_rfl)
theorem rn18_f : Renum (HW off c) (F18 off n' cap (slw 4001 0 1 capU) (wi (i - 1)) (xF off n' cap i o 0 4001 4000 0)) [] [(4001, opq 3 ⟨flO (ngO o)⟩ 24), (4000, .cells ⟨flO (ngO o)⟩ 24 (0, 0)), (9001, deadO), (9002, deadO), (1, win off c)] (F18 off n' cap (slw 9000 0 1 capU) (wi (i - 1)) (xF off n' cap i o 0 9000 9002 0)) [] ((9000, opq 3 ⟨flO (ngO o)⟩ 24) :: H18 off c) (rho [(9000, 4001), (9002, 4000)]) :=
  renum_of (by kernel_rfl) (by show renL _ [slw 1 off n' cap, ud, sl0, slw 9000 0 1 capU, ii (wi (i - 1)), slw 1 off n' cap, ii n', ii (wi (n' - 1)), ii i, bb (decide (0 ≤ i)), ii i, ii (wi (i - 1)), sl0, slw 1 off n' cap, ii i, pto 1 (off + i.toNat * 3), pto 1 (off + i.toNat * 3), uu o.1, slw 1 off n' cap, ii i, pto 1 (off + i.toNat * 3), pto 1 (off + i.toNat * 3 + 1), ii o.2.1, ii (wi (0 - o.2.1)), slw 1 off n' cap, ii i, pto 1 (off + i.toNat * 3), pto 1 (off + i.toNat * 3 + 2), ii o.2.2, ov (ngO o), slw 9002 0 1 1, slw 9000 0 1 capU, ud] = _; simp only [renL, ren_slw, ren_pto]; kernel_rfl) ⟨fun _ => by kernel_rfl, fun h => (by cases h), fun h => (by cases h), fun _ => by kernel_rfl, trivial⟩ (by kernel_rfl) (by kernel_rfl) (by kernel_rfl)
theorem rn18_l : Renum (HW off c) (F18 off n' cap (slw 4001 0 (m + 1) capU) (wi (i - 1)) (xL off n' cap i o m 4001 4000 9000)) [] [(4001, opq 3 ⟨A⟩ 24), (9000, deadO), (4000, .cells ⟨flO (ngO o)⟩ 24 (0, 0)), (9001, deadO), (9002, deadO), (1, win off c)] (F18 off n' cap (slw 9000 0 (m + 1) capU) (wi (i - 1)) (xL off n' cap i o m 9000 9002 9001)) [] ((9000, opq 3 ⟨A⟩ 24) :: H18 off c) (rho [(9000, 4001), (9002, 4000), (9001, 9000)]) :=
  renum_of (by kernel_rfl) (by show renL _ [slw 1 off n' cap, ud, sl0, slw 9000 0 (m + 1) capU, ii (wi (i - 1)), slw 1 off n' cap, ii n', ii (wi (n' - 1)), ii i, bb (decide (0 ≤ i)), ii i, ii (wi (i - 1)), slw 9001 0 m capU, slw 1 off n' cap, ii i, pto 1 (off + i.toNat * 3), pto 1 (off + i.toNat * 3), uu o.1, slw 1 off n' cap, ii i, pto 1 (off + i.toNat * 3), pto 1 (off + i.toNat * 3 + 1), ii o.2.1, ii (wi (0 - o.2.1)), slw 1 off n' cap, ii i, pto 1 (off + i.toNat * 3), pto 1 (off + i.toNat * 3 + 2), ii o.2.2, ov (ngO o), slw 9002 0 1 1, slw 9000 0 (m + 1) capU, ud] = _; simp only [renL, ren_slw, ren_pto]; kernel_rfl) ⟨fun _ => by kernel_rfl, fun h => (by cases h), fun h => (by cases h), fun _ => by kernel_rfl, trivial⟩ (by kernel_rfl) (by kernel_rfl) (by kernel_rfl)
end

end Go.Proofs.YtcjjckokaiobcaaDoor

/- The document's operations back. -/
namespace Go.Proofs.YtcjjckokaiobcaaDoor
open Go Go.RowKit
set_option linter.unusedSimpArgs false
set_option linter.unusedVariables false
set_option maxRecDepth 100000

theorem flO_size (R : List Op3) : (⟨R.flatMap flO⟩ : Array Value).size = R.length * 3 := by
  simp only [List.size_toArray]; exact KO.size R
theorem owB_ok {off : Nat} {L : List Op3} {k : Nat} {o : Op3} (hx : L[k]? = some o) : AllP (owB off L.length (cwx flO off L) k o) := by
  obtain ⟨c0, c1, c2⟩ := cwO_at off hx
  have hlt : k < L.length := (List.getElem?_eq_some_iff.1 hx).1
  have hix : ixO (k : Int) L.length := ⟨by omega, by omega⟩
  exact ⟨decide_eq_true (by omega), hix, Nat.le_add_right _ _, c0, hix, by omega, c1, hix, by omega, c2, trivial⟩
theorem dom18 {off : Nat} {c A : Array Value} {i : Nat} : domB (HW off c) i = true → domB ((9000, opq 3 A 24) :: H18 off c) i = true := all_dom (by kernel_rfl) i
theorem loop18 (off cap : Nat) (L : List Op3) (hL : L.length ≤ 1000) : ∀ (k : Nat) (X : Nat → Value) (R : List Op3), k ≤ L.length → R = ((L.drop k).reverse).map ngO →
    ∃ r Y, LoopI Tryd.prog L18 (HW off (cwx flO off L)) r (F18 off L.length cap (slw 9000 0 R.length capU) ((k : Int) - 1) X) ((9000, KO.opq R) :: H18 off (cwx flO off L)) (.exit 0) (F18 off L.length cap (slw 9000 0 (bkL L).length capU) (-1) Y) ((9000, KO.opq (bkL L)) :: H18 off (cwx flO off L))
  | 0, X, R, hk, hR => by
    have e : R = bkL L := by rw [hR, List.drop_zero]; rfl
    subst e
    obtain ⟨Y, e⟩ := t18_x off L.length cap (cwx flO off L) (-1) X ((bkL L).flatMap flO) (bkL L).length
    exact ⟨1, Y, LoopI.last (fun _ => dom18) (runLS_step mix e ⟨decide_eq_false (by omega), trivial⟩)⟩
  | k + 1, X, R, hk, hR => by
    have hlt : k < L.length := hk
    have hx : L[k]? = some L[k] := List.getElem?_eq_getElem hlt
    generalize L[k] = o at hx
    have hRl : R.length = L.length - (k + 1) := by rw [hR]; simp
    have e1 : ((k + 1 : Nat) : Int) - 1 = (k : Int) := by omega
    rw [e1]
    have hs := runLS_step mix (t18_l off L.length cap (cwx flO off L) k X o (R.flatMap flO) R.length) (allP_app (owB_ok hx) ⟨⟨flO_size R, by show _ ≤ 9223372036854775807; omega, by omega⟩, trivial⟩)
    rw [wi_pv (Nat.le_of_lt hlt) (by omega)] at hs
    have hn := rn18_l off L.length cap (cwx flO off L) k o (R.flatMap flO ++ flO (ngO o)) R.length
    rw [wi_pv (Nat.le_of_lt hlt) (by omega), opq_snoc] at hn
    rw [opq_snoc] at hs
    obtain ⟨r, Y, ih⟩ := loop18 off cap L hL k (xL off L.length cap k o R.length 9000 9002 9001) (R ++ [ngO o]) (Nat.le_of_lt hlt) (by rw [bk_drop hx, hR])
    rw [List.length_append, List.length_singleton] at ih
    exact ⟨r + 1, Y, LoopI.round (fun _ => dom18) hs hn ih⟩
theorem t18_nil : runF Tryd.prog 1000 [] 18 #[sl0] [] [] [] [] [] = some (rt sl0, [], []) := by kernel_rfl
theorem bk_len (L : List Op3) : (bkL L).length = L.length := by simp [bkL]
theorem bk_nil {L : List Op3} (h : bkL L = []) : L = [] := by
  have := bk_len L
  rw [h] at this
  exact List.eq_nil_of_length_eq_zero this.symm
/-- The document's operations back. -/
theorem dback_s (L : List Op3) (hL : L.length ≤ 1000) : LstA KO Tryd.prog 18 (fun s => #[s]) L KO (bkL L) := by
  refine ⟨fun h => ?_, fun h => ?_⟩
  · have e := bk_nil h
    subst e
    refine semA_mk false (fun β s => rfl) rfl (fun h => runF_pure mix t18_nil trivial rfl rfl) (fun off cap hl hc => ?_)
    have s0 := runLS_step mix (t18_p0 off 0 cap (cwx flO off [])) trivial
    have s1 := runLS_step mix (t18_p1 off 0 cap (cwx flO off [])) trivial
    have s2 := runLS_step mix (t18_p2 off 0 cap (cwx flO off [])) trivial
    obtain ⟨Y, e⟩ := t18_x0 off 0 cap (cwx flO off []) (wi (((0 : Nat) : Int) - 1)) (fun _ => ud)
    have s3 := (LoopN.loop (LoopN.last (runLS_step mix e ⟨decide_eq_false (by decide), trivial⟩))).block (id := 0)
    obtain ⟨T, e4, e5⟩ := t18_t0 off 0 cap (cwx flO off []) (wi (((0 : Nat) : Int) - 1)) Y
    exact callsV_step (f := 18) (fc := Tryd.f18) rfl b18_eq (s0.seq (s1.seq ((s2.seq s3).seq (runLS_step mix e4 trivial)))) rfl e5 rfl (fun _ _ h => h) rfl
  · have hne : L ≠ [] := fun e => h (by rw [e]; rfl)
    refine newA_of false (k := 9000) (o := KO.opq (bkL L)) (cc := capU) (fun _ _ => rfl) (fun _ _ => rfl) hne (.inr (.inl ⟨rfl, rfl⟩)) (by decide) (fun off cap hl hc => ?_)
    have s0 := runLS_step mix (t18_p0 off L.length cap (cwx flO off L)) trivial
    have s1 := runLS_step mix (t18_p1 off L.length cap (cwx flO off L)) trivial
    have s2 := runLS_step mix (t18_p2 off L.length cap (cwx flO off L)) trivial
    have hpos : 0 < L.length := by cases L with | nil => exact absurd rfl hne | cons x r => simp
    obtain ⟨k, hk⟩ : ∃ k, L.length = k + 1 := ⟨L.length - 1, by omega⟩
    have hlt : k < L.length := by omega
    have hx : L[k]? = some L[k] := List.getElem?_eq_getElem hlt
    generalize L[k] = o at hx
    have e1 : wi ((L.length : Int) - 1) = (k : Int) := by rw [wi_id (by omega) (by omega)]; omega
    rw [e1] at s2
    have hs := (runLS_step mix (t18_f off L.length cap (cwx flO off L) k (fun _ => ud) o) (owB_ok hx)).opaq (k := 4001) (z := 3) (T := 24) (c := ⟨flO (ngO o)⟩) rfl rfl
    have hs2 := hs.to rfl (show _ = [(4001, opq 3 ⟨flO (ngO o)⟩ 24), (4000, .cells ⟨flO (ngO o)⟩ 24 (0, 0)), (9001, deadO), (9002, deadO), (1, win off (cwx flO off L))] from rfl)
    have hn := rn18_f off L.length cap (cwx flO off L) k o
    rw [wi_pv (Nat.le_of_lt hlt) (by omega)] at hs2 hn
    rw [opq_one] at hs2 hn
    obtain ⟨r, Y, hl3⟩ := loop18 off cap L hL k (xF off L.length cap k o 0 9000 9002 0) [ngO o] (Nat.le_of_lt hlt) (by
      rw [bk_drop hx, show L.drop (k + 1) = [] from List.drop_eq_nil_of_le (by omega)]; rfl)
    have h4 := LoopI.loop (fun i hi => dom18 hi) (LoopI.preW (rn18_0 off L.length cap (cwx flO off L) k) (LoopI.round (fun _ hi => all_dom (by kernel_rfl) _ hi) hs2 hn hl3))
    obtain ⟨T, e4, e5⟩ := t18_t off L.length cap (cwx flO off L) (-1) Y ((bkL L).flatMap flO) (bkL L).length
    exact callsV_step (f := 18) (fc := Tryd.f18) rfl b18_eq (s0.seq (s1.seq ((s2.seq (h4.block (id := 0))).seq (runLS_step mix e4 trivial)))) rfl e5 rfl (sameL_sub ⟨rfl, rfl, trivial⟩) rfl

end Go.Proofs.YtcjjckokaiobcaaDoor

/- The program's operations back. -/
namespace Go.Proofs.YtcjjckokaiobcaaDoor
open Go Go.RowKit
set_option linter.unusedSimpArgs false
set_option linter.unusedVariables false
set_option maxRecDepth 100000

noncomputable def b17 : Code := match Tryd.f17.body with | some c => c | none => .skip
noncomputable def b40 : Code := match Tryd.f40.body with | some c => c | none => .skip
noncomputable def as17 : Code := rgA (cK (cB (pcx 2 b17)))
noncomputable def bd17 : Code := rgB (cK (cB (pcx 2 b17)))
noncomputable def L40 : Code := cK (cK (cB b40))
noncomputable def rec17 (off n' cap : Nat) : Obj := .loop { state := .ready, pending := none, fn := 0, tmps := ⟨[slw 1 off n' cap, ud, sl0, ptr 1000, ud, slw 1 off n' cap, .func (.func 40) #[] #[ptr 1001], ud, ud, ud, ud, ud, ud, ud, ud, ud, ud]⟩, params := #[7], assign := as17, body := bd17, defers := 1002 }
noncomputable abbrev H17 (off n' cap : Nat) (c : Array Value) (r : Value) : Hp := [(1001, .cells ⟨[slw 1 off n' cap]⟩ 22 (0, 0)), (1, win off c), (1000, .cells ⟨[r]⟩ 22 (0, 0)), (1002, .deferred (some [])), (1003, rec17 off n' cap)]
def F40 (off n' cap : Nat) (i : Int) (X : Nat → Value) : List Value := [yl 1003, ptr 1001, ud, ii i, slw 1 off n' cap, ii n', ii (wi (n' - 1)), X 7, X 8, X 9, X 10, X 11, X 12, X 13, X 14, X 15, X 16, X 17]
theorem b40_eq : Tryd.f40.body = some (.seq (cA b40) (.block 0 (.loop L40))) := by kernel_rfl
def xK (off n' cap : Nat) (i j : Int) (o : Op3) (k : Nat) : Value := [yl 1003, ptr 1001, ud, ii j, slw 1 off n' cap, ii n', ii (wi (n' - 1)), ii i, bb (decide (0 ≤ i)), ii i, ii j, yl 1003, slw 1 off n' cap, ii i, pto 1 (off + i.toNat * 3), ov o, bb true, bb (!true)].getD k ud
noncomputable abbrev T17 (off n' cap : Nat) (c : Array Value) : Hp := [(1001, .cells ⟨[slw 1 off n' cap]⟩ 22 (0, 0)), (1, win off c), (1002, .deferred (some [])), (1003, rec17 off n' cap)]
abbrev bxO (o : Op3) : Obj := .cells ⟨flO (ngO o)⟩ 24 (0, 0)
section
variable (off n' cap : Nat) (c : Array Value) (i j : Int) (X : Nat → Value) (o : Op3) (A : List Value) (m : Nat)
def owC : List Prop := [decide (0 ≤ i) = true, ixO i n', off ≤ off + i.toNat * 3, (c.toList.drop (off + i.toNat * 3)).take 3 = flO o]
theorem t40_p : runLS Tryd.prog 4000 (cA b40) (frame0 Tryd.f40 #[yl 1003, ptr 1001]) (H17 off n' cap c sl0) [] [] [] [] = some (.normal, F40 off n' cap (wi (n' - 1)) (fun _ => ud), H17 off n' cap c sl0, []) := by kernel_rfl
theorem t40_x0 : ∃ Y, runLS Tryd.prog 4000 L40 (F40 off n' cap i X) (H17 off n' cap c sl0) [f] [] [] [] = some (.exit 0, F40 off n' cap i Y, H17 off n' cap c sl0, [decide (0 ≤ i) = false]) := ⟨lt (runLS Tryd.prog 4000 L40 (F40 off n' cap i X) (H17 off n' cap c sl0) [f] [] [] []), by kernel_rfl⟩
theorem t40_x : ∃ Y, runLS Tryd.prog 4000 L40 (F40 off n' cap i X) ((9000, opq 3 ⟨A⟩ 24) :: H17 off n' cap c (slw 9000 0 m capU)) [f] [] [] [] = some (.exit 0, F40 off n' cap i Y, (9000, opq 3 ⟨A⟩ 24) :: H17 off n' cap c (slw 9000 0 m capU), [decide (0 ≤ i) = false]) := ⟨lt (runLS Tryd.prog 4000 L40 (F40 off n' cap i X) ((9000, opq 3 ⟨A⟩ 24) :: H17 off n' cap c (slw 9000 0 m capU)) [f] [] [] []), by kernel_rfl⟩
theorem t40_f : runLS Tryd.prog 4000 L40 (F40 off n' cap i X) (H17 off n' cap c sl0) [t] [] [] [flO o] = some (.normal, F40 off n' cap (wi (i - 1)) (xK off n' cap i (wi (i - 1)) o), [(1000, .cells ⟨[slw 4002 0 1 capU]⟩ 22 (0, 0)), (4002, .cells ⟨flO (ngO o)⟩ 24 (1, 3)), (4001, bxO o), (4000, bxO o)] ++ T17 off n' cap c, owC off n' c i o) := by kernel_rfl
theorem t40_l : runLS Tryd.prog 4000 L40 (F40 off n' cap i X) ((9000, opq 3 ⟨A⟩ 24) :: H17 off n' cap c (slw 9000 0 m capU)) [t] [] [] [flO o] = some (.normal, F40 off n' cap (wi (i - 1)) (xK off n' cap i (wi (i - 1)) o), [(1000, .cells ⟨[slw 4002 0 (m + 1) capU]⟩ 22 (0, 0)), (4002, opq 3 ⟨A ++ flO (ngO o)⟩ 24), (9000, deadO), (4001, bxO o), (4000, bxO o)] ++ T17 off n' cap c, owC off n' c i o ++ [(⟨A⟩ : Array Value).size = m * 3 ∧ m + 1 ≤ maxLen ∧ (m + 1) * 24 ≤ 140737488355328]) := by kernel_rfl
theorem rn40_f : Renum (H17 off n' cap c sl0) (F40 off n' cap j (xK off n' cap i j o)) [] ([(1000, .cells ⟨[slw 4002 0 1 capU]⟩ 22 (0, 0)), (4002, opq 3 ⟨flO (ngO o)⟩ 24), (4001, bxO o), (4000, bxO o)] ++ T17 off n' cap c) (F40 off n' cap j (xK off n' cap i j o)) [] ((9000, opq 3 ⟨flO (ngO o)⟩ 24) :: H17 off n' cap c (slw 9000 0 1 capU)) (rho [(9000, 4002)]) :=
  renum_of (by kernel_rfl) (by show renL _ [yl 1003, ptr 1001, ud, ii j, slw 1 off n' cap, ii n', ii (wi (n' - 1)), ii i, bb (decide (0 ≤ i)), ii i, ii j, yl 1003, slw 1 off n' cap, ii i, pto 1 (off + i.toNat * 3), ov o, bb true, bb (!true)] = _; simp only [renL, ren_slw, ren_pto]; kernel_rfl) ⟨fun _ => by kernel_rfl, fun _ => by simp only [renO, renA, renL, ren_slw]; kernel_rfl, fun _ => by kernel_rfl, fun _ => by simp only [renO, renA, renL, ren_slw]; kernel_rfl, fun _ => by kernel_rfl, fun _ => by unfold rec17; simp only [renO, renA, renL, ren_slw]; kernel_rfl, trivial⟩ (by kernel_rfl) (by kernel_rfl) (by kernel_rfl)
theorem rn40_l : Renum (H17 off n' cap c sl0) (F40 off n' cap j (xK off n' cap i j o)) [] ([(1000, .cells ⟨[slw 4002 0 (m + 1) capU]⟩ 22 (0, 0)), (4002, opq 3 ⟨A⟩ 24), (9000, deadO), (4001, bxO o), (4000, bxO o)] ++ T17 off n' cap c) (F40 off n' cap j (xK off n' cap i j o)) [] ((9000, opq 3 ⟨A⟩ 24) :: H17 off n' cap c (slw 9000 0 (m + 1) capU)) (rho [(9000, 4002)]) :=
  renum_of (by kernel_rfl) (by show renL _ [yl 1003, ptr 1001, ud, ii j, slw 1 off n' cap, ii n', ii (wi (n' - 1)), ii i, bb (decide (0 ≤ i)), ii i, ii j, yl 1003, slw 1 off n' cap, ii i, pto 1 (off + i.toNat * 3), ov o, bb true, bb (!true)] = _; simp only [renL, ren_slw, ren_pto]; kernel_rfl) ⟨fun _ => by kernel_rfl, fun _ => by simp only [renO, renA, renL, ren_slw]; kernel_rfl, fun _ => by kernel_rfl, fun _ => by simp only [renO, renA, renL, ren_slw]; kernel_rfl, fun _ => by kernel_rfl, fun _ => by unfold rec17; simp only [renO, renA, renL, ren_slw]; kernel_rfl, trivial⟩ (by kernel_rfl) (by kernel_rfl) (by kernel_rfl)
end
theorem dom40 {off n' cap : Nat} {c A : Array Value} {m : Nat} {i : Nat} : domB (H17 off n' cap c sl0) i = true → domB ((9000, opq 3 A 24) :: H17 off n' cap c (slw 9000 0 m capU)) i = true := all_dom (by kernel_rfl) i
theorem owC_ok {off : Nat} {L : List Op3} {k : Nat} {o : Op3} (hx : L[k]? = some o) : AllP (owC off L.length (cwx flO off L) k o) := by
  have hlt : k < L.length := (List.getElem?_eq_some_iff.1 hx).1
  exact ⟨decide_eq_true (by omega), ⟨by omega, by omega⟩, Nat.le_add_right _ _, cwO_take off hx, trivial⟩
theorem loop40 (off cap : Nat) (L : List Op3) (hL : L.length ≤ 1000) : ∀ (k : Nat) (X : Nat → Value) (R : List Op3), k ≤ L.length → R = ((L.drop k).reverse).map ngO →
    ∃ r Y, LoopI Tryd.prog L40 (H17 off L.length cap (cwx flO off L) sl0) r (F40 off L.length cap ((k : Int) - 1) X) ((9000, KO.opq R) :: H17 off L.length cap (cwx flO off L) (slw 9000 0 R.length capU)) (.exit 0) (F40 off L.length cap (-1) Y) ((9000, KO.opq (bkL L)) :: H17 off L.length cap (cwx flO off L) (slw 9000 0 (bkL L).length capU))
  | 0, X, R, hk, hR => by
    have e : R = bkL L := by rw [hR, List.drop_zero]; rfl
    subst e
    obtain ⟨Y, e⟩ := t40_x off L.length cap (cwx flO off L) (-1) X ((bkL L).flatMap flO) (bkL L).length
    exact ⟨1, Y, LoopI.last (fun _ => dom40) (runLS_step mix e ⟨decide_eq_false (by omega), trivial⟩)⟩
  | k + 1, X, R, hk, hR => by
    have hlt : k < L.length := hk
    have hx : L[k]? = some L[k] := List.getElem?_eq_getElem hlt
    generalize L[k] = o at hx
    have hRl : R.length = L.length - (k + 1) := by rw [hR]; simp
    have e1 : ((k + 1 : Nat) : Int) - 1 = (k : Int) := by omega
    rw [e1]
    have hs := runLS_step mix (t40_l off L.length cap (cwx flO off L) k X o (R.flatMap flO) R.length) (allP_app (owC_ok hx) ⟨⟨flO_size R, by show _ ≤ 9223372036854775807; omega, by omega⟩, trivial⟩)
    rw [wi_pv (Nat.le_of_lt hlt) (by omega)] at hs
    have hn := rn40_l off L.length cap (cwx flO off L) k ((k : Int) - 1) o (R.flatMap flO ++ flO (ngO o)) R.length
    rw [opq_snoc] at hn hs
    obtain ⟨r, Y, ih⟩ := loop40 off cap L hL k (xK off L.length cap k ((k : Int) - 1) o) (R ++ [ngO o]) (Nat.le_of_lt hlt) (by rw [bk_drop hx, hR])
    rw [List.length_append, List.length_singleton] at ih
    exact ⟨r + 1, Y, LoopI.round (fun _ => dom40) hs hn ih⟩
theorem t17_nil : runF Tryd.prog 1000 [] 17 #[sl0] [] [] [] [] [] = some (rt sl0, [], []) := by kernel_rfl
theorem t17_0 (off n' cap : Nat) (c : Array Value) : runF Tryd.prog 1000 [1] 17 #[slw 1 off n' cap] [(1, win off c)] [] [] [(40, rt ud, H17 off n' cap c sl0)] [] = some (rt sl0, [(1, win off c)], [CallsV Tryd.prog (.func 40) #[yl 1003, ptr 1001] (H17 off n' cap c sl0) (rt ud) (H17 off n' cap c sl0)]) := by kernel_rfl
theorem t17_1 (off n' cap : Nat) (c : Array Value) (A : List Value) (m : Nat) : runF Tryd.prog 1000 [9000, 1] 17 #[slw 1 off n' cap] [(1, win off c)] [] [] [(40, rt ud, (9000, opq 3 ⟨A⟩ 24) :: H17 off n' cap c (slw 9000 0 m capU))] [] = some (rt (slw 9000 0 m capU), [(9000, opq 3 ⟨A⟩ 24), (1, win off c)], [CallsV Tryd.prog (.func 40) #[yl 1003, ptr 1001] (H17 off n' cap c sl0) (rt ud) ((9000, opq 3 ⟨A⟩ 24) :: H17 off n' cap c (slw 9000 0 m capU))]) := by kernel_rfl
/-- The program's operations back. -/
theorem back_s (L : List Op3) (hL : L.length ≤ 1000) : LstA KO Tryd.prog 17 (fun s => #[s]) L KO (bkL L) := by
  refine ⟨fun h => ?_, fun h => ?_⟩
  · have e := bk_nil h
    subst e
    refine semA_mk false (fun β s => rfl) rfl (fun h => runF_pure mix t17_nil trivial rfl rfl) (fun off cap hl hc => ?_)
    have s0 := runLS_step mix (t40_p off 0 cap (cwx flO off [])) trivial
    obtain ⟨Y, e⟩ := t40_x0 off 0 cap (cwx flO off []) (wi (((0 : Nat) : Int) - 1)) (fun _ => ud)
    have s3 := (LoopN.loop (LoopN.last (runLS_step mix e ⟨decide_eq_false (by decide), trivial⟩))).block (id := 0)
    have hcv : CallsV Tryd.prog (.func 40) #[yl 1003, ptr 1001] (H17 off 0 cap (cwx flO off []) sl0) (rt ud) (H17 off 0 cap (cwx flO off []) sl0) := callsV_step (f := 40) (fc := Tryd.f40) rfl b40_eq (s0.seq s3) rfl rfl (by kernel_rfl) (fun _ _ h => h) (by kernel_rfl)
    exact runF_calls mix (t17_0 off 0 cap (cwx flO off [])) ⟨hcv, trivial⟩ rfl rfl
  · have hne : L ≠ [] := fun e => h (by rw [e]; rfl)
    refine newA_of false (k := 9000) (o := KO.opq (bkL L)) (cc := capU) (fun _ _ => rfl) (fun _ _ => rfl) hne (.inr (.inl ⟨rfl, rfl⟩)) (by decide) (fun off cap hl hc => ?_)
    have s0 := runLS_step mix (t40_p off L.length cap (cwx flO off L)) trivial
    have hpos : 0 < L.length := by cases L with | nil => exact absurd rfl hne | cons x r => simp
    obtain ⟨k, hk⟩ : ∃ k, L.length = k + 1 := ⟨L.length - 1, by omega⟩
    have hlt : k < L.length := by omega
    have hx : L[k]? = some L[k] := List.getElem?_eq_getElem hlt
    generalize L[k] = o at hx
    have e1 : wi ((L.length : Int) - 1) = (k : Int) := by rw [wi_id (by omega) (by omega)]; omega
    have s1 : StepV Tryd.prog (cA b40) (frame0 Tryd.f40 #[yl 1003, ptr 1001]) [] (H17 off L.length cap (cwx flO off L) sl0) .normal (F40 off L.length cap (k : Int) (fun _ => ud)) [] (H17 off L.length cap (cwx flO off L) sl0) := s0.to (by rw [e1]) rfl
    have hs := (runLS_step mix (t40_f off L.length cap (cwx flO off L) k (fun _ => ud) o) (owC_ok hx)).opaq (k := 4002) (z := 3) (T := 24) (c := ⟨flO (ngO o)⟩) rfl rfl
    have hs2 := hs.to rfl (show _ = [(1000, .cells ⟨[slw 4002 0 1 capU]⟩ 22 (0, 0)), (4002, opq 3 ⟨flO (ngO o)⟩ 24), (4001, bxO o), (4000, bxO o)] ++ T17 off L.length cap (cwx flO off L) from rfl)
    have hn := rn40_f off L.length cap (cwx flO off L) k ((k : Int) - 1) o
    rw [wi_pv (Nat.le_of_lt hlt) (by omega)] at hs2
    rw [opq_one] at hs2 hn
    obtain ⟨r, Y, hl3⟩ := loop40 off cap L hL k (xK off L.length cap k ((k : Int) - 1) o) [ngO o] (Nat.le_of_lt hlt) (by
      rw [bk_drop hx, show L.drop (k + 1) = [] from List.drop_eq_nil_of_le (by omega)]; rfl)
    have h4 := LoopI.loop (fun i hi => dom40 hi) (LoopI.round (fun _ hi => hi) hs2 hn hl3)
    have hcv : CallsV Tryd.prog (.func 40) #[yl 1003, ptr 1001] (H17 off L.length cap (cwx flO off L) sl0) (rt ud) ((9000, KO.opq (bkL L)) :: H17 off L.length cap (cwx flO off L) (slw 9000 0 (bkL L).length capU)) := callsV_step (f := 40) (fc := Tryd.f40) rfl b40_eq (s1.seq (h4.block (id := 0))) rfl rfl (by kernel_rfl) (fun _ _ h => h) (by kernel_rfl)
    exact runF_calls mix (t17_1 off L.length cap (cwx flO off L) ((bkL L).flatMap flO) (bkL L).length) ⟨hcv, trivial⟩ rfl rfl

end Go.Proofs.YtcjjckokaiobcaaDoor
