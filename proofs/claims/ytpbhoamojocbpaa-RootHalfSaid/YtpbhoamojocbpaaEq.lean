/- A walk by computation: two rows of numbers, told apart. -/
import Derived.Test.YtpbhoamojocbpaaE2
import Derived.ChangeKeysEq
namespace Go.Proofs.Ytpbhoamojocbpaa
open Go Go.RowKit
set_option linter.unusedSimpArgs false
set_option linter.unusedVariables false

def eqInts : List Value → List Value → Option Bool
  | [], [] => some true
  | .int k a :: xs, .int k' b :: ys => if k = k' then (eqInts xs ys).map fun r => (a == b) && r else none
  | _, _ => none
/-- Are two arrays of numbers the same? -/
def arrEq (P : Program) (t : TypeId) (xs ys : Array Value) : Option Bool :=
  if P.eqGuardType P.depth t then none else
  match P.underlying t with
  | some (.array n e) =>
    match P.underlying e, P.info? e with
    | some (.int _), some i => if i.size = 1 ∧ xs.size = n ∧ ys.size = n then eqInts xs.toList ys.toList else none
    | _, _ => none
  | _ => none

theorem eqInts_run {P : Program} (w : World) (d : Nat) {e : TypeId} {k : IntKind} {i : TypeInfo} (hu : P.underlying e = some (.int k)) (hi : P.info? e = some i) (hs : i.size = 1) (xs ys : Array Value) : ∀ (n s : Nat) (r : Bool), xs.size = s + n → ys.size = s + n → eqInts (xs.toList.drop s) (ys.toList.drop s) = some r →
    (Op.eqItems (d + 1) e 1 xs ys (List.range' s n)).run P w = .ok r w
  | 0, s, r, hx, hy, h => by
    rw [List.drop_eq_nil_of_le (by simp; omega), List.drop_eq_nil_of_le (by simp; omega)] at h
    simp only [eqInts, Option.some.injEq] at h
    subst h
    simp [Op.eqItems]
  | n + 1, s, r, hx, hy, h => by
    have h1 : s < xs.toList.length := by simp; omega
    have h2 : s < ys.toList.length := by simp; omega
    rw [List.drop_eq_getElem_cons h1, List.drop_eq_getElem_cons h2] at h
    have hag : (isAgg e).run P w = .ok false w := by
      unfold isAgg
      rw [Sem.run_bind, run_underlying hu w]
      simp
    have hp : ∀ (cs : Array Value) (i : Nat) (v : Value), cs[i]? = some v → (part e cs i).run P w = .ok v w := fun cs i v h => by
      simp [part, hag, h]
    cases hxv : xs.toList[s] <;> rw [hxv] at h <;> first | (simp only [eqInts] at h; cases h; done) | skip
    rename_i k1 a
    cases hyv : ys.toList[s] <;> rw [hyv] at h <;> first | (simp only [eqInts] at h; cases h; done) | skip
    rename_i k2 b
    simp only [eqInts] at h
    split at h
    case isFalse => cases h
    rename_i hk
    subst hk
    rw [Option.map_eq_some_iff] at h
    obtain ⟨r', hr', rfl⟩ := h
    have ih := eqInts_run w d hu hi hs xs ys n (s + 1) r' (by omega) (by omega) hr'
    have p1 := hp xs s (.int k1 a) (by rw [← Array.getElem?_toList, List.getElem?_eq_getElem h1, hxv])
    have p2 := hp ys s (.int k1 b) (by rw [← Array.getElem?_toList, List.getElem?_eq_getElem h2, hyv])
    rw [List.range'_succ]
    simp only [Op.eqItems, Nat.mul_one, Sem.run_bind, p1, p2, Result.andThen_ok, run_equalIn_int w d e k1 k a b hu]
    cases hab : (a == b)
    · simp
    · simpa using ih

theorem arrEq_eql {P : Program} {t : TypeId} {xs ys : Array Value} {r : Bool} (h : arrEq P t xs ys = some r) (w : World) (x y : Operand) (op : BinOp) :
    (eqGuard op t x y (.agg xs) (.agg ys)).run P w = .ok () w ∧ (Op.equalIn 10000 t (.agg xs) (.agg ys)).run P w = .ok r w := by
  unfold arrEq at h
  split at h
  · cases h
  rename_i hg
  split at h
  case h_2 => cases h
  rename_i n e hu
  split at h
  case h_2 => cases h
  rename_i k i hue hie
  split at h
  case isFalse => cases h
  rename_i hsz
  obtain ⟨hs, hx, hy⟩ := hsz
  refine ⟨run_eqGuard_agg w op t x y xs ys (by simpa using hg), ?_⟩
  rw [show (10000 : Nat) = 9998 + 1 + 1 from rfl, run_equalIn_array w (9998 + 1) xs ys hu hie]
  have hc : P.cellsOf e = 1 := by simp [Program.cellsOf, hie, hs]
  rw [hc, List.range_eq_range']
  exact eqInts_run w 9998 hue hie hs xs ys n 0 r (by omega) (by omega) (by simpa using h)

theorem eqInts_ren (β : Nat → Nat) : ∀ (xs ys : List Value) (r : Bool), eqInts xs ys = some r → renL β xs = xs ∧ renL β ys = ys
  | [], [], _, _ => ⟨rfl, rfl⟩
  | x :: xs, [], r, h => by cases x <;> (simp only [eqInts] at h; cases h)
  | [], y :: ys, r, h => by simp only [eqInts] at h; cases h
  | x :: xs, y :: ys, r, h => by
    cases x <;> first | (simp only [eqInts] at h; cases h; done) | skip
    cases y <;> first | (simp only [eqInts] at h; cases h; done) | skip
    simp only [eqInts] at h
    split at h
    case isFalse => cases h
    rw [Option.map_eq_some_iff] at h
    obtain ⟨r', hr', _⟩ := h
    obtain ⟨h1, h2⟩ := eqInts_ren β xs ys r' hr'
    simp only [renL, ren, h1, h2, and_self]
theorem arrEq_ren {P : Program} {t : TypeId} {xs ys : Array Value} {r : Bool} (β : Nat → Nat) (h : arrEq P t xs ys = some r) : arrEq P t (renA β xs) (renA β ys) = some r := by
  have hx : renA β xs = xs ∧ renA β ys = ys := by
    have h0 := h
    unfold arrEq at h0
    repeat' split at h0
    all_goals first
      | (cases h0; done)
      | (obtain ⟨h1, h2⟩ := eqInts_ren β _ _ _ h0
         obtain ⟨xs⟩ := xs
         obtain ⟨ys⟩ := ys
         exact ⟨congrArg Array.mk h1, congrArg Array.mk h2⟩)
  rw [hx.1, hx.2]
  exact h

end Go.Proofs.Ytpbhoamojocbpaa
